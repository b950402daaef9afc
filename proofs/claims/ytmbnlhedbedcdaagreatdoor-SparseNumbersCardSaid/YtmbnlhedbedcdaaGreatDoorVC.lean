/- VC: several texts in one. -/
import Derived.Test.YtmbnlhedbedcdaaGreatDoorVB
import Derived.Great.BuildSlice
/- Vectors as functions of places: how many digits their numbers take, where they are not 0; sums, multiples and products of them. -/
namespace Go.Proofs.YtmbnlhedbedcdaaGreatDoor.V
open Go.RowKit
open Go.Proofs.YtmbnlhedbedcdaaGreatDoor.Q (IsQ OneQ RetQ below_on ql Qbx)

/-! ### Numbers -/
/-- Over some bottom: at most p digits below, m above. -/
def Nm (p m : Nat) (q : Rat) : Prop := ∃ P N, P ≠ 0 ∧ P < B64 ^ p ∧ N < B64 ^ m ∧ Over P N q
theorem b64_pos : 0 < B64 := by rw [B64_eq]; omega
theorem pow_mono {a b : Nat} (h : a ≤ b) : B64 ^ a ≤ B64 ^ b := Nat.pow_le_pow_right b64_pos h
theorem mul_pow {x y a b : Nat} (hx : x < B64 ^ a) (hy : y < B64 ^ b) : x * y < B64 ^ (a + b) := by
  rw [Nat.pow_add]; exact Nat.mul_lt_mul'' hx hy
theorem add_pow {x y a : Nat} (hx : x < B64 ^ a) (hy : y < B64 ^ a) : x + y < B64 ^ (a + 1) := by
  rw [Nat.pow_succ]
  have h : B64 ^ a * 2 ≤ B64 ^ a * B64 := Nat.mul_le_mul_left _ (by rw [B64_eq]; omega)
  omega
theorem lt_dig {n k : Nat} (h : (dig n).length ≤ k) : n < B64 ^ k := by
  have h1 := val_lt (dig_digs n)
  rw [val_dig] at h1
  exact Nat.lt_of_lt_of_le h1 (pow_mono h)
theorem Nm.of_ql {q : Rat} {k : Nat} (h : ql q ≤ k) : Nm k k q := by
  unfold Q.ql at h
  refine ⟨q.den, q.num.natAbs, q.den_nz, lt_dig (by omega), lt_dig ?_, Over.self q⟩
  have h2 : zl q.num ≤ k := by omega
  exact h2
theorem Nm.ql {q : Rat} {p m k : Nat} (h : Nm p m q) (hp : p ≤ k) (hm : m ≤ k) : Q.ql q ≤ k := by
  obtain ⟨P, N, h0, h1, h2, h3⟩ := h
  exact h3.ql_le h0 (Nat.le_trans (dig_length_le h1) hp) (Nat.le_trans (dig_length_le h2) hm)
theorem Nm.mono {q : Rat} {p m p2 m2 : Nat} (h : Nm p m q) (hp : p ≤ p2) (hm : m ≤ m2) : Nm p2 m2 q := by
  obtain ⟨P, N, h0, h1, h2, h3⟩ := h
  exact ⟨P, N, h0, Nat.lt_of_lt_of_le h1 (pow_mono hp), Nat.lt_of_lt_of_le h2 (pow_mono hm), h3⟩
theorem Nm.mul {q r : Rat} {p m p' m' : Nat} (h : Nm p m q) (g : Nm p' m' r) : Nm (p + p') (m + m') (q * r) := by
  obtain ⟨P, N, h0, h1, h2, h3⟩ := h
  obtain ⟨Q, M, g0, g1, g2, g3⟩ := g
  exact ⟨P * Q, N * M, Nat.mul_ne_zero h0 g0, mul_pow h1 g1, mul_pow h2 g2, h3.mul g3⟩
theorem over_sum {P N Q M p m p' m' : Nat} (h1 : P < B64 ^ p) (h2 : N < B64 ^ m) (g1 : Q < B64 ^ p') (g2 : M < B64 ^ m') : N * Q + M * P < B64 ^ (max (m + p') (m' + p) + 1) :=
  add_pow (Nat.lt_of_lt_of_le (mul_pow h2 g1) (pow_mono (Nat.le_max_left _ _))) (Nat.lt_of_lt_of_le (mul_pow g2 h1) (pow_mono (Nat.le_max_right _ _)))
theorem over_both {P N Q M : Nat} {q r : Rat} (h : Over P N q) (g : Over Q M r) : Over (P * Q) (N * Q + M * P) (q + r) := by
  have g2 := g.up P
  rw [Nat.mul_comm Q P] at g2
  exact (h.up Q).add g2
theorem Nm.add {q r : Rat} {p m p' m' : Nat} (h : Nm p m q) (g : Nm p' m' r) : Nm (p + p') (max (m + p') (m' + p) + 1) (q + r) := by
  obtain ⟨P, N, h0, h1, h2, h3⟩ := h
  obtain ⟨Q, M, g0, g1, g2, g3⟩ := g
  exact ⟨P * Q, _, Nat.mul_ne_zero h0 g0, mul_pow h1 g1, over_sum h1 h2 g1 g2, over_both h3 g3⟩

/-! ### Functions of places -/
def fadd (F G : Int → Rat) (a : Int) : Rat := F a + G a
def fmul (q : Rat) (F : Int → Rat) (a : Int) : Rat := q * F a
/-- All over one bottom: at most p digits below, m above; at most L places at which it is not 0. -/
structure Fn (p m L : Nat) (F : Int → Rat) : Prop where
  over : ∃ P N, P ≠ 0 ∧ P < B64 ^ p ∧ N < B64 ^ m ∧ ∀ a, Over P N (F a)
  sup : ∃ S : List Int, S.length ≤ L ∧ ∀ a, F a ≠ 0 → a ∈ S
theorem Fn.nm {p m L : Nat} {F : Int → Rat} (h : Fn p m L F) (a : Int) : Nm p m (F a) := by
  obtain ⟨P, N, h0, h1, h2, h3⟩ := h.over
  exact ⟨P, N, h0, h1, h2, h3 a⟩
theorem Fn.mono {p m L p2 m2 L2 : Nat} {F : Int → Rat} (h : Fn p m L F) (hp : p ≤ p2) (hm : m ≤ m2) (hL : L ≤ L2) : Fn p2 m2 L2 F := by
  obtain ⟨P, N, h0, h1, h2, h3⟩ := h.over
  obtain ⟨S, s1, s2⟩ := h.sup
  exact ⟨⟨P, N, h0, Nat.lt_of_lt_of_le h1 (pow_mono hp), Nat.lt_of_lt_of_le h2 (pow_mono hm), h3⟩, S, Nat.le_trans s1 hL, s2⟩
theorem Fn.zero : Fn 1 0 0 (fun _ => 0) := ⟨⟨1, 0, by omega, by rw [B64_eq]; omega, by rw [Nat.pow_zero]; omega, fun _ => Over.zero _ _⟩, [], Nat.le_refl _, fun _ h => absurd rfl h⟩
theorem Fn.add {p m L p' m' L' : Nat} {F G : Int → Rat} (h : Fn p m L F) (g : Fn p' m' L' G) : Fn (p + p') (max (m + p') (m' + p) + 1) (L + L') (fadd F G) := by
  obtain ⟨P, N, h0, h1, h2, h3⟩ := h.over
  obtain ⟨Q, M, g0, g1, g2, g3⟩ := g.over
  obtain ⟨S, s1, s2⟩ := h.sup
  obtain ⟨T, t1, t2⟩ := g.sup
  refine ⟨⟨P * Q, _, Nat.mul_ne_zero h0 g0, mul_pow h1 g1, over_sum h1 h2 g1 g2, fun a => over_both (h3 a) (g3 a)⟩, S ++ T, by rw [List.length_append]; omega, fun a ha => ?_⟩
  by_cases hF : F a = 0
  · by_cases hG : G a = 0
    · exact absurd (by show F a + G a = 0; rw [hF, hG]; grind) ha
    · exact List.mem_append_right _ (t2 a hG)
  · exact List.mem_append_left _ (s2 a hF)
theorem Fn.mul {p m L p' m' : Nat} {F : Int → Rat} {q : Rat} (g : Nm p' m' q) (h : Fn p m L F) : Fn (p' + p) (m' + m) L (fmul q F) := by
  obtain ⟨P, N, h0, h1, h2, h3⟩ := h.over
  obtain ⟨Q, M, g0, g1, g2, g3⟩ := g
  obtain ⟨S, s1, s2⟩ := h.sup
  refine ⟨⟨Q * P, M * N, Nat.mul_ne_zero g0 h0, mul_pow g1 h1, mul_pow g2 h2, fun a => g3.mul (h3 a)⟩, S, s1, fun a ha => s2 a (fun e => ha ?_)⟩
  show q * F a = 0
  rw [e, Rat.mul_zero]
theorem Fn.put {p m L p' m' : Nat} {F : Int → Rat} {q : Rat} (h : Fn p m L F) (g : Nm p' m' q) (b : Int) : Fn (p + p') (max (m + p') (m' + p)) (L + 1) (putAt F b q) := by
  obtain ⟨P, N, h0, h1, h2, h3⟩ := h.over
  obtain ⟨Q, M, g0, g1, g2, g3⟩ := g
  obtain ⟨S, s1, s2⟩ := h.sup
  refine ⟨⟨P * Q, max (N * Q) (M * P), Nat.mul_ne_zero h0 g0, mul_pow h1 g1, ?_, fun a => ?_⟩, b :: S, by rw [List.length_cons]; omega, fun a ha => ?_⟩
  · have e1 := Nat.lt_of_lt_of_le (mul_pow h2 g1) (pow_mono (Nat.le_max_left (m + p') (m' + p)))
    have e2 := Nat.lt_of_lt_of_le (mul_pow g2 h1) (pow_mono (Nat.le_max_right (m + p') (m' + p)))
    omega
  · unfold putAt
    split
    · have g4 := g3.up P
      rw [Nat.mul_comm Q P] at g4
      exact g4.mono (Nat.le_max_right _ _)
    · exact ((h3 a).up Q).mono (Nat.le_max_left _ _)
  · unfold putAt at ha
    split at ha
    · next e => rw [e]; exact List.mem_cons_self ..
    · exact List.mem_cons_of_mem _ (s2 a ha)

/-! ### Lists of terms -/
theorem common (k : Nat) : ∀ l : List (Int × Rat), (∀ x ∈ l, ql x.2 ≤ k) → ∃ P, P ≠ 0 ∧ P ≤ B64 ^ (k * l.length) ∧ ∀ x ∈ l, Over P (B64 ^ (k * l.length + k)) x.2
  | [], _ => ⟨1, by omega, by simp, fun _ h => by cases h⟩
  | x :: l, h => by
    obtain ⟨P, h0, h1, h2⟩ := common k l (fun y hy => h y (List.mem_cons_of_mem _ hy))
    obtain ⟨Q, M, g0, g1, g2, g3⟩ := Nm.of_ql (h x (List.mem_cons_self ..))
    have e1 : P * Q ≤ B64 ^ (k * (x :: l).length) := by
      rw [List.length_cons, Nat.mul_succ, Nat.pow_add]
      exact Nat.mul_le_mul h1 (Nat.le_of_lt g1)
    refine ⟨P * Q, Nat.mul_ne_zero h0 g0, e1, fun y hy => ?_⟩
    rw [List.length_cons, Nat.mul_succ]
    rcases List.mem_cons.1 hy with rfl | hy
    · have g4 := g3.up P
      rw [Nat.mul_comm Q P] at g4
      refine g4.mono ?_
      rw [Nat.pow_add, Nat.pow_add]
      have e2 := Nat.mul_le_mul (Nat.le_of_lt g2) h1
      have e3 : 0 < B64 ^ k := Nat.pow_pos b64_pos
      calc M * P ≤ B64 ^ k * B64 ^ (k * l.length) := e2
        _ = B64 ^ (k * l.length) * B64 ^ k := Nat.mul_comm _ _
        _ ≤ B64 ^ (k * l.length) * B64 ^ k * B64 ^ k := Nat.le_mul_of_pos_right _ e3
    · refine ((h2 y hy).up Q).mono ?_
      rw [Nat.pow_add (n := k) (m := k * l.length + k)]
      exact Nat.mul_le_mul_left _ (Nat.le_of_lt g1)
/-- A list of short numbers: all over one bottom. -/
theorem short_fn {k L : Nat} {l : List (Int × Rat)} (h : ∀ x ∈ l, ql x.2 ≤ k) (hL : l.length ≤ L) (hL2 : L ≤ 1000) : Fn (k * L + 1) (k * L + k + 1) L (tot l) ∧ (k * L + k + 1 ≤ 700 → Short l) := by
  obtain ⟨P, h0, h1, h2⟩ := common k l h
  have hk : k * l.length ≤ k * L := Nat.mul_le_mul_left k hL
  have e1 : P < B64 ^ (k * L + 1) := by
    refine Nat.lt_of_le_of_lt (Nat.le_trans h1 (pow_mono hk)) ?_
    rw [Nat.pow_succ]
    have : 0 < B64 ^ (k * L) := Nat.pow_pos b64_pos
    have e : B64 ^ (k * L) * 2 ≤ B64 ^ (k * L) * B64 := Nat.mul_le_mul_left _ (by rw [B64_eq]; omega)
    omega
  have e2 : l.length * B64 ^ (k * l.length + k) < B64 ^ (k * L + k + 1) := by
    have h3 : B64 ^ (k * l.length + k) ≤ B64 ^ (k * L + k) := pow_mono (by omega)
    have h4 : 0 < B64 ^ (k * L + k) := Nat.pow_pos b64_pos
    have h5 : l.length * B64 ^ (k * l.length + k) ≤ 1000 * B64 ^ (k * L + k) := Nat.mul_le_mul (by omega) h3
    rw [Nat.pow_succ]
    have e : B64 ^ (k * L + k) * 1001 ≤ B64 ^ (k * L + k) * B64 := Nat.mul_le_mul_left _ (by rw [B64_eq]; omega)
    omega
  refine ⟨⟨⟨P, _, h0, e1, e2, fun a => Over.tot h2 a⟩, l.map Prod.fst, by rw [List.length_map]; exact hL, fun a ha => ?_⟩, fun hle => ?_⟩
  · obtain ⟨x, hx, rfl⟩ := tot_in ha
    exact List.mem_map_of_mem hx
  · exact short_of h2 h0 (Nat.le_trans (dig_length_le e1) (by omega)) (Nat.le_trans (dig_length_le e2) hle)
theorem nodup_of (S : List Int) : ∃ T : List Int, T.Nodup ∧ T.length ≤ S.length ∧ ∀ a, a ∈ S → a ∈ T := by
  induction S with
  | nil => exact ⟨[], List.nodup_nil, Nat.le_refl _, fun _ h => h⟩
  | cons x S ih =>
    obtain ⟨T, h1, h2, h3⟩ := ih
    by_cases hx : x ∈ T
    · refine ⟨T, h1, by rw [List.length_cons]; omega, fun a ha => ?_⟩
      rcases List.mem_cons.1 ha with rfl | ha
      · exact hx
      · exact h3 a ha
    · refine ⟨x :: T, List.nodup_cons.2 ⟨hx, h1⟩, by simpa using h2, fun a ha => ?_⟩
      rcases List.mem_cons.1 ha with rfl | ha
      · exact List.mem_cons_self ..
      · exact List.mem_cons_of_mem _ (h3 a ha)
theorem nodup_le : ∀ {l S : List Int}, l.Nodup → (∀ a ∈ l, a ∈ S) → l.length ≤ S.length
  | [], _, _, _ => Nat.zero_le _
  | x :: l, S, h, hs => by
    obtain ⟨h1, h2⟩ := List.nodup_cons.1 h
    have hx := hs x (List.mem_cons_self ..)
    have h3 : l.length ≤ (S.erase x).length := nodup_le h2 (fun a ha => (List.mem_erase_of_ne (fun e => h1 (by rw [← e]; exact ha))).2 (hs a (List.mem_cons_of_mem _ ha)))
    rw [List.length_erase_of_mem hx] at h3
    have h4 := List.length_pos_of_mem hx
    rw [List.length_cons]
    omega
theorem is_len {F : Int → Rat} {l : List (Int × Rat)} {p m L : Nat} (h : Is F l) (hF : Fn p m L F) : l.length ≤ L := by
  obtain ⟨S, s1, s2⟩ := hF.sup
  have h1 : (l.map Prod.fst).length ≤ S.length := by
    refine nodup_le (List.Pairwise.map _ (fun s t (hst : s.1 < t.1) => by show s.1 ≠ t.1; omega) h.1.up) (fun a ha => ?_)
    obtain ⟨x, hx, rfl⟩ := List.mem_map.1 ha
    apply s2
    rw [← h.2, canon_mem h.1 hx]
    exact h.1.nz x hx
  rw [List.length_map] at h1
  omega
theorem is_short {F : Int → Rat} {l : List (Int × Rat)} {p m L : Nat} (h : Is F l) (hF : Fn p m L F) (hp : p ≤ 700) (hm : m + 1 ≤ 700) (hL : L ≤ 1000) : Short l := by
  have hl := is_len h hF
  obtain ⟨P, N, h0, h1, h2, h3⟩ := hF.over
  refine short_is h h3 hl h0 (Nat.le_trans (dig_length_le h1) hp) (Nat.le_trans (dig_length_le (k := m + 1) ?_) hm)
  rw [Nat.pow_succ, Nat.mul_comm L N]
  exact Nat.mul_lt_mul'' h2 (Nat.lt_of_le_of_lt hL (by rw [B64_eq]; omega))
theorem is_ql {F : Int → Rat} {l : List (Int × Rat)} {p m L k : Nat} (h : Is F l) (hF : Fn p m L F) (hp : p ≤ k) (hm : m ≤ k) : ∀ x ∈ l, ql x.2 ≤ k := by
  intro x hx
  have h1 := h.2 x.1
  rw [canon_mem h.1 hx] at h1
  rw [h1]
  exact (hF.nm x.1).ql hp hm

/-! ### The product of two -/
def DotF (F G : Int → Rat) (q : Rat) : Prop := ∀ L : List Int, L.Nodup → (∀ a, a ∉ L → F a * G a = 0) → q = over (fun a => F a * G a) L
theorem dot_small {F G : Int → Rat} {p m L p' m' L' : Nat} (h : Fn p m L F) (g : Fn p' m' L' G) (hL : L ≤ 1000) : ∀ T : List Int, T.Nodup → Nm (p + p') (m + m' + 1) (over (fun a => F a * G a) T) := by
  obtain ⟨P, N, h0, h1, h2, h3⟩ := h.over
  obtain ⟨Q, M, g0, g1, g2, g3⟩ := g.over
  obtain ⟨S, s1, s2⟩ := h.sup
  intro T hT
  rw [← over_filter]
  have hl : (T.filter (fun a => decide (F a * G a ≠ 0))).length ≤ L := by
    refine Nat.le_trans (nodup_le (S := S) (hT.sublist List.filter_sublist) (fun a ha => s2 a (fun e => ?_))) s1
    have h4 := of_decide_eq_true (List.mem_filter.1 ha).2
    exact h4 (by rw [e, Rat.zero_mul])
  have hov : ∀ U : List Int, Over (P * Q) (U.length * (N * M)) (over (fun a => F a * G a) U) := by
    intro U
    induction U with
    | nil => exact Over.zero _ _
    | cons a U ih =>
      rw [List.length_cons, Nat.succ_mul, Nat.add_comm]
      exact Over.add ((h3 a).mul (g3 a)) ih
  refine ⟨P * Q, _, Nat.mul_ne_zero h0 g0, mul_pow h1 g1, ?_, hov _⟩
  have e1 := mul_pow h2 g2
  rw [Nat.pow_succ, Nat.mul_comm _ (N * M)]
  exact Nat.mul_lt_mul'' e1 (Nat.lt_of_le_of_lt (Nat.le_trans hl hL) (by rw [B64_eq]; omega))
theorem smalldot {X Y : List (Int × Rat)} {p m L p' m' L' : Nat} (h : Fn p m L (tot X)) (g : Fn p' m' L' (tot Y)) (hL : L ≤ 1000) (hp : p + p' ≤ 700) (hm : m + m' + 1 ≤ 700) : SmallDot X Y := by
  intro D hD
  rw [dotD_over (tot X) (tot Y) D hD.2]
  exact (dot_small h g hL _ (List.Pairwise.map _ (fun s t (hst : s.1 < t.1) => by show s.1 ≠ t.1; omega) hD.1)).ql hp hm
/-- Places that hold all at which it is not 0. -/
theorem Fn.places {p m L : Nat} {F : Int → Rat} (h : Fn p m L F) : ∃ T : List Int, T.Nodup ∧ ∀ a, a ∉ T → F a = 0 := by
  obtain ⟨S, _, s2⟩ := h.sup
  obtain ⟨T, t1, _, t3⟩ := nodup_of S
  exact ⟨T, t1, fun a ha => Classical.byContradiction fun hn => ha (t3 a (s2 a hn))⟩
theorem DotF.nm {F G : Int → Rat} {p m L p' m' L' : Nat} {q : Rat} (hq : DotF F G q) (h : Fn p m L F) (g : Fn p' m' L' G) (hL : L ≤ 1000) : Nm (p + p') (m + m' + 1) q := by
  obtain ⟨T, t1, t2⟩ := h.places
  rw [hq T t1 (fun a ha => by rw [t2 a ha, Rat.zero_mul])]
  exact dot_small h g hL T t1
theorem dotf_comm {F G : Int → Rat} {p m L : Nat} {q r : Rat} (h : Fn p m L F) (hq : DotF F G q) (hr : DotF G F r) : q = r := by
  obtain ⟨T, t1, t2⟩ := h.places
  rw [hq T t1 (fun a ha => by rw [t2 a ha, Rat.zero_mul]), hr T t1 (fun a ha => by rw [t2 a ha, Rat.mul_zero])]
  exact over_congr (fun a _ => Rat.mul_comm _ _)
theorem dotf_eq {F G : Int → Rat} {p m L : Nat} {q r : Rat} (h : Fn p m L F) (hq : DotF F G q) (hr : DotF F G r) : q = r := by
  obtain ⟨T, t1, t2⟩ := h.places
  rw [hq T t1 (fun a ha => by rw [t2 a ha, Rat.zero_mul]), hr T t1 (fun a ha => by rw [t2 a ha, Rat.zero_mul])]
theorem dotf_lin {X Y Z : Int → Rat} {p m L : Nat} {a q r s : Rat} (h : Fn p m L Z) (hq : DotF (fadd Y (fmul a X)) Z q) (hr : DotF Y Z r) (hs : DotF X Z s) : q = r + a * s := by
  obtain ⟨T, t1, t2⟩ := h.places
  rw [hq T t1 (fun b hb => by rw [t2 b hb, Rat.mul_zero]), hr T t1 (fun b hb => by rw [t2 b hb, Rat.mul_zero]), hs T t1 (fun b hb => by rw [t2 b hb, Rat.mul_zero]), ← over_mul, ← over_add]
  refine over_congr (fun b _ => ?_)
  show (Y b + a * X b) * Z b = Y b * Z b + a * (X b * Z b)
  grind

/-! ### In memory -/
/-- A vector that goes in. -/
structure VF (w : World) (A : Option Addr) (n c : Nat) (F : Int → Rat) : Prop where
  ex : ∃ ys, IsV w A n c ys 700 ∧ Short (vals ys) ∧ tot (vals ys) = F
  len : n ≤ 1000
  blk : ∀ a, A = some a → a.block < w.heap.size
/-- A vector in its one form. -/
structure CF (w : World) (A : Option Addr) (n c : Nat) (F : Int → Rat) : Prop where
  ex : ∃ ys, IsV w A n c ys 700 ∧ Is F (vals ys) ∧ ∀ y ∈ ys, OneQ w y.1.s y.1.A y.1.n y.1.c y.1.t y.1.B y.1.m y.1.d y.2
  blk : ∀ a, A = some a → a.block < w.heap.size
theorem VF.below {w w' : World} {A : Option Addr} {n c : Nat} {F : Int → Rat} (h : VF w A n c F) (hb : Below w.heap.size w w') : VF w' A n c F := by
  obtain ⟨ys, h1, h2, h3⟩ := h.ex
  exact ⟨⟨ys, h1.below hb, h2, h3⟩, h.len, fun a ha => Nat.lt_of_lt_of_le (h.blk a ha) hb.size⟩
theorem CF.below {w w' : World} {A : Option Addr} {n c : Nat} {F : Int → Rat} (h : CF w A n c F) (hb : Below w.heap.size w w') : CF w' A n c F := by
  obtain ⟨ys, h1, h2, h3⟩ := h.ex
  exact ⟨⟨ys, h1.below hb, h2, fun y hy => (h3 y hy).below hb⟩, fun a ha => Nat.lt_of_lt_of_le (h.blk a ha) hb.size⟩
theorem CF.vf {w : World} {A : Option Addr} {n c p m L : Nat} {F : Int → Rat} (h : CF w A n c F) (hF : Fn p m L F) (hp : p ≤ 700) (hm : m + 1 ≤ 700) (hL : L ≤ 1000) : VF w A n c F := by
  obtain ⟨ys, h1, h2, h3⟩ := h.ex
  refine ⟨⟨ys, h1, is_short h2 hF hp hm hL, funext h2.2⟩, ?_, h.blk⟩
  have := is_len h2 hF
  rw [vals_len] at this
  rw [h1.en]
  omega
theorem VF.nil (w : World) (A : Option Addr) (c : Nat) (hA : ∀ a, A = some a → a.block < w.heap.size) : VF w A 0 c (fun _ => 0) := ⟨⟨[], IsV.nil w A c 700, Short.nil, funext tot_nil⟩, by omega, hA⟩
/-- An answer that is a vector. -/
def RetC (w : World) (F : Int → Rat) (e : Ending) (w' : World) : Prop :=
  ∃ A n c, e = .returned (.slice A n c) ∧ CF w' A n c F ∧ Below w.heap.size w w'
theorem retc_of {w w' : World} {p m L : Nat} {F : Int → Rat} {e : Ending} (hF : Fn p m L F) (hp : p ≤ 700) (hm : m ≤ 700) (h : RetV w (Is F) e w') : RetC w F e w' := by
  obtain ⟨g, n, c, zs, rfl, h1, h2, h3, h4, h5⟩ := h
  have hk : ∀ y ∈ zs, ql y.2 ≤ 700 := fun y hy => is_ql h3 hF hp hm (y.1.at_, y.2) (List.mem_map.2 ⟨y, hy, rfl⟩)
  refine ⟨some ⟨g, 0, none⟩, n, c, rfl, ⟨⟨zs, own_isv h1 h4 hk, h3, fun y hy => (h4 y hy).1⟩, fun a ha => ?_⟩, h5⟩
  obtain rfl := Option.some.inj ha
  rcases h1.row.2 with ⟨h0, _⟩ | ⟨g', cap, cur, e, _, hgc, _⟩
  · cases h0
  · obtain ⟨e2, _, _⟩ : g = g' ∧ n = (zs.map Prod.fst).length ∧ c = cap := by simpa using e
    show g < w'.heap.size
    rw [e2]
    exact lt_of_block hgc
theorem CF.empty {w : World} {A : Option Addr} {n c : Nat} {F : Int → Rat} (h : CF w A n c F) (h0 : ∀ a, F a = 0) : n = 0 := by
  obtain ⟨ys, h1, h2, h3⟩ := h.ex
  rw [h1.en]
  cases ys with
  | nil => rfl
  | cons y ys => exact absurd ((h2.2 y.1.at_).trans (h0 _)) (by
      rw [canon_mem h2.1 (x := (y.1.at_, y.2)) (List.mem_cons_self ..)]
      exact h2.1.nz (y.1.at_, y.2) (List.mem_cons_self ..))
/-- Two in the one form are the same list just if they have the same everywhere. -/
theorem cf_eq {w w' : World} {A B : Option Addr} {n c m d : Nat} {F G : Int → Rat} {xs ys : List (TV × Rat)} (_ : IsV w A n c xs 700) (hx : Is F (vals xs)) (_ : IsV w' B m d ys 700) (hy : Is G (vals ys)) : vals xs = vals ys ↔ F = G := by
  constructor
  · intro e
    funext a
    rw [← hx.2, ← hy.2, e]
  · intro e
    exact hx.1.ext hy.1 (fun a => by rw [hx.2, hy.2, e])
section
variable {w : World} {A B : Option Addr} {n c m d : Nat} {F G H : Int → Rat} {p l L : Nat} {sa : Bool} {Aa : Option Addr} {na ca : Nat} {ta : Bool} {Ba : Option Addr} {ma da : Nat} {q : Rat}
theorem norm_c (hx : VF w A n c F) (hF : Fn p l L F) (hp : p ≤ 700) (hl : l ≤ 700) : Calls Tryz.prog 9 #[.slice A n c] w (RetC w F) := by
  obtain ⟨xs, h1, h2, h3⟩ := hx.ex
  refine (norm_v h1 (Nat.le_refl _) (Nat.le_trans hx.len (by omega)) h2 hx.blk).mono fun e w' h => ?_
  rw [h3] at h
  exact retc_of hF hp hl h
theorem add_c (hx : VF w A n c F) (hy : VF w B m d G) (hH : fadd F G = H) (hF : Fn p l L H) (hp : p ≤ 700) (hl : l ≤ 700) : Calls Tryz.prog 27 #[.slice A n c, .slice B m d] w (RetC w H) := by
  obtain ⟨xs, h1, h2, h3⟩ := hx.ex
  obtain ⟨ys, g1, g2, g3⟩ := hy.ex
  refine (add_v h1 (Nat.le_refl _) (Nat.le_trans hx.len (by omega)) h2 hx.blk g1 (Nat.le_trans hy.len (by omega)) g2 hy.blk).mono fun e w' h => ?_
  rw [h3, g3] at h
  exact retc_of hF hp hl (by rw [← hH]; exact h)
theorem scale_c (hq : IsQ w sa Aa na ca ta Ba ma da q 700) (hx : VF w A n c F) (hH : fmul q F = H) (hF : Fn p l L H) (hp : p ≤ 700) (hl : l ≤ 700) : Calls Tryz.prog 13 #[.agg #[.bool sa, .slice Aa na ca, .bool ta, .slice Ba ma da], .slice A n c] w (RetC w H) := by
  obtain ⟨xs, h1, h2, h3⟩ := hx.ex
  refine (scale_v hq h1 (Nat.le_refl _) (Nat.le_trans hx.len (by omega)) h2 hx.blk).mono fun e w' h => ?_
  rw [h3] at h
  exact retc_of hF hp hl (by rw [← hH]; exact h)
theorem axpy_c {p2 l2 L2 : Nat} (hq : IsQ w sa Aa na ca ta Ba ma da q 700) (hx : VF w A n c F) (hy : VF w B m d G) (hH : fadd F (fmul q G) = H) (hF : Fn p l L H) (hp : p ≤ 700) (hl : l ≤ 700) (hG : Fn p2 l2 L2 (fmul q G)) (hp2 : p2 ≤ 700) (hl2 : l2 ≤ 700) : Calls Tryz.prog 35 #[.slice A n c, .agg #[.bool sa, .slice Aa na ca, .bool ta, .slice Ba ma da], .slice B m d] w (RetC w H) := by
  obtain ⟨xs, h1, h2, h3⟩ := hx.ex
  obtain ⟨ys, g1, g2, g3⟩ := hy.ex
  refine (axpy_v hq h1 (Nat.le_refl _) (Nat.le_trans hx.len (by omega)) h2 hx.blk g1 (Nat.le_trans hy.len (by omega)) g2 hy.blk (fun a => by rw [g3]; exact (hG.nm a).ql hp2 hl2)).mono fun e w' h => ?_
  rw [h3, g3] at h
  exact retc_of hF hp hl (by rw [← hH]; exact h)
theorem put_c (hq : IsQ w sa Aa na ca ta Ba ma da q 700) (hql : ql q ≤ 700) (hx : VF w A n c F) (a : Int) (ha : -9223372036854775808 ≤ a ∧ a ≤ 9223372036854775807) (hH : putAt F a q = H) (hF : Fn p l L H) (hp : p ≤ 700) (hl : l ≤ 700) : Calls Tryz.prog 11 #[.slice A n c, .int .i64 a, .agg #[.bool sa, .slice Aa na ca, .bool ta, .slice Ba ma da]] w (RetC w H) := by
  obtain ⟨xs, h1, h2, h3⟩ := hx.ex
  refine (put_v hq hql h1 (Nat.le_refl _) (Nat.le_trans hx.len (by omega)) h2 a ha).mono fun e w' h => ?_
  rw [h3] at h
  exact retc_of hF hp hl (by rw [← hH]; exact h)
theorem get_c (hx : VF w A n c F) (a : Int) (r : Rat) (hr : F a = r) : Calls Tryz.prog 10 #[.slice A n c, .int .i64 a] w (Q.RetQ w r) := by
  obtain ⟨xs, h1, h2, h3⟩ := hx.ex
  exact get_v h1 (Nat.le_refl _) (Nat.le_trans hx.len (by omega)) h2 a r (by rw [h3, hr])
theorem dot_c {p2 l2 L2 : Nat} (hx : VF w A n c F) (hy : VF w B m d G) (hF : Fn p l L F) (hG : Fn p2 l2 L2 G) (hL : L ≤ 1000) (hp : p + p2 ≤ 700) (hl : l + l2 + 1 ≤ 700) : Calls Tryz.prog 36 #[.slice A n c, .slice B m d] w (fun e w' => ∃ q, DotF F G q ∧ ql q ≤ 700 ∧ Q.RetQ w q e w') := by
  obtain ⟨xs, h1, h2, h3⟩ := hx.ex
  obtain ⟨ys, g1, g2, g3⟩ := hy.ex
  refine (dot_v h1 (Nat.le_refl _) (Nat.le_trans hx.len (by omega)) h2 hx.blk g1 (Nat.le_trans hy.len (by omega)) g2 hy.blk (smalldot (by rw [h3]; exact hF) (by rw [g3]; exact hG) hL hp hl)).mono fun e w' h => ?_
  obtain ⟨q, k1, k2, k3⟩ := h
  refine ⟨q, ?_, k2, k3⟩
  have k4 : DotF (tot (vals xs)) (tot (vals ys)) q := k1
  rwa [h3, g3] at k4
theorem same_c (hx : VF w A n c F) (hy : VF w B m d G) : Calls Tryz.prog 14 #[.slice A n c, .slice B m d] w (fun e w' => ∃ b, e = .returned (.bool b) ∧ (b = true ↔ F = G) ∧ Below w.heap.size w w') := by
  obtain ⟨xs, h1, h2, h3⟩ := hx.ex
  obtain ⟨ys, g1, g2, g3⟩ := hy.ex
  refine (same_v h1 (Nat.le_refl _) (Nat.le_trans hx.len (by omega)) h2 hx.blk g1 (Nat.le_trans hy.len (by omega)) g2 hy.blk).mono fun e w' h => ?_
  obtain ⟨b, rfl, k2, k3⟩ := h
  refine ⟨b, rfl, k2.trans ?_, k3⟩
  rw [h3, g3]
  exact ⟨funext, fun e a => by rw [e]⟩
end
end Go.Proofs.YtmbnlhedbedcdaaGreatDoor.V

/- The laws' helpers at vectors: SameVec, ShortVec, walked. -/
namespace Go.Proofs.YtmbnlhedbedcdaaGreatDoor.V
open Go.RowKit
open Go.Proofs.YtmbnlhedbedcdaaGreatDoor.Q (IsQ OneQ RetQ below_on ql Qbx)

def TV.rat (x : TV) : Value := .agg #[.bool x.s, .slice x.A x.n x.c, .bool x.t, .slice x.B x.m x.d]
theorem row_at2 {w : World} {A : Option Addr} {xs : List TV} (h : Row w A xs) {j : Nat} {x : TV} (hj : xs[j]? = some x) : ∃ b off, A = some ⟨b, off, none⟩ ∧ ∀ V, Below w.heap.size w V →
    V.cell? ⟨b, off + j * 5, none⟩ = some (.int .i64 x.at_) ∧ V.cell? ⟨b, off + j * 5 + 1, none⟩ = some (.bool x.s) ∧ V.cell? ⟨b, off + j * 5 + 2, none⟩ = some (.slice x.A x.n x.c) ∧ V.cell? ⟨b, off + j * 5 + 3, none⟩ = some (.bool x.t) ∧ V.cell? ⟨b, off + j * 5 + 4, none⟩ = some (.slice x.B x.m x.d) := by
  obtain ⟨b, off, e, hlt, c0, c1, c2, c3, c4⟩ := h.at_ hj
  exact ⟨b, off, e, fun V hV => ⟨(hV.cell (p := ⟨b, off + j * 5, none⟩) hlt).trans c0, (hV.cell (p := ⟨b, off + j * 5 + 1, none⟩) hlt).trans c1, (hV.cell (p := ⟨b, off + j * 5 + 2, none⟩) hlt).trans c2, (hV.cell (p := ⟨b, off + j * 5 + 3, none⟩) hlt).trans c3, (hV.cell (p := ⟨b, off + j * 5 + 4, none⟩) hlt).trans c4⟩⟩
/-- What SameVec asks: as long, and at each index the same place and the same fraction. -/
def SameAt (xs ys : List TV) (b : Nat → Bool) (j : Nat) : Prop := ∀ x y, xs[j]? = some x → ys[j]? = some y → x.at_ = y.at_ ∧ b j = true

set_option maxRecDepth 100000 in
set_option maxHeartbeats 4000000 in
theorem samevec_any {w : World} {A B : Option Addr} {n c m d : Nat} {xs ys : List TV} (hx : Row w A xs) (hy : Row w B ys) (hn : n = xs.length) (hm : m = ys.length) (hl : n ≤ 1000000) (b : Nat → Bool)
    (hs : ∀ j x y W, xs[j]? = some x → ys[j]? = some y → Below w.heap.size w W → Calls Tryz.prog 38 #[.agg #[.bool x.s, .slice x.A x.n x.c, .bool x.t, .slice x.B x.m x.d], .agg #[.bool y.s, .slice y.A y.n y.c, .bool y.t, .slice y.B y.m y.d]] W (RetB W (b j)))
    (v : Bool) (hv : v = true ↔ n = m ∧ ∀ j, SameAt xs ys b j) : Calls Tryz.prog 37 #[.slice A n c, .slice B m d] w (RetB w v) := by
  have HXR := Lib.hid hx
  have HYR := Lib.hid hy
  have HXL := Lib.hid hn
  have HYL := Lib.hid hm
  have HL := Lib.hid hl
  have HS := Lib.hid hs
  have HV := Lib.hid hv
  have HB := Lib.hid (Below.refl w.heap.size w)
  have bv : ∀ c : Bool, (c = true ↔ n = m ∧ ∀ j, SameAt xs ys b j) → c = v := fun c hc => Bool.eq_iff_iff.2 (hc.trans HV.out.symm)
  have BV := Lib.hid bv
  by_cases hnm : n = m
  · have g0 : ((n : Int) != (m : Int)) = false := by rw [hnm]; exact bne_self_eq_false _
    have HNM := Lib.hid hnm
    clear hx hy hn hm hl hs hv hnm bv
    go_enter Tryz.func37, Tryz.ntmps37
    go_wp2_with fail
    go_loopw [5] (fun iv wr => ∃ i : Nat, i ≤ n ∧ iv = .int .i64 (i : Int) ∧ Hid (Below w.heap.size w wr) ∧ Hid (∀ j, j < i → SameAt xs ys b j)) (fun iv _ => n - (intOf iv).toNat)
    case atStart => exact ⟨0, Nat.zero_le _, rfl, HB, fun j hj => absurd hj (Nat.not_lt_zero j)⟩
    case round =>
      clear HB
      obtain ⟨i, hi, rfl, HB, HG⟩ := hrel
      by_cases hlt : i < n
      · have hi1 : (i : Int) < (n : Int) := by omega
        have hi0 : (0 : Int) ≤ (i : Int) := by omega
        have hi2 : (i : Int) < (m : Int) := by have := HNM.out; omega
        have hwi : IntKind.i64.wrap ((i : Int) + 1) = (i : Int) + 1 := by have := HL.out; rw [IntKind.wrap_i64]; omega
        obtain ⟨x, hx⟩ : ∃ x, xs[i]? = some x := ⟨xs[i]'(by have := HXL.out; omega), List.getElem?_eq_getElem (by have := HXL.out; omega)⟩
        obtain ⟨y, hy⟩ : ∃ y, ys[i]? = some y := ⟨ys[i]'(by have := HYL.out; omega), List.getElem?_eq_getElem (by have := HYL.out; omega)⟩
        obtain ⟨b1, off, hA, hk1⟩ := row_at2 HXR.out hx
        obtain ⟨b2, off', hB, hk2⟩ := row_at2 HYR.out hy
        have HX := Lib.hid hx
        have HY := Lib.hid hy
        subst hA hB
        have HK : Hid (∀ V, Below w.heap.size w V → V.cell? ⟨b1, off + i * 5, none⟩ = some (.int .i64 x.at_) ∧ V.cell? ⟨b1, off + i * 5 + 1, none⟩ = some (.bool x.s) ∧ V.cell? ⟨b1, off + i * 5 + 2, none⟩ = some (.slice x.A x.n x.c) ∧ V.cell? ⟨b1, off + i * 5 + 3, none⟩ = some (.bool x.t) ∧ V.cell? ⟨b1, off + i * 5 + 4, none⟩ = some (.slice x.B x.m x.d) ∧ V.cell? ⟨b2, off' + i * 5, none⟩ = some (.int .i64 y.at_) ∧ V.cell? ⟨b2, off' + i * 5 + 1, none⟩ = some (.bool y.s) ∧ V.cell? ⟨b2, off' + i * 5 + 2, none⟩ = some (.slice y.A y.n y.c) ∧ V.cell? ⟨b2, off' + i * 5 + 3, none⟩ = some (.bool y.t) ∧ V.cell? ⟨b2, off' + i * 5 + 4, none⟩ = some (.slice y.B y.m y.d)) := fun V hV => by
          obtain ⟨p0, p1, p2, p3, p4⟩ := hk1 V hV
          obtain ⟨q0, q1, q2, q3, q4⟩ := hk2 V hV
          exact ⟨p0, p1, p2, p3, p4, q0, q1, q2, q3, q4⟩
        clear hx hy hk1 hk2
        obtain ⟨s0, hs0⟩ : ∃ s0, b i = s0 := ⟨_, rfl⟩
        have HS0 := Lib.hid hs0
        clear hs0

        by_cases hat : x.at_ = y.at_
        · have g1 : (x.at_ != y.at_) = false := by rw [hat]; exact bne_self_eq_false _
          have HAT := Lib.hid hat
          clear hat
          cases s0 with
          | true =>
            go_upto_region 6 with fail
            replace HB := Lib.hid HB.out.drew
            refine wp_region_held_drew (S := (fun V => V.cell? ⟨b1, off + i * 5, none⟩ = some (.int .i64 x.at_) ∧ V.cell? ⟨b1, off + i * 5 + 1, none⟩ = some (.bool x.s) ∧ V.cell? ⟨b1, off + i * 5 + 2, none⟩ = some (.slice x.A x.n x.c) ∧ V.cell? ⟨b1, off + i * 5 + 3, none⟩ = some (.bool x.t) ∧ V.cell? ⟨b1, off + i * 5 + 4, none⟩ = some (.slice x.B x.m x.d) ∧ V.cell? ⟨b2, off' + i * 5, none⟩ = some (.int .i64 y.at_) ∧ V.cell? ⟨b2, off' + i * 5 + 1, none⟩ = some (.bool y.s) ∧ V.cell? ⟨b2, off' + i * 5 + 2, none⟩ = some (.slice y.A y.n y.c) ∧ V.cell? ⟨b2, off' + i * 5 + 3, none⟩ = some (.bool y.t) ∧ V.cell? ⟨b2, off' + i * 5 + 4, none⟩ = some (.slice y.B y.m y.d))) (by kernel_rfl) (by with_reducible exact HK.out _ HB.out) (fun hHeld => ?_)
            refine' wpAnyH_take (i := 0) (v := _) rfl (by kernel_rfl) (by kernel_rfl) (by kernel_rfl) (fun _ _ _ h => h) (Or.inl ⟨by rfl, ?hy1⟩) (by assumption) ?rest1
            case hy1 => (intro w hSw; (try dsimp only at hSw); try simp only [List.getElem_toArray, List.getElem_cons_zero]; go_simp; (try with_reducible rfl))
            try simp only [List.getElem_toArray, List.getElem_cons_zero]
            try simp only [Act.put, List.setIfInBounds_toArray, List.set_cons_zero, List.set_cons_succ]
            refine' wpAnyH_take (i := 1) (v := _) rfl (by kernel_rfl) (by kernel_rfl) (by kernel_rfl) (fun _ _ _ h => h) (Or.inl ⟨by rfl, ?hy2⟩) (by assumption) ?rest2
            case hy2 => (intro w hSw; (try dsimp only at hSw); try simp only [List.getElem_toArray, List.getElem_cons_zero, List.getElem_cons_succ]; go_simp; (try with_reducible rfl))
            try simp only [List.getElem_toArray, List.getElem_cons_zero, List.getElem_cons_succ]
            try simp only [Act.put, List.setIfInBounds_toArray, List.set_cons_zero, List.set_cons_succ]
            refine' wpAnyH_take (i := 2) (v := _) rfl (by kernel_rfl) (by kernel_rfl) (by kernel_rfl) (fun _ _ _ h => h) (Or.inl ⟨by rfl, ?hy3⟩) (by assumption) ?rest3
            case hy3 => (intro w hSw; (try dsimp only at hSw); try simp only [List.getElem_toArray, List.getElem_cons_zero, List.getElem_cons_succ]; go_simp; (try with_reducible rfl))
            try simp only [List.getElem_toArray, List.getElem_cons_zero, List.getElem_cons_succ]
            try simp only [Act.put, List.setIfInBounds_toArray, List.set_cons_zero, List.set_cons_succ]
            refine' wpAnyH_take (i := 3) (v := _) rfl (by kernel_rfl) (by kernel_rfl) (by kernel_rfl) (fun _ _ _ h => h) (Or.inl ⟨by rfl, ?hy4⟩) (by assumption) ?rest4
            case hy4 => (intro w hSw; (try dsimp only at hSw); try simp only [List.getElem_toArray, List.getElem_cons_zero, List.getElem_cons_succ]; go_simp; (try with_reducible rfl))
            try simp only [List.getElem_toArray, List.getElem_cons_zero, List.getElem_cons_succ]
            try simp only [Act.put, List.setIfInBounds_toArray, List.set_cons_zero, List.set_cons_succ]
            refine' wpAnyH_take (i := 4) (v := _) rfl (by kernel_rfl) (by kernel_rfl) (by kernel_rfl) (fun _ _ _ h => h) (Or.inl ⟨by rfl, ?hy5⟩) (by assumption) ?rest5
            case hy5 => (intro w hSw; (try dsimp only at hSw); try simp only [List.getElem_toArray, List.getElem_cons_zero, List.getElem_cons_succ]; go_simp; (try with_reducible rfl))
            try simp only [List.getElem_toArray, List.getElem_cons_zero, List.getElem_cons_succ]
            try simp only [Act.put, List.setIfInBounds_toArray, List.set_cons_zero, List.set_cons_succ]
            refine' wpAnyH_take (i := 5) (v := _) rfl (by kernel_rfl) (by kernel_rfl) (by kernel_rfl) (fun _ _ _ h => h) (Or.inl ⟨by rfl, ?hy6⟩) (by assumption) ?rest6
            case hy6 => (intro w hSw; (try dsimp only at hSw); try simp only [List.getElem_toArray, List.getElem_cons_zero, List.getElem_cons_succ]; go_simp; (try with_reducible rfl))
            try simp only [List.getElem_toArray, List.getElem_cons_zero, List.getElem_cons_succ]
            try simp only [Act.put, List.setIfInBounds_toArray, List.set_cons_zero, List.set_cons_succ]
            refine' wpAnyH_take (i := 6) (v := _) rfl (by kernel_rfl) (by kernel_rfl) (by kernel_rfl) (fun _ _ _ h => h) (Or.inl ⟨by rfl, ?hy7⟩) (by assumption) ?rest7
            case hy7 => (intro w hSw; (try dsimp only at hSw); try simp only [List.getElem_toArray, List.getElem_cons_zero, List.getElem_cons_succ]; go_simp; (try with_reducible rfl))
            try simp only [List.getElem_toArray, List.getElem_cons_zero, List.getElem_cons_succ]
            try simp only [Act.put, List.setIfInBounds_toArray, List.set_cons_zero, List.set_cons_succ]
            refine' wpAnyH_take (i := 7) (v := _) rfl (by kernel_rfl) (by kernel_rfl) (by kernel_rfl) (fun _ _ _ h => h) (Or.inl ⟨by rfl, ?hy8⟩) (by assumption) ?rest8
            case hy8 => (intro w hSw; (try dsimp only at hSw); try simp only [List.getElem_toArray, List.getElem_cons_zero, List.getElem_cons_succ]; go_simp; (try with_reducible rfl))
            try simp only [List.getElem_toArray, List.getElem_cons_zero, List.getElem_cons_succ]
            try simp only [Act.put, List.setIfInBounds_toArray, List.set_cons_zero, List.set_cons_succ]
            refine' wpAnyH_take (i := 8) (v := _) rfl (by kernel_rfl) (by kernel_rfl) (by kernel_rfl) (fun _ _ _ h => h) (Or.inl ⟨by rfl, ?hy9⟩) (by assumption) ?rest9
            case hy9 => (intro w hSw; (try dsimp only at hSw); try simp only [List.getElem_toArray, List.getElem_cons_zero, List.getElem_cons_succ]; go_simp; (try with_reducible rfl))
            try simp only [List.getElem_toArray, List.getElem_cons_zero, List.getElem_cons_succ]
            try simp only [Act.put, List.setIfInBounds_toArray, List.set_cons_zero, List.set_cons_succ]
            refine' wpAnyH_take (i := 9) (v := _) rfl (by kernel_rfl) (by kernel_rfl) (by kernel_rfl) (fun _ _ _ h => h) (Or.inl ⟨by rfl, ?hy10⟩) (by assumption) ?rest10
            case hy10 => (intro w hSw; (try dsimp only at hSw); try simp only [List.getElem_toArray, List.getElem_cons_zero, List.getElem_cons_succ]; go_simp; (try with_reducible rfl))
            try simp only [List.getElem_toArray, List.getElem_cons_zero, List.getElem_cons_succ]
            try simp only [Act.put, List.setIfInBounds_toArray, List.set_cons_zero, List.set_cons_succ]
            refine' wpAnyH_take (i := 10) (v := _) rfl (by kernel_rfl) (by kernel_rfl) (by kernel_rfl) (fun _ _ _ h => h) (Or.inl ⟨by rfl, ?hy11⟩) (by assumption) ?rest11
            case hy11 => (intro w hSw; (try dsimp only at hSw); try simp only [List.getElem_toArray, List.getElem_cons_zero, List.getElem_cons_succ]; go_simp; (try with_reducible rfl))
            try simp only [List.getElem_toArray, List.getElem_cons_zero, List.getElem_cons_succ]
            try simp only [Act.put, List.setIfInBounds_toArray, List.set_cons_zero, List.set_cons_succ]
            refine' wpAnyH_take (i := 11) (v := _) rfl (by kernel_rfl) (by kernel_rfl) (by kernel_rfl) (fun _ _ _ h => h) (Or.inl ⟨by rfl, ?hy12⟩) (by assumption) ?rest12
            case hy12 => (intro w hSw; (try dsimp only at hSw); try simp only [List.getElem_toArray, List.getElem_cons_zero, List.getElem_cons_succ]; go_simp; (try with_reducible rfl))
            try simp only [List.getElem_toArray, List.getElem_cons_zero, List.getElem_cons_succ]
            try simp only [Act.put, List.setIfInBounds_toArray, List.set_cons_zero, List.set_cons_succ]
            refine' wpAnyH_take (i := 12) (v := _) rfl (by kernel_rfl) (by kernel_rfl) (by kernel_rfl) (fun _ _ _ h => h) (Or.inl ⟨by rfl, ?hy13⟩) (by assumption) ?rest13
            case hy13 => (intro w hSw; (try dsimp only at hSw); try simp only [List.getElem_toArray, List.getElem_cons_zero, List.getElem_cons_succ]; go_simp; (try with_reducible rfl))
            try simp only [List.getElem_toArray, List.getElem_cons_zero, List.getElem_cons_succ]
            try simp only [Act.put, List.setIfInBounds_toArray, List.set_cons_zero, List.set_cons_succ]
            refine' wpAnyH_take (i := 13) (v := _) rfl (by kernel_rfl) (by kernel_rfl) (by kernel_rfl) (fun _ _ _ h => h) (Or.inl ⟨by rfl, ?hy14⟩) (by assumption) ?rest14
            case hy14 => (intro w hSw; (try dsimp only at hSw); try simp only [List.getElem_toArray, List.getElem_cons_zero, List.getElem_cons_succ]; go_simp; (try with_reducible rfl))
            try simp only [List.getElem_toArray, List.getElem_cons_zero, List.getElem_cons_succ]
            try simp only [Act.put, List.setIfInBounds_toArray, List.set_cons_zero, List.set_cons_succ]
            refine' wpAnyH_take (i := 14) (v := _) rfl (by kernel_rfl) (by kernel_rfl) (by kernel_rfl) (fun _ _ _ h => h) (Or.inl ⟨by rfl, ?hy15⟩) (by assumption) ?rest15
            case hy15 => (intro w hSw; (try dsimp only at hSw); try simp only [List.getElem_toArray, List.getElem_cons_zero, List.getElem_cons_succ]; go_simp; (try with_reducible rfl))
            try simp only [List.getElem_toArray, List.getElem_cons_zero, List.getElem_cons_succ]
            try simp only [Act.put, List.setIfInBounds_toArray, List.set_cons_zero, List.set_cons_succ]
            refine' wpAnyH_take (i := 15) (v := _) rfl (by kernel_rfl) (by kernel_rfl) (by kernel_rfl) (fun _ _ _ h => h) (Or.inl ⟨by rfl, ?hy16⟩) (by assumption) ?rest16
            case hy16 => (intro w hSw; (try dsimp only at hSw); try simp only [List.getElem_toArray, List.getElem_cons_zero, List.getElem_cons_succ]; go_simp; (try with_reducible rfl))
            try simp only [List.getElem_toArray, List.getElem_cons_zero, List.getElem_cons_succ]
            try simp only [Act.put, List.setIfInBounds_toArray, List.set_cons_zero, List.set_cons_succ]
            refine' wpAnyH_take (i := 16) (v := _) rfl (by kernel_rfl) (by kernel_rfl) (by kernel_rfl) (fun _ _ _ h => h) (Or.inl ⟨by rfl, ?hy17⟩) (by assumption) ?rest17
            case hy17 => (intro w hSw; (try dsimp only at hSw); try simp only [List.getElem_toArray, List.getElem_cons_zero, List.getElem_cons_succ]; go_simp; (try with_reducible rfl))
            try simp only [List.getElem_toArray, List.getElem_cons_zero, List.getElem_cons_succ]
            try simp only [Act.put, List.setIfInBounds_toArray, List.set_cons_zero, List.set_cons_succ]
            refine' wpAnyH_take (i := 17) (v := _) rfl (by kernel_rfl) (by kernel_rfl) (by kernel_rfl) (fun _ _ _ h => h) (Or.inl ⟨by rfl, ?hy18⟩) (by assumption) ?rest18
            case hy18 => (intro w hSw; (try dsimp only at hSw); try simp only [List.getElem_toArray, List.getElem_cons_zero, List.getElem_cons_succ]; go_simp; (try with_reducible rfl))
            try simp only [List.getElem_toArray, List.getElem_cons_zero, List.getElem_cons_succ]
            try simp only [Act.put, List.setIfInBounds_toArray, List.set_cons_zero, List.set_cons_succ]
            refine' wpAnyH_take (i := 18) (v := _) rfl (by kernel_rfl) (by kernel_rfl) (by kernel_rfl) (fun _ _ _ h => h) (Or.inl ⟨by rfl, ?hy19⟩) (by assumption) ?rest19
            case hy19 => (intro w hSw; (try dsimp only at hSw); try simp only [List.getElem_toArray, List.getElem_cons_zero, List.getElem_cons_succ]; go_simp; (try with_reducible rfl))
            try simp only [List.getElem_toArray, List.getElem_cons_zero, List.getElem_cons_succ]
            try simp only [Act.put, List.setIfInBounds_toArray, List.set_cons_zero, List.set_cons_succ]
            refine' wpAnyH_take (i := 19) (v := _) rfl (by kernel_rfl) (by kernel_rfl) (by kernel_rfl) (fun _ _ _ h => h) (Or.inl ⟨by rfl, ?hy20⟩) (by assumption) ?rest20
            case hy20 => (intro w hSw; (try dsimp only at hSw); try simp only [List.getElem_toArray, List.getElem_cons_zero, List.getElem_cons_succ]; go_simp; (try with_reducible rfl))
            try simp only [List.getElem_toArray, List.getElem_cons_zero, List.getElem_cons_succ]
            try simp only [Act.put, List.setIfInBounds_toArray, List.set_cons_zero, List.set_cons_succ]
            refine' wpAnyH_take (i := 20) (v := _) rfl (by kernel_rfl) (by kernel_rfl) (by kernel_rfl) (fun _ _ _ h => h) (Or.inl ⟨by rfl, ?hy21⟩) (by assumption) ?rest21
            case hy21 => (intro w hSw; (try dsimp only at hSw); try simp only [List.getElem_toArray, List.getElem_cons_zero, List.getElem_cons_succ]; go_simp; (try with_reducible rfl))
            try simp only [List.getElem_toArray, List.getElem_cons_zero, List.getElem_cons_succ]
            try simp only [Act.put, List.setIfInBounds_toArray, List.set_cons_zero, List.set_cons_succ]
            refine' wpAnyH_take (i := 21) (v := _) rfl (by kernel_rfl) (by kernel_rfl) (by kernel_rfl) (fun _ _ _ h => h) (Or.inl ⟨by rfl, ?hy22⟩) (by assumption) ?rest22
            case hy22 => (intro w hSw; (try dsimp only at hSw); try simp only [List.getElem_toArray, List.getElem_cons_zero, List.getElem_cons_succ]; go_simp; (try with_reducible rfl))
            try simp only [List.getElem_toArray, List.getElem_cons_zero, List.getElem_cons_succ]
            try simp only [Act.put, List.setIfInBounds_toArray, List.set_cons_zero, List.set_cons_succ]
            refine wpAnyH_ready (rs := [22]) (by kernel_rfl) (by simp) ?_
            refine AllReadyH.cons rfl (fun K hK => ?_) AllReadyH.nil
            try simp only [List.getElem_toArray, List.getElem_cons_zero, List.getElem_cons_succ]
            go_simp
            with_reducible refine (HS.out i x y _ HX.out HY.out HB.out).mono ?_
            rintro e w1 ⟨rfl, hbx⟩
            replace HB := Lib.hid (below_on HB.out hbx)
            clear hbx
            refine hK.out _ _ (by with_reducible exact HK.out _ HB.out) (fun hHeld => ?_)
            clear hK K
            try simp only [Act.put, List.setIfInBounds_toArray, List.set_cons_zero, List.set_cons_succ]
            refine' wpAnyH_take (i := 23) (v := _) rfl (by kernel_rfl) (by kernel_rfl) (by kernel_rfl) (fun _ _ _ h => h) (Or.inl ⟨by rfl, ?hy23⟩) (by assumption) ?rest23
            case hy23 => (intro w hSw; (try dsimp only at hSw); try simp only [List.getElem_toArray, List.getElem_cons_zero, List.getElem_cons_succ]; go_simp; (try with_reducible rfl))
            try simp only [List.getElem_toArray, List.getElem_cons_zero, List.getElem_cons_succ]
            try simp only [Act.put, List.setIfInBounds_toArray, List.set_cons_zero, List.set_cons_succ]
            refine' wpAnyH_take (i := 24) (v := _) rfl (by kernel_rfl) (by kernel_rfl) (by kernel_rfl) (fun _ _ _ h => h) (Or.inl ⟨by rfl, ?hy24⟩) (by assumption) ?rest24
            case hy24 => (intro w hSw; (try dsimp only at hSw); try simp only [List.getElem_toArray, List.getElem_cons_zero, List.getElem_cons_succ]; go_simp; (try with_reducible rfl))
            try simp only [List.getElem_toArray, List.getElem_cons_zero, List.getElem_cons_succ]
            try simp only [Act.put, List.setIfInBounds_toArray, List.set_cons_zero, List.set_cons_succ]
            refine wpAnyH_done (by kernel_rfl) ?_ _
            rw [HS0.out]
            go_wp2_with fail
            go_roundw
            case rel =>
              refine ⟨i + 1, by omega, by go_num, HB, fun j hj => ?_⟩
              rcases Nat.lt_or_ge j i with h | h
              · exact HG.out j h
              · intro x' y' hx' hy'
                obtain rfl : j = i := by omega
                rw [HX.out] at hx'
                rw [HY.out] at hy'
                obtain rfl := Option.some.inj hx'
                obtain rfl := Option.some.inj hy'
                exact ⟨HAT.out, HS0.out⟩
            case measure => (simp [intOf]; omega)
          | false =>
            go_upto_region 6 with fail
            replace HB := Lib.hid HB.out.drew
            refine wp_region_held_drew (S := (fun V => V.cell? ⟨b1, off + i * 5, none⟩ = some (.int .i64 x.at_) ∧ V.cell? ⟨b1, off + i * 5 + 1, none⟩ = some (.bool x.s) ∧ V.cell? ⟨b1, off + i * 5 + 2, none⟩ = some (.slice x.A x.n x.c) ∧ V.cell? ⟨b1, off + i * 5 + 3, none⟩ = some (.bool x.t) ∧ V.cell? ⟨b1, off + i * 5 + 4, none⟩ = some (.slice x.B x.m x.d) ∧ V.cell? ⟨b2, off' + i * 5, none⟩ = some (.int .i64 y.at_) ∧ V.cell? ⟨b2, off' + i * 5 + 1, none⟩ = some (.bool y.s) ∧ V.cell? ⟨b2, off' + i * 5 + 2, none⟩ = some (.slice y.A y.n y.c) ∧ V.cell? ⟨b2, off' + i * 5 + 3, none⟩ = some (.bool y.t) ∧ V.cell? ⟨b2, off' + i * 5 + 4, none⟩ = some (.slice y.B y.m y.d))) (by kernel_rfl) (by with_reducible exact HK.out _ HB.out) (fun hHeld => ?_)
            refine' wpAnyH_take (i := 0) (v := _) rfl (by kernel_rfl) (by kernel_rfl) (by kernel_rfl) (fun _ _ _ h => h) (Or.inl ⟨by rfl, ?hy25⟩) (by assumption) ?rest25
            case hy25 => (intro w hSw; (try dsimp only at hSw); try simp only [List.getElem_toArray, List.getElem_cons_zero]; go_simp; (try with_reducible rfl))
            try simp only [List.getElem_toArray, List.getElem_cons_zero]
            try simp only [Act.put, List.setIfInBounds_toArray, List.set_cons_zero, List.set_cons_succ]
            refine' wpAnyH_take (i := 1) (v := _) rfl (by kernel_rfl) (by kernel_rfl) (by kernel_rfl) (fun _ _ _ h => h) (Or.inl ⟨by rfl, ?hy26⟩) (by assumption) ?rest26
            case hy26 => (intro w hSw; (try dsimp only at hSw); try simp only [List.getElem_toArray, List.getElem_cons_zero, List.getElem_cons_succ]; go_simp; (try with_reducible rfl))
            try simp only [List.getElem_toArray, List.getElem_cons_zero, List.getElem_cons_succ]
            try simp only [Act.put, List.setIfInBounds_toArray, List.set_cons_zero, List.set_cons_succ]
            refine' wpAnyH_take (i := 2) (v := _) rfl (by kernel_rfl) (by kernel_rfl) (by kernel_rfl) (fun _ _ _ h => h) (Or.inl ⟨by rfl, ?hy27⟩) (by assumption) ?rest27
            case hy27 => (intro w hSw; (try dsimp only at hSw); try simp only [List.getElem_toArray, List.getElem_cons_zero, List.getElem_cons_succ]; go_simp; (try with_reducible rfl))
            try simp only [List.getElem_toArray, List.getElem_cons_zero, List.getElem_cons_succ]
            try simp only [Act.put, List.setIfInBounds_toArray, List.set_cons_zero, List.set_cons_succ]
            refine' wpAnyH_take (i := 3) (v := _) rfl (by kernel_rfl) (by kernel_rfl) (by kernel_rfl) (fun _ _ _ h => h) (Or.inl ⟨by rfl, ?hy28⟩) (by assumption) ?rest28
            case hy28 => (intro w hSw; (try dsimp only at hSw); try simp only [List.getElem_toArray, List.getElem_cons_zero, List.getElem_cons_succ]; go_simp; (try with_reducible rfl))
            try simp only [List.getElem_toArray, List.getElem_cons_zero, List.getElem_cons_succ]
            try simp only [Act.put, List.setIfInBounds_toArray, List.set_cons_zero, List.set_cons_succ]
            refine' wpAnyH_take (i := 4) (v := _) rfl (by kernel_rfl) (by kernel_rfl) (by kernel_rfl) (fun _ _ _ h => h) (Or.inl ⟨by rfl, ?hy29⟩) (by assumption) ?rest29
            case hy29 => (intro w hSw; (try dsimp only at hSw); try simp only [List.getElem_toArray, List.getElem_cons_zero, List.getElem_cons_succ]; go_simp; (try with_reducible rfl))
            try simp only [List.getElem_toArray, List.getElem_cons_zero, List.getElem_cons_succ]
            try simp only [Act.put, List.setIfInBounds_toArray, List.set_cons_zero, List.set_cons_succ]
            refine' wpAnyH_take (i := 5) (v := _) rfl (by kernel_rfl) (by kernel_rfl) (by kernel_rfl) (fun _ _ _ h => h) (Or.inl ⟨by rfl, ?hy30⟩) (by assumption) ?rest30
            case hy30 => (intro w hSw; (try dsimp only at hSw); try simp only [List.getElem_toArray, List.getElem_cons_zero, List.getElem_cons_succ]; go_simp; (try with_reducible rfl))
            try simp only [List.getElem_toArray, List.getElem_cons_zero, List.getElem_cons_succ]
            try simp only [Act.put, List.setIfInBounds_toArray, List.set_cons_zero, List.set_cons_succ]
            refine' wpAnyH_take (i := 6) (v := _) rfl (by kernel_rfl) (by kernel_rfl) (by kernel_rfl) (fun _ _ _ h => h) (Or.inl ⟨by rfl, ?hy31⟩) (by assumption) ?rest31
            case hy31 => (intro w hSw; (try dsimp only at hSw); try simp only [List.getElem_toArray, List.getElem_cons_zero, List.getElem_cons_succ]; go_simp; (try with_reducible rfl))
            try simp only [List.getElem_toArray, List.getElem_cons_zero, List.getElem_cons_succ]
            try simp only [Act.put, List.setIfInBounds_toArray, List.set_cons_zero, List.set_cons_succ]
            refine' wpAnyH_take (i := 7) (v := _) rfl (by kernel_rfl) (by kernel_rfl) (by kernel_rfl) (fun _ _ _ h => h) (Or.inl ⟨by rfl, ?hy32⟩) (by assumption) ?rest32
            case hy32 => (intro w hSw; (try dsimp only at hSw); try simp only [List.getElem_toArray, List.getElem_cons_zero, List.getElem_cons_succ]; go_simp; (try with_reducible rfl))
            try simp only [List.getElem_toArray, List.getElem_cons_zero, List.getElem_cons_succ]
            try simp only [Act.put, List.setIfInBounds_toArray, List.set_cons_zero, List.set_cons_succ]
            refine' wpAnyH_take (i := 8) (v := _) rfl (by kernel_rfl) (by kernel_rfl) (by kernel_rfl) (fun _ _ _ h => h) (Or.inl ⟨by rfl, ?hy33⟩) (by assumption) ?rest33
            case hy33 => (intro w hSw; (try dsimp only at hSw); try simp only [List.getElem_toArray, List.getElem_cons_zero, List.getElem_cons_succ]; go_simp; (try with_reducible rfl))
            try simp only [List.getElem_toArray, List.getElem_cons_zero, List.getElem_cons_succ]
            try simp only [Act.put, List.setIfInBounds_toArray, List.set_cons_zero, List.set_cons_succ]
            refine' wpAnyH_take (i := 9) (v := _) rfl (by kernel_rfl) (by kernel_rfl) (by kernel_rfl) (fun _ _ _ h => h) (Or.inl ⟨by rfl, ?hy34⟩) (by assumption) ?rest34
            case hy34 => (intro w hSw; (try dsimp only at hSw); try simp only [List.getElem_toArray, List.getElem_cons_zero, List.getElem_cons_succ]; go_simp; (try with_reducible rfl))
            try simp only [List.getElem_toArray, List.getElem_cons_zero, List.getElem_cons_succ]
            try simp only [Act.put, List.setIfInBounds_toArray, List.set_cons_zero, List.set_cons_succ]
            refine' wpAnyH_take (i := 10) (v := _) rfl (by kernel_rfl) (by kernel_rfl) (by kernel_rfl) (fun _ _ _ h => h) (Or.inl ⟨by rfl, ?hy35⟩) (by assumption) ?rest35
            case hy35 => (intro w hSw; (try dsimp only at hSw); try simp only [List.getElem_toArray, List.getElem_cons_zero, List.getElem_cons_succ]; go_simp; (try with_reducible rfl))
            try simp only [List.getElem_toArray, List.getElem_cons_zero, List.getElem_cons_succ]
            try simp only [Act.put, List.setIfInBounds_toArray, List.set_cons_zero, List.set_cons_succ]
            refine' wpAnyH_take (i := 11) (v := _) rfl (by kernel_rfl) (by kernel_rfl) (by kernel_rfl) (fun _ _ _ h => h) (Or.inl ⟨by rfl, ?hy36⟩) (by assumption) ?rest36
            case hy36 => (intro w hSw; (try dsimp only at hSw); try simp only [List.getElem_toArray, List.getElem_cons_zero, List.getElem_cons_succ]; go_simp; (try with_reducible rfl))
            try simp only [List.getElem_toArray, List.getElem_cons_zero, List.getElem_cons_succ]
            try simp only [Act.put, List.setIfInBounds_toArray, List.set_cons_zero, List.set_cons_succ]
            refine' wpAnyH_take (i := 12) (v := _) rfl (by kernel_rfl) (by kernel_rfl) (by kernel_rfl) (fun _ _ _ h => h) (Or.inl ⟨by rfl, ?hy37⟩) (by assumption) ?rest37
            case hy37 => (intro w hSw; (try dsimp only at hSw); try simp only [List.getElem_toArray, List.getElem_cons_zero, List.getElem_cons_succ]; go_simp; (try with_reducible rfl))
            try simp only [List.getElem_toArray, List.getElem_cons_zero, List.getElem_cons_succ]
            try simp only [Act.put, List.setIfInBounds_toArray, List.set_cons_zero, List.set_cons_succ]
            refine' wpAnyH_take (i := 13) (v := _) rfl (by kernel_rfl) (by kernel_rfl) (by kernel_rfl) (fun _ _ _ h => h) (Or.inl ⟨by rfl, ?hy38⟩) (by assumption) ?rest38
            case hy38 => (intro w hSw; (try dsimp only at hSw); try simp only [List.getElem_toArray, List.getElem_cons_zero, List.getElem_cons_succ]; go_simp; (try with_reducible rfl))
            try simp only [List.getElem_toArray, List.getElem_cons_zero, List.getElem_cons_succ]
            try simp only [Act.put, List.setIfInBounds_toArray, List.set_cons_zero, List.set_cons_succ]
            refine' wpAnyH_take (i := 14) (v := _) rfl (by kernel_rfl) (by kernel_rfl) (by kernel_rfl) (fun _ _ _ h => h) (Or.inl ⟨by rfl, ?hy39⟩) (by assumption) ?rest39
            case hy39 => (intro w hSw; (try dsimp only at hSw); try simp only [List.getElem_toArray, List.getElem_cons_zero, List.getElem_cons_succ]; go_simp; (try with_reducible rfl))
            try simp only [List.getElem_toArray, List.getElem_cons_zero, List.getElem_cons_succ]
            try simp only [Act.put, List.setIfInBounds_toArray, List.set_cons_zero, List.set_cons_succ]
            refine' wpAnyH_take (i := 15) (v := _) rfl (by kernel_rfl) (by kernel_rfl) (by kernel_rfl) (fun _ _ _ h => h) (Or.inl ⟨by rfl, ?hy40⟩) (by assumption) ?rest40
            case hy40 => (intro w hSw; (try dsimp only at hSw); try simp only [List.getElem_toArray, List.getElem_cons_zero, List.getElem_cons_succ]; go_simp; (try with_reducible rfl))
            try simp only [List.getElem_toArray, List.getElem_cons_zero, List.getElem_cons_succ]
            try simp only [Act.put, List.setIfInBounds_toArray, List.set_cons_zero, List.set_cons_succ]
            refine' wpAnyH_take (i := 16) (v := _) rfl (by kernel_rfl) (by kernel_rfl) (by kernel_rfl) (fun _ _ _ h => h) (Or.inl ⟨by rfl, ?hy41⟩) (by assumption) ?rest41
            case hy41 => (intro w hSw; (try dsimp only at hSw); try simp only [List.getElem_toArray, List.getElem_cons_zero, List.getElem_cons_succ]; go_simp; (try with_reducible rfl))
            try simp only [List.getElem_toArray, List.getElem_cons_zero, List.getElem_cons_succ]
            try simp only [Act.put, List.setIfInBounds_toArray, List.set_cons_zero, List.set_cons_succ]
            refine' wpAnyH_take (i := 17) (v := _) rfl (by kernel_rfl) (by kernel_rfl) (by kernel_rfl) (fun _ _ _ h => h) (Or.inl ⟨by rfl, ?hy42⟩) (by assumption) ?rest42
            case hy42 => (intro w hSw; (try dsimp only at hSw); try simp only [List.getElem_toArray, List.getElem_cons_zero, List.getElem_cons_succ]; go_simp; (try with_reducible rfl))
            try simp only [List.getElem_toArray, List.getElem_cons_zero, List.getElem_cons_succ]
            try simp only [Act.put, List.setIfInBounds_toArray, List.set_cons_zero, List.set_cons_succ]
            refine' wpAnyH_take (i := 18) (v := _) rfl (by kernel_rfl) (by kernel_rfl) (by kernel_rfl) (fun _ _ _ h => h) (Or.inl ⟨by rfl, ?hy43⟩) (by assumption) ?rest43
            case hy43 => (intro w hSw; (try dsimp only at hSw); try simp only [List.getElem_toArray, List.getElem_cons_zero, List.getElem_cons_succ]; go_simp; (try with_reducible rfl))
            try simp only [List.getElem_toArray, List.getElem_cons_zero, List.getElem_cons_succ]
            try simp only [Act.put, List.setIfInBounds_toArray, List.set_cons_zero, List.set_cons_succ]
            refine' wpAnyH_take (i := 19) (v := _) rfl (by kernel_rfl) (by kernel_rfl) (by kernel_rfl) (fun _ _ _ h => h) (Or.inl ⟨by rfl, ?hy44⟩) (by assumption) ?rest44
            case hy44 => (intro w hSw; (try dsimp only at hSw); try simp only [List.getElem_toArray, List.getElem_cons_zero, List.getElem_cons_succ]; go_simp; (try with_reducible rfl))
            try simp only [List.getElem_toArray, List.getElem_cons_zero, List.getElem_cons_succ]
            try simp only [Act.put, List.setIfInBounds_toArray, List.set_cons_zero, List.set_cons_succ]
            refine' wpAnyH_take (i := 20) (v := _) rfl (by kernel_rfl) (by kernel_rfl) (by kernel_rfl) (fun _ _ _ h => h) (Or.inl ⟨by rfl, ?hy45⟩) (by assumption) ?rest45
            case hy45 => (intro w hSw; (try dsimp only at hSw); try simp only [List.getElem_toArray, List.getElem_cons_zero, List.getElem_cons_succ]; go_simp; (try with_reducible rfl))
            try simp only [List.getElem_toArray, List.getElem_cons_zero, List.getElem_cons_succ]
            try simp only [Act.put, List.setIfInBounds_toArray, List.set_cons_zero, List.set_cons_succ]
            refine' wpAnyH_take (i := 21) (v := _) rfl (by kernel_rfl) (by kernel_rfl) (by kernel_rfl) (fun _ _ _ h => h) (Or.inl ⟨by rfl, ?hy46⟩) (by assumption) ?rest46
            case hy46 => (intro w hSw; (try dsimp only at hSw); try simp only [List.getElem_toArray, List.getElem_cons_zero, List.getElem_cons_succ]; go_simp; (try with_reducible rfl))
            try simp only [List.getElem_toArray, List.getElem_cons_zero, List.getElem_cons_succ]
            try simp only [Act.put, List.setIfInBounds_toArray, List.set_cons_zero, List.set_cons_succ]
            refine wpAnyH_ready (rs := [22]) (by kernel_rfl) (by simp) ?_
            refine AllReadyH.cons rfl (fun K hK => ?_) AllReadyH.nil
            try simp only [List.getElem_toArray, List.getElem_cons_zero, List.getElem_cons_succ]
            go_simp
            with_reducible refine (HS.out i x y _ HX.out HY.out HB.out).mono ?_
            rintro e w2 ⟨rfl, hbx⟩
            replace HB := Lib.hid (below_on HB.out hbx)
            clear hbx
            refine hK.out _ _ (by with_reducible exact HK.out _ HB.out) (fun hHeld => ?_)
            clear hK K
            try simp only [Act.put, List.setIfInBounds_toArray, List.set_cons_zero, List.set_cons_succ]
            refine' wpAnyH_take (i := 23) (v := _) rfl (by kernel_rfl) (by kernel_rfl) (by kernel_rfl) (fun _ _ _ h => h) (Or.inl ⟨by rfl, ?hy47⟩) (by assumption) ?rest47
            case hy47 => (intro w hSw; (try dsimp only at hSw); try simp only [List.getElem_toArray, List.getElem_cons_zero, List.getElem_cons_succ]; go_simp; (try with_reducible rfl))
            try simp only [List.getElem_toArray, List.getElem_cons_zero, List.getElem_cons_succ]
            try simp only [Act.put, List.setIfInBounds_toArray, List.set_cons_zero, List.set_cons_succ]
            refine' wpAnyH_take (i := 24) (v := _) rfl (by kernel_rfl) (by kernel_rfl) (by kernel_rfl) (fun _ _ _ h => h) (Or.inl ⟨by rfl, ?hy48⟩) (by assumption) ?rest48
            case hy48 => (intro w hSw; (try dsimp only at hSw); try simp only [List.getElem_toArray, List.getElem_cons_zero, List.getElem_cons_succ]; go_simp; (try with_reducible rfl))
            try simp only [List.getElem_toArray, List.getElem_cons_zero, List.getElem_cons_succ]
            try simp only [Act.put, List.setIfInBounds_toArray, List.set_cons_zero, List.set_cons_succ]
            refine wpAnyH_done (by kernel_rfl) ?_ _
            rw [HS0.out]
            go_wp2_with fail
            have HE : Hid (false = v) := BV.out false ⟨fun h => (by cases h), fun h => by have h2 := (h.2 i x y HX.out HY.out).2; rw [HS0.out] at h2; exact h2⟩
            go_ret
            rw [← HE.out]
            exact ⟨rfl, HB.out⟩
        · have g1 : (x.at_ != y.at_) = true := bne_iff_ne.2 hat
          have HE : Hid (false = v) := BV.out false ⟨fun h => (by cases h), fun h => absurd (h.2 i x y HX.out HY.out).1 hat⟩
          clear hat
          go_upto_region 6 with fail
          replace HB := Lib.hid HB.out.drew
          refine wp_region_held_drew (S := (fun V => V.cell? ⟨b1, off + i * 5, none⟩ = some (.int .i64 x.at_) ∧ V.cell? ⟨b1, off + i * 5 + 1, none⟩ = some (.bool x.s) ∧ V.cell? ⟨b1, off + i * 5 + 2, none⟩ = some (.slice x.A x.n x.c) ∧ V.cell? ⟨b1, off + i * 5 + 3, none⟩ = some (.bool x.t) ∧ V.cell? ⟨b1, off + i * 5 + 4, none⟩ = some (.slice x.B x.m x.d) ∧ V.cell? ⟨b2, off' + i * 5, none⟩ = some (.int .i64 y.at_) ∧ V.cell? ⟨b2, off' + i * 5 + 1, none⟩ = some (.bool y.s) ∧ V.cell? ⟨b2, off' + i * 5 + 2, none⟩ = some (.slice y.A y.n y.c) ∧ V.cell? ⟨b2, off' + i * 5 + 3, none⟩ = some (.bool y.t) ∧ V.cell? ⟨b2, off' + i * 5 + 4, none⟩ = some (.slice y.B y.m y.d))) (by kernel_rfl) (by with_reducible exact HK.out _ HB.out) (fun hHeld => ?_)
          refine' wpAnyH_take (i := 0) (v := _) rfl (by kernel_rfl) (by kernel_rfl) (by kernel_rfl) (fun _ _ _ h => h) (Or.inl ⟨by rfl, ?hy49⟩) (by assumption) ?rest49
          case hy49 => (intro w hSw; (try dsimp only at hSw); try simp only [List.getElem_toArray, List.getElem_cons_zero]; go_simp; (try with_reducible rfl))
          try simp only [List.getElem_toArray, List.getElem_cons_zero]
          try simp only [Act.put, List.setIfInBounds_toArray, List.set_cons_zero, List.set_cons_succ]
          refine' wpAnyH_take (i := 1) (v := _) rfl (by kernel_rfl) (by kernel_rfl) (by kernel_rfl) (fun _ _ _ h => h) (Or.inl ⟨by rfl, ?hy50⟩) (by assumption) ?rest50
          case hy50 => (intro w hSw; (try dsimp only at hSw); try simp only [List.getElem_toArray, List.getElem_cons_zero, List.getElem_cons_succ]; go_simp; (try with_reducible rfl))
          try simp only [List.getElem_toArray, List.getElem_cons_zero, List.getElem_cons_succ]
          try simp only [Act.put, List.setIfInBounds_toArray, List.set_cons_zero, List.set_cons_succ]
          refine' wpAnyH_take (i := 2) (v := _) rfl (by kernel_rfl) (by kernel_rfl) (by kernel_rfl) (fun _ _ _ h => h) (Or.inl ⟨by rfl, ?hy51⟩) (by assumption) ?rest51
          case hy51 => (intro w hSw; (try dsimp only at hSw); try simp only [List.getElem_toArray, List.getElem_cons_zero, List.getElem_cons_succ]; go_simp; (try with_reducible rfl))
          try simp only [List.getElem_toArray, List.getElem_cons_zero, List.getElem_cons_succ]
          try simp only [Act.put, List.setIfInBounds_toArray, List.set_cons_zero, List.set_cons_succ]
          refine' wpAnyH_take (i := 3) (v := _) rfl (by kernel_rfl) (by kernel_rfl) (by kernel_rfl) (fun _ _ _ h => h) (Or.inl ⟨by rfl, ?hy52⟩) (by assumption) ?rest52
          case hy52 => (intro w hSw; (try dsimp only at hSw); try simp only [List.getElem_toArray, List.getElem_cons_zero, List.getElem_cons_succ]; go_simp; (try with_reducible rfl))
          try simp only [List.getElem_toArray, List.getElem_cons_zero, List.getElem_cons_succ]
          try simp only [Act.put, List.setIfInBounds_toArray, List.set_cons_zero, List.set_cons_succ]
          refine' wpAnyH_take (i := 4) (v := _) rfl (by kernel_rfl) (by kernel_rfl) (by kernel_rfl) (fun _ _ _ h => h) (Or.inl ⟨by rfl, ?hy53⟩) (by assumption) ?rest53
          case hy53 => (intro w hSw; (try dsimp only at hSw); try simp only [List.getElem_toArray, List.getElem_cons_zero, List.getElem_cons_succ]; go_simp; (try with_reducible rfl))
          try simp only [List.getElem_toArray, List.getElem_cons_zero, List.getElem_cons_succ]
          try simp only [Act.put, List.setIfInBounds_toArray, List.set_cons_zero, List.set_cons_succ]
          refine' wpAnyH_take (i := 5) (v := _) rfl (by kernel_rfl) (by kernel_rfl) (by kernel_rfl) (fun _ _ _ h => h) (Or.inl ⟨by rfl, ?hy54⟩) (by assumption) ?rest54
          case hy54 => (intro w hSw; (try dsimp only at hSw); try simp only [List.getElem_toArray, List.getElem_cons_zero, List.getElem_cons_succ]; go_simp; (try with_reducible rfl))
          try simp only [List.getElem_toArray, List.getElem_cons_zero, List.getElem_cons_succ]
          try simp only [Act.put, List.setIfInBounds_toArray, List.set_cons_zero, List.set_cons_succ]
          refine' wpAnyH_take (i := 6) (v := _) rfl (by kernel_rfl) (by kernel_rfl) (by kernel_rfl) (fun _ _ _ h => h) (Or.inl ⟨by rfl, ?hy55⟩) (by assumption) ?rest55
          case hy55 => (intro w hSw; (try dsimp only at hSw); try simp only [List.getElem_toArray, List.getElem_cons_zero, List.getElem_cons_succ]; go_simp; (try with_reducible rfl))
          try simp only [List.getElem_toArray, List.getElem_cons_zero, List.getElem_cons_succ]
          try simp only [Act.put, List.setIfInBounds_toArray, List.set_cons_zero, List.set_cons_succ]
          refine' wpAnyH_take (i := 7) (v := _) rfl (by kernel_rfl) (by kernel_rfl) (by kernel_rfl) (fun _ _ _ h => h) (Or.inl ⟨by rfl, ?hy56⟩) (by assumption) ?rest56
          case hy56 => (intro w hSw; (try dsimp only at hSw); try simp only [List.getElem_toArray, List.getElem_cons_zero, List.getElem_cons_succ]; go_simp; (try with_reducible rfl))
          try simp only [List.getElem_toArray, List.getElem_cons_zero, List.getElem_cons_succ]
          try simp only [Act.put, List.setIfInBounds_toArray, List.set_cons_zero, List.set_cons_succ]
          refine' wpAnyH_take (i := 8) (v := _) rfl (by kernel_rfl) (by kernel_rfl) (by kernel_rfl) (fun _ _ _ h => h) (Or.inl ⟨by rfl, ?hy57⟩) (by assumption) ?rest57
          case hy57 => (intro w hSw; (try dsimp only at hSw); try simp only [List.getElem_toArray, List.getElem_cons_zero, List.getElem_cons_succ]; go_simp; (try with_reducible rfl))
          try simp only [List.getElem_toArray, List.getElem_cons_zero, List.getElem_cons_succ]
          try simp only [Act.put, List.setIfInBounds_toArray, List.set_cons_zero, List.set_cons_succ]
          refine' wpAnyH_take (i := 9) (v := _) rfl (by kernel_rfl) (by kernel_rfl) (by kernel_rfl) (fun _ _ _ h => h) (Or.inl ⟨by rfl, ?hy58⟩) (by assumption) ?rest58
          case hy58 => (intro w hSw; (try dsimp only at hSw); try simp only [List.getElem_toArray, List.getElem_cons_zero, List.getElem_cons_succ]; go_simp; (try with_reducible rfl))
          try simp only [List.getElem_toArray, List.getElem_cons_zero, List.getElem_cons_succ]
          try simp only [Act.put, List.setIfInBounds_toArray, List.set_cons_zero, List.set_cons_succ]
          refine' wpAnyH_take (i := 10) (v := _) rfl (by kernel_rfl) (by kernel_rfl) (by kernel_rfl) (fun _ _ _ h => h) (Or.inl ⟨by rfl, ?hy59⟩) (by assumption) ?rest59
          case hy59 => (intro w hSw; (try dsimp only at hSw); try simp only [List.getElem_toArray, List.getElem_cons_zero, List.getElem_cons_succ]; go_simp; (try with_reducible rfl))
          try simp only [List.getElem_toArray, List.getElem_cons_zero, List.getElem_cons_succ]
          try simp only [Act.put, List.setIfInBounds_toArray, List.set_cons_zero, List.set_cons_succ]
          refine' wpAnyH_take (i := 11) (v := _) rfl (by kernel_rfl) (by kernel_rfl) (by kernel_rfl) (fun _ _ _ h => h) (Or.inl ⟨by rfl, ?hy60⟩) (by assumption) ?rest60
          case hy60 => (intro w hSw; (try dsimp only at hSw); try simp only [List.getElem_toArray, List.getElem_cons_zero, List.getElem_cons_succ]; go_simp; (try with_reducible rfl))
          try simp only [List.getElem_toArray, List.getElem_cons_zero, List.getElem_cons_succ]
          try simp only [Act.put, List.setIfInBounds_toArray, List.set_cons_zero, List.set_cons_succ]
          refine wpAnyH_take (i := 12) (v := undef) rfl (by kernel_rfl) (by kernel_rfl) (by kernel_rfl) (fun _ _ _ h => h) (Or.inr ⟨by rfl, rfl⟩) (by assumption) ?_
          try simp only [List.getElem_toArray, List.getElem_cons_zero, List.getElem_cons_succ]
          try simp only [Act.put, List.setIfInBounds_toArray, List.set_cons_zero, List.set_cons_succ]
          refine wpAnyH_take (i := 13) (v := undef) rfl (by kernel_rfl) (by kernel_rfl) (by kernel_rfl) (fun _ _ _ h => h) (Or.inr ⟨by rfl, rfl⟩) (by assumption) ?_
          try simp only [List.getElem_toArray, List.getElem_cons_zero, List.getElem_cons_succ]
          try simp only [Act.put, List.setIfInBounds_toArray, List.set_cons_zero, List.set_cons_succ]
          refine wpAnyH_take (i := 14) (v := undef) rfl (by kernel_rfl) (by kernel_rfl) (by kernel_rfl) (fun _ _ _ h => h) (Or.inr ⟨by rfl, rfl⟩) (by assumption) ?_
          try simp only [List.getElem_toArray, List.getElem_cons_zero, List.getElem_cons_succ]
          try simp only [Act.put, List.setIfInBounds_toArray, List.set_cons_zero, List.set_cons_succ]
          refine wpAnyH_take (i := 15) (v := undef) rfl (by kernel_rfl) (by kernel_rfl) (by kernel_rfl) (fun _ _ _ h => h) (Or.inr ⟨by rfl, rfl⟩) (by assumption) ?_
          try simp only [List.getElem_toArray, List.getElem_cons_zero, List.getElem_cons_succ]
          try simp only [Act.put, List.setIfInBounds_toArray, List.set_cons_zero, List.set_cons_succ]
          refine wpAnyH_take (i := 16) (v := undef) rfl (by kernel_rfl) (by kernel_rfl) (by kernel_rfl) (fun _ _ _ h => h) (Or.inr ⟨by rfl, rfl⟩) (by assumption) ?_
          try simp only [List.getElem_toArray, List.getElem_cons_zero, List.getElem_cons_succ]
          try simp only [Act.put, List.setIfInBounds_toArray, List.set_cons_zero, List.set_cons_succ]
          refine wpAnyH_take (i := 17) (v := undef) rfl (by kernel_rfl) (by kernel_rfl) (by kernel_rfl) (fun _ _ _ h => h) (Or.inr ⟨by rfl, rfl⟩) (by assumption) ?_
          try simp only [List.getElem_toArray, List.getElem_cons_zero, List.getElem_cons_succ]
          try simp only [Act.put, List.setIfInBounds_toArray, List.set_cons_zero, List.set_cons_succ]
          refine wpAnyH_take (i := 18) (v := undef) rfl (by kernel_rfl) (by kernel_rfl) (by kernel_rfl) (fun _ _ _ h => h) (Or.inr ⟨by rfl, rfl⟩) (by assumption) ?_
          try simp only [List.getElem_toArray, List.getElem_cons_zero, List.getElem_cons_succ]
          try simp only [Act.put, List.setIfInBounds_toArray, List.set_cons_zero, List.set_cons_succ]
          refine wpAnyH_take (i := 19) (v := undef) rfl (by kernel_rfl) (by kernel_rfl) (by kernel_rfl) (fun _ _ _ h => h) (Or.inr ⟨by rfl, rfl⟩) (by assumption) ?_
          try simp only [List.getElem_toArray, List.getElem_cons_zero, List.getElem_cons_succ]
          try simp only [Act.put, List.setIfInBounds_toArray, List.set_cons_zero, List.set_cons_succ]
          refine wpAnyH_take (i := 20) (v := undef) rfl (by kernel_rfl) (by kernel_rfl) (by kernel_rfl) (fun _ _ _ h => h) (Or.inr ⟨by rfl, rfl⟩) (by assumption) ?_
          try simp only [List.getElem_toArray, List.getElem_cons_zero, List.getElem_cons_succ]
          try simp only [Act.put, List.setIfInBounds_toArray, List.set_cons_zero, List.set_cons_succ]
          refine wpAnyH_take (i := 21) (v := undef) rfl (by kernel_rfl) (by kernel_rfl) (by kernel_rfl) (fun _ _ _ h => h) (Or.inr ⟨by rfl, rfl⟩) (by assumption) ?_
          try simp only [List.getElem_toArray, List.getElem_cons_zero, List.getElem_cons_succ]
          try simp only [Act.put, List.setIfInBounds_toArray, List.set_cons_zero, List.set_cons_succ]
          refine wpAnyH_take (i := 22) (v := undef) rfl (by kernel_rfl) (by kernel_rfl) (by kernel_rfl) (fun _ _ _ h => h) (Or.inr ⟨by rfl, rfl⟩) (by assumption) ?_
          try simp only [List.getElem_toArray, List.getElem_cons_zero, List.getElem_cons_succ]
          try simp only [Act.put, List.setIfInBounds_toArray, List.set_cons_zero, List.set_cons_succ]
          refine wpAnyH_take (i := 23) (v := undef) rfl (by kernel_rfl) (by kernel_rfl) (by kernel_rfl) (fun _ _ _ h => h) (Or.inr ⟨by rfl, rfl⟩) (by assumption) ?_
          try simp only [List.getElem_toArray, List.getElem_cons_zero, List.getElem_cons_succ]
          try simp only [Act.put, List.setIfInBounds_toArray, List.set_cons_zero, List.set_cons_succ]
          refine' wpAnyH_take (i := 24) (v := _) rfl (by kernel_rfl) (by kernel_rfl) (by kernel_rfl) (fun _ _ _ h => h) (Or.inl ⟨by rfl, ?hy61⟩) (by assumption) ?rest61
          case hy61 => (intro w hSw; (try dsimp only at hSw); try simp only [List.getElem_toArray, List.getElem_cons_zero, List.getElem_cons_succ]; go_simp; (try with_reducible rfl))
          try simp only [List.getElem_toArray, List.getElem_cons_zero, List.getElem_cons_succ]
          try simp only [Act.put, List.setIfInBounds_toArray, List.set_cons_zero, List.set_cons_succ]
          refine wpAnyH_done (by kernel_rfl) ?_ _
          go_wp2_with fail
          go_ret
          rw [← HE.out]
          exact ⟨rfl, HB.out⟩
      · have hi1 : ¬ (i : Int) < (n : Int) := by omega
        have HE : Hid (true = v) := BV.out true ⟨fun _ => ⟨HNM.out, fun j => by
          rcases Nat.lt_or_ge j i with h | h
          · exact HG.out j h
          · intro x y hx
            have h2 := (List.getElem?_eq_some_iff.1 hx).1
            have := HXL.out
            omega⟩, fun _ => rfl⟩
        go_wp2_with fail
        go_ret
        rw [← HE.out]
        exact ⟨rfl, HB.out⟩
  · have g0 : ((n : Int) != (m : Int)) = true := bne_iff_ne.2 (by omega)
    have HE : Hid (false = v) := bv false ⟨fun h => (by cases h), fun h => absurd h.1 hnm⟩
    clear hx hy hn hm hl hs hv hnm bv
    go_enter Tryz.func37, Tryz.ntmps37
    go_wp2_with fail
    go_ret
    rw [← HE.out]
    exact ⟨rfl, HB.out⟩

/-- What ShortVec asks. -/
def ShortAll (ys : List (TV × Rat)) (N k : Nat) : Prop := ys.length ≤ N ∧ ∀ y ∈ ys, y.1.n ≤ k ∧ y.1.m ≤ k
theorem IsV.short {w : World} {A : Option Addr} {n c k l N : Nat} {ys : List (TV × Rat)} (h : IsV w A n c ys l) (hs : ShortAll ys N k) : IsV w A n c ys k := ⟨h.en, h.cap, h.row, fun y hy => ⟨⟨(h.tq y hy).1.ex, (hs.2 y hy).1, (hs.2 y hy).2, (h.tq y hy).1.cap, (h.tq y hy).1.cap2⟩, (h.tq y hy).2⟩⟩
/-- Of two in the one form SameVec tells whether they are the same functions. -/
theorem samevec_c {w : World} {A B : Option Addr} {n c m d : Nat} {F G : Int → Rat} (hx : CF w A n c F) (hy : CF w B m d G) (hn : n ≤ 1000000) (v : Bool) (hv : v = true ↔ F = G) : Calls Tryz.prog 37 #[.slice A n c, .slice B m d] w (RetB w v) := by
  obtain ⟨xs, h1, h2, h3⟩ := hx.ex
  obtain ⟨ys, g1, g2, g3⟩ := hy.ex
  have hb : ∃ b : Nat → Bool, ∀ j x y, xs[j]? = some x → ys[j]? = some y → b j = decide (x.2 = y.2) := by
    refine ⟨fun j => decide ((xs[j]?.map Prod.snd) = (ys[j]?.map Prod.snd)), fun j x y hx hy => ?_⟩
    simp [hx, hy]
  obtain ⟨b, hb⟩ := hb
  have at1 : ∀ (zs : List (TV × Rat)) (j : Nat) (x : TV), (zs.map Prod.fst)[j]? = some x → ∃ q : Rat, zs[j]? = some (x, q) := by
    intro zs j x h
    rw [List.getElem?_map] at h
    obtain ⟨z, hz, rfl⟩ := Option.map_eq_some_iff.1 h
    exact ⟨z.2, hz⟩
  refine samevec_any h1.row g1.row (by rw [List.length_map]; exact h1.en) (by rw [List.length_map]; exact g1.en) hn b ?_ v ?_
  · intro j x y W hxj hyj hW
    obtain ⟨p, hp⟩ := at1 xs j x hxj
    obtain ⟨q, hq⟩ := at1 ys j y hyj
    have o1 := (h3 _ (List.mem_of_getElem? hp)).below hW
    have o2 := (g3 _ (List.mem_of_getElem? hq)).below hW
    have hl : ql p ≤ 100000 := Nat.le_trans ((h1.tq _ (List.mem_of_getElem? hp)).1.ql (by omega)) (by omega)
    rw [hb j _ _ hp hq]
    exact Q.rat_j o1 o2 hl _ rfl
  · rw [hv]
    constructor
    · rintro rfl
      have e : vals xs = vals ys := (cf_eq h1 h2 g1 g2).2 rfl
      refine ⟨by rw [h1.en, g1.en, ← vals_len, e, vals_len], fun j x y hxj hyj => ?_⟩
      obtain ⟨p, hp⟩ := at1 xs j x hxj
      obtain ⟨q, hq⟩ := at1 ys j y hyj
      have e1 : (vals xs)[j]? = some (x.at_, p) := by unfold vals; rw [List.getElem?_map, hp]; rfl
      have e2 : (vals ys)[j]? = some (y.at_, q) := by unfold vals; rw [List.getElem?_map, hq]; rfl
      rw [e, e2] at e1
      obtain ⟨k1, k2⟩ := Prod.mk.inj (Option.some.inj e1)
      exact ⟨k1.symm, by rw [hb j _ _ hp hq]; exact decide_eq_true k2.symm⟩
    · rintro ⟨hl, hj⟩
      refine (cf_eq h1 h2 g1 g2).1 (List.ext_getElem? fun j => ?_)
      unfold vals
      rw [List.getElem?_map, List.getElem?_map]
      cases hx : xs[j]? with
      | none =>
        have := List.getElem?_eq_none_iff.1 hx
        rw [List.getElem?_eq_none (by rw [← g1.en, ← hl, h1.en]; exact this)]
      | some x =>
        obtain ⟨hj1, _⟩ := List.getElem?_eq_some_iff.1 hx
        obtain ⟨y, hy⟩ : ∃ y, ys[j]? = some y := ⟨_, List.getElem?_eq_getElem (by rw [← g1.en, ← hl, h1.en]; exact hj1)⟩
        obtain ⟨k1, k2⟩ := hj j x.1 y.1 (by rw [List.getElem?_map, hx]; rfl) (by rw [List.getElem?_map, hy]; rfl)
        rw [hb j _ _ hx hy] at k2
        rw [hy]
        show some (x.1.at_, x.2) = some (y.1.at_, y.2)
        rw [k1, of_decide_eq_true k2]
end Go.Proofs.YtmbnlhedbedcdaaGreatDoor.V

/- law05.awake, walked. -/
namespace Go.Proofs.YtmbnlhedbedcdaaGreatDoor.V
open Go.RowKit
open Go.Proofs.YtmbnlhedbedcdaaGreatDoor.Q (IsQ OneQ RetQ below_on ql Qbx)

/-- A short literal row of terms: each number in the one form, of one digit. -/
def AllOne (w : World) (zs : List (TV × Rat)) : Prop := ∀ y ∈ zs, (OneQ w y.1.s y.1.A y.1.n y.1.c y.1.t y.1.B y.1.m y.1.d y.2 ∧ -9223372036854775808 ≤ y.1.at_ ∧ y.1.at_ ≤ 9223372036854775807) ∧ ql y.2 ≤ 1
theorem all_nil {w : World} : AllOne w [] := fun _ h => by cases h
theorem all_cons {w : World} {zs : List (TV × Rat)} {a : Int} {s : Bool} {A : Option Addr} {n c : Nat} {t : Bool} {B : Option Addr} {m d : Nat} {q : Rat} (h : OneQ w s A n c t B m d q) (ha : -9223372036854775808 ≤ a ∧ a ≤ 9223372036854775807) (hq : decide (q.num.natAbs < 18446744073709551616 ∧ q.den < 18446744073709551616) = true) (hz : AllOne w zs) : AllOne w (((⟨a, s, A, n, c, t, B, m, d⟩ : TV), q) :: zs) := by
  intro y hy
  rcases List.mem_cons.1 hy with rfl | hy
  · refine ⟨⟨h, ha⟩, ?_⟩
    obtain ⟨h1, h2⟩ := of_decide_eq_true hq
    have e1 : (dig q.num.natAbs).length ≤ 1 := dig_length_le (by rw [B64_eq]; omega)
    have e2 : (dig q.den).length ≤ 1 := dig_length_le (by rw [B64_eq]; omega)
    have e3 : zl q.num ≤ 1 := e1
    show max (zl q.num) (dig q.den).length ≤ 1
    omega
  · exact hz y hy
structure Lit (w : World) (g : Nat) (zs : List (TV × Rat)) : Prop where
  row : w.heap[g]? = some (.cells (flat (zs.map Prod.fst)).toArray 28 (0, 0))
  one : AllOne w zs
theorem Lit.below {w w' : World} {g : Nat} {zs : List (TV × Rat)} (h : Lit w g zs) (hb : Below w.heap.size w w') : Lit w' g zs :=
  ⟨(hb.block g (lt_of_block h.row)).trans h.row, fun y hy => ⟨⟨(h.one y hy).1.1.below hb, (h.one y hy).1.2⟩, (h.one y hy).2⟩⟩
theorem Lit.ql {w : World} {g : Nat} {zs : List (TV × Rat)} (h : Lit w g zs) : ∀ x ∈ vals zs, Q.ql x.2 ≤ 1 := by
  intro x hx
  obtain ⟨y, hy, rfl⟩ := List.mem_map.1 hx
  exact (h.one y hy).2
theorem Lit.fn {w : World} {g : Nat} {zs : List (TV × Rat)} (h : Lit w g zs) (hl : zs.length ≤ 10) : Fn 11 12 10 (tot (vals zs)) := (short_fn (k := 1) (L := 10) h.ql (by rw [vals_len]; exact hl) (by omega)).1
theorem Lit.vf {w : World} {g : Nat} {zs : List (TV × Rat)} (h : Lit w g zs) (hl : zs.length ≤ 10) : VF w (some ⟨g, 0, none⟩) zs.length zs.length (tot (vals zs)) :=
  ⟨⟨zs, lit_isv h.row (fun y hy => (h.one y hy).1) (fun y hy => Nat.le_trans (h.one y hy).2 (by omega)), (short_fn (k := 1) (L := 10) h.ql (by rw [vals_len]; exact hl) (by omega)).2 (by omega), rfl⟩, by omega, fun a ha => by obtain rfl := Option.some.inj ha; exact lt_of_block h.row⟩
theorem Lit.cf {w : World} {g : Nat} {zs : List (TV × Rat)} (h : Lit w g zs) (hc : Canon (vals zs)) : CF w (some ⟨g, 0, none⟩) zs.length zs.length (tot (vals zs)) :=
  ⟨⟨zs, lit_isv h.row (fun y hy => (h.one y hy).1) (fun y hy => Nat.le_trans (h.one y hy).2 (by omega)), ⟨hc, fun _ => rfl⟩, fun y hy => (h.one y hy).1.1⟩, fun a ha => by obtain rfl := Option.some.inj ha; exact lt_of_block h.row⟩
theorem canon_one {a : Int} {q : Rat} (h : q ≠ 0) : Canon [(a, q)] := ⟨List.pairwise_singleton _ _, fun x hx => by obtain rfl := List.mem_singleton.1 hx; exact h⟩
theorem canon_two {a b : Int} {q r : Rat} (hab : a < b) (h : q ≠ 0) (h2 : r ≠ 0) : Canon [(a, q), (b, r)] := by
  refine ⟨List.pairwise_cons.2 ⟨fun x hx => by obtain rfl := List.mem_singleton.1 hx; exact hab, List.pairwise_singleton _ _⟩, fun x hx => ?_⟩
  rcases List.mem_cons.1 hx with rfl | hx
  · exact h
  · obtain rfl := List.mem_singleton.1 hx; exact h2
theorem cf_le {w : World} {A : Option Addr} {n c p l L : Nat} {F : Int → Rat} (hx : CF w A n c F) (hF : Fn p l L F) (hL : L ≤ 1000) : n ≤ 1000000 := by
  obtain ⟨ys, h1, h2, _⟩ := hx.ex
  have h3 := is_len h2 hF
  rw [vals_len] at h3
  rw [h1.en]
  omega
/-- A row of terms is laid: the operation, taken in a drawn region. -/
theorem wp_row {o : Oper} {a : Act} {w : World} {K : Act → World → Prop} {Q : Exit → Act → World → Prop} (t : TypeId) (len : Nat) (parts : Array (Nat × Operand)) (ho : o.op = .buildSlice t len parts) (cells : Array Value)
    (hu : Tryz.prog.underlying t = some (.slice 28)) (hl : 0 < len ∧ len ≤ 1000) (hf : Instr.fill (fun i => some (i * 5, 5)) ((Array.range (len * 5)).map (zeroT.cells[· % zeroT.cells.size]!)) (parts.map fun (i, x) => (i, a.eval x)).toList = some cells)
    (h : K (a.put o.dst (.slice (some ⟨w.heap.size, 0, none⟩) len len)) (w.alloc (.cells cells 28))) : o.wp Tryz.prog a w K Q := by
  obtain ⟨i, hi, hz, hs, hb⟩ := info_parts info_t
  exact wp_buildSlice t _ len parts ho cells i zeroT hu hi hz (by rw [hs]; omega) (by rw [hs]; omega) (by rw [hs]; exact hf) h
section
variable {o : Oper} {a : Act} {w : World} {K : Act → World → Prop} {Q : Exit → Act → World → Prop} {c0 c1 c2 c3 c4 d0 d1 d2 d3 d4 : Value}
theorem wp_row1 (t : TypeId) (x : Operand) (ho : o.op = .buildSlice t 1 #[(0, x)]) (hx : a.eval x = .agg #[c0, c1, c2, c3, c4]) (hu : Tryz.prog.underlying t = some (.slice 28))
    (h : K (a.put o.dst (.slice (some ⟨w.heap.size, 0, none⟩) 1 1)) (w.alloc (.cells #[c0, c1, c2, c3, c4] 28))) : o.wp Tryz.prog a w K Q := by
  refine wp_row t 1 _ ho _ hu (by omega) ?_ h
  simp only [List.map_toArray, List.map_cons, List.map_nil, hx]
  kernel_rfl
theorem wp_row2 (t : TypeId) (x y : Operand) (ho : o.op = .buildSlice t 2 #[(0, x), (1, y)]) (hx : a.eval x = .agg #[c0, c1, c2, c3, c4]) (hy : a.eval y = .agg #[d0, d1, d2, d3, d4]) (hu : Tryz.prog.underlying t = some (.slice 28))
    (h : K (a.put o.dst (.slice (some ⟨w.heap.size, 0, none⟩) 2 2)) (w.alloc (.cells #[c0, c1, c2, c3, c4, d0, d1, d2, d3, d4] 28))) : o.wp Tryz.prog a w K Q := by
  refine wp_row t 2 _ ho _ hu (by omega) ?_ h
  simp only [List.map_toArray, List.map_cons, List.map_nil, hx, hy]
  kernel_rfl
end
theorem fn10 {F : Int → Rat} (h : ∃ l : List (Int × Rat), l.length ≤ 10 ∧ (∀ x ∈ l, ql x.2 ≤ 1) ∧ tot l = F) : Fn 11 12 10 F := by
  obtain ⟨l, h1, h2, rfl⟩ := h
  exact (short_fn (k := 1) (L := 10) h2 h1 (by omega)).1
set_option maxRecDepth 100000 in
set_option maxHeartbeats 8000000 in
theorem awake_v (w : World) : Calls Tryz.prog 15 #[] w (RetB w true) := by
  have HB := Lib.hid (Below.refl w.heap.size w)
  go_enter Tryz.func15, Tryz.ntmps15
  go_wp2_with fail
  refine (term_any w (2) (1) (1) (by omega) (by omega) (by omega) (by omega) (1) (by decide +kernel)).mono ?_
  rintro e w1 ⟨s1, A1, n1, c1, t1, B1, m1, d1, rfl, ho, hbx⟩
  replace HB := Lib.hid (below_on HB.out hbx)
  have HO1 := Lib.hid ho
  clear ho hbx
  go_wp2_with fail
  refine (term_any w1 (0) (1) (2) (by omega) (by omega) (by omega) (by omega) (1/2) (by decide +kernel)).mono ?_
  rintro e w2 ⟨s2, A2, n2, c2, t2, B2, m2, d2, rfl, ho, hbx⟩
  replace HB := Lib.hid (below_on HB.out hbx)
  replace HO1 := Lib.hid (HO1.out.below hbx)
  have HO2 := Lib.hid ho
  clear ho hbx
  go_wp2_with fail
  refine (term_any w2 (2) (-1) (1) (by omega) (by omega) (by omega) (by omega) (-1) (by decide +kernel)).mono ?_
  rintro e w3 ⟨s3, A3, n3, c3, t3, B3, m3, d3, rfl, ho, hbx⟩
  replace HB := Lib.hid (below_on HB.out hbx)
  replace HO1 := Lib.hid (HO1.out.below hbx)
  replace HO2 := Lib.hid (HO2.out.below hbx)
  have HO3 := Lib.hid ho
  clear ho hbx
  obtain ⟨w4, hX⟩ : ∃ V, w3.alloc (.cells #[.int .i64 2, .bool s1, .slice A1 n1 c1, .bool t1, .slice B1 m1 d1, .int .i64 0, .bool s2, .slice A2 n2 c2, .bool t2, .slice B2 m2 d2, .int .i64 2, .bool s3, .slice A3 n3 c3, .bool t3, .slice B3 m3 d3] 28) = V := ⟨_, rfl⟩
  have hbx : Below w3.heap.size w3 w4 := by rw [← hX]; exact (Below.refl _ _).alloc (Nat.le_refl _) _
  have hrx : w4.heap[w3.heap.size]? = some (.cells #[.int .i64 2, .bool s1, .slice A1 n1 c1, .bool t1, .slice B1 m1 d1, .int .i64 0, .bool s2, .slice A2 n2 c2, .bool t2, .slice B2 m2 d2, .int .i64 2, .bool s3, .slice A3 n3 c3, .bool t3, .slice B3 m3 d3] 28 (0, 0)) := by rw [← hX]; exact heap_alloc_new w3 _
  replace HB := Lib.hid (below_on HB.out hbx)
  replace HO1 := Lib.hid (HO1.out.below hbx)
  replace HO2 := Lib.hid (HO2.out.below hbx)
  replace HO3 := Lib.hid (HO3.out.below hbx)
  have HL4 : Hid (Lit w4 w3.heap.size [((⟨2, s1, A1, n1, c1, t1, B1, m1, d1⟩ : TV), 1), ((⟨0, s2, A2, n2, c2, t2, B2, m2, d2⟩ : TV), 1/2), ((⟨2, s3, A3, n3, c3, t3, B3, m3, d3⟩ : TV), -1)]) := ⟨hrx, (all_cons HO1.out (by omega) (by decide +kernel) (all_cons HO2.out (by omega) (by decide +kernel) (all_cons HO3.out (by omega) (by decide +kernel) all_nil)))⟩
  clear hrx hbx HO1 HO2 HO3
  go_wp2_with fail
  clear hX
  refine (norm_c (HL4.out.vf (by simp)) (HL4.out.fn (by simp)) (by omega) (by omega)).mono ?_
  rintro e w5 ⟨Ga, na, ca, rfl, hc, hbx⟩
  replace HB := Lib.hid (below_on HB.out hbx)
  replace HL4 := Lib.hid (HL4.out.below hbx)
  have HCa := Lib.hid hc
  have HLA : Hid (na ≤ 1000000) := cf_le hc (HL4.out.fn (by simp)) (by omega)
  clear hc hbx
  clear HL4
  go_upto_region 2 with fail
  go_wp2_with fail
  refine (term_any w5 (0) (1) (1) (by omega) (by omega) (by omega) (by omega) (1) (by decide +kernel)).mono ?_
  rintro e w6 ⟨s6, A6, n6, c6, t6, B6, m6, d6, rfl, ho, hbx⟩
  replace HB := Lib.hid (below_on HB.out hbx)
  replace HCa := Lib.hid (HCa.out.below hbx)
  have HO6 := Lib.hid ho
  clear ho hbx
  go_wp2_with fail
  refine (term_any w6 (3) (2) (1) (by omega) (by omega) (by omega) (by omega) (2) (by decide +kernel)).mono ?_
  rintro e w7 ⟨s7, A7, n7, c7, t7, B7, m7, d7, rfl, ho, hbx⟩
  replace HB := Lib.hid (below_on HB.out hbx)
  replace HCa := Lib.hid (HCa.out.below hbx)
  replace HO6 := Lib.hid (HO6.out.below hbx)
  have HO7 := Lib.hid ho
  clear ho hbx
  obtain ⟨w8, hX⟩ : ∃ V, w7.alloc (.cells #[.int .i64 0, .bool s6, .slice A6 n6 c6, .bool t6, .slice B6 m6 d6, .int .i64 3, .bool s7, .slice A7 n7 c7, .bool t7, .slice B7 m7 d7] 28) = V := ⟨_, rfl⟩
  have hbx : Below w7.heap.size w7 w8 := by rw [← hX]; exact (Below.refl _ _).alloc (Nat.le_refl _) _
  have hrx : w8.heap[w7.heap.size]? = some (.cells #[.int .i64 0, .bool s6, .slice A6 n6 c6, .bool t6, .slice B6 m6 d6, .int .i64 3, .bool s7, .slice A7 n7 c7, .bool t7, .slice B7 m7 d7] 28 (0, 0)) := by rw [← hX]; exact heap_alloc_new w7 _
  replace HB := Lib.hid (below_on HB.out hbx)
  replace HCa := Lib.hid (HCa.out.below hbx)
  replace HO6 := Lib.hid (HO6.out.below hbx)
  replace HO7 := Lib.hid (HO7.out.below hbx)
  have HL8 : Hid (Lit w8 w7.heap.size [((⟨0, s6, A6, n6, c6, t6, B6, m6, d6⟩ : TV), 1), ((⟨3, s7, A7, n7, c7, t7, B7, m7, d7⟩ : TV), 2)]) := ⟨hrx, (all_cons HO6.out (by omega) (by decide +kernel) (all_cons HO7.out (by omega) (by decide +kernel) all_nil))⟩
  clear hrx hbx HO6 HO7
  go_wp2_with fail
  clear hX
  refine (term_any w8 (3) (-2) (1) (by omega) (by omega) (by omega) (by omega) (-2) (by decide +kernel)).mono ?_
  rintro e w9 ⟨s9, A9, n9, c9, t9, B9, m9, d9, rfl, ho, hbx⟩
  replace HB := Lib.hid (below_on HB.out hbx)
  replace HCa := Lib.hid (HCa.out.below hbx)
  replace HL8 := Lib.hid (HL8.out.below hbx)
  have HO9 := Lib.hid ho
  clear ho hbx
  go_wp2_with fail
  refine (term_any w9 (4) (1) (1) (by omega) (by omega) (by omega) (by omega) (1) (by decide +kernel)).mono ?_
  rintro e w10 ⟨s10, A10, n10, c10, t10, B10, m10, d10, rfl, ho, hbx⟩
  replace HB := Lib.hid (below_on HB.out hbx)
  replace HCa := Lib.hid (HCa.out.below hbx)
  replace HL8 := Lib.hid (HL8.out.below hbx)
  replace HO9 := Lib.hid (HO9.out.below hbx)
  have HO10 := Lib.hid ho
  clear ho hbx
  obtain ⟨w11, hX⟩ : ∃ V, w10.alloc (.cells #[.int .i64 3, .bool s9, .slice A9 n9 c9, .bool t9, .slice B9 m9 d9, .int .i64 4, .bool s10, .slice A10 n10 c10, .bool t10, .slice B10 m10 d10] 28) = V := ⟨_, rfl⟩
  have hbx : Below w10.heap.size w10 w11 := by rw [← hX]; exact (Below.refl _ _).alloc (Nat.le_refl _) _
  have hrx : w11.heap[w10.heap.size]? = some (.cells #[.int .i64 3, .bool s9, .slice A9 n9 c9, .bool t9, .slice B9 m9 d9, .int .i64 4, .bool s10, .slice A10 n10 c10, .bool t10, .slice B10 m10 d10] 28 (0, 0)) := by rw [← hX]; exact heap_alloc_new w10 _
  replace HB := Lib.hid (below_on HB.out hbx)
  replace HCa := Lib.hid (HCa.out.below hbx)
  replace HL8 := Lib.hid (HL8.out.below hbx)
  replace HO9 := Lib.hid (HO9.out.below hbx)
  replace HO10 := Lib.hid (HO10.out.below hbx)
  have HL11 : Hid (Lit w11 w10.heap.size [((⟨3, s9, A9, n9, c9, t9, B9, m9, d9⟩ : TV), -2), ((⟨4, s10, A10, n10, c10, t10, B10, m10, d10⟩ : TV), 1)]) := ⟨hrx, (all_cons HO9.out (by omega) (by decide +kernel) (all_cons HO10.out (by omega) (by decide +kernel) all_nil))⟩
  clear hrx hbx HO9 HO10
  go_wp2_with fail
  clear hX
  refine (add_c (HL8.out.vf (by simp)) (HL11.out.vf (by simp)) rfl ((HL8.out.fn (by simp)).add (HL11.out.fn (by simp))) (by omega) (by omega)).mono ?_
  rintro e w12 ⟨Gb, nb, cb, rfl, hc, hbx⟩
  replace HB := Lib.hid (below_on HB.out hbx)
  replace HCa := Lib.hid (HCa.out.below hbx)
  replace HL8 := Lib.hid (HL8.out.below hbx)
  replace HL11 := Lib.hid (HL11.out.below hbx)
  have HCb := Lib.hid hc
  have HLB : Hid (nb ≤ 1000000) := cf_le hc ((HL8.out.fn (by simp)).add (HL11.out.fn (by simp))) (by omega)
  clear hc hbx
  clear HL8 HL11
  go_upto_region 3 with fail
  go_wp2_with fail
  refine (term_any w12 (0) (1) (1) (by omega) (by omega) (by omega) (by omega) (1) (by decide +kernel)).mono ?_
  rintro e w13 ⟨s13, A13, n13, c13, t13, B13, m13, d13, rfl, ho, hbx⟩
  replace HB := Lib.hid (below_on HB.out hbx)
  replace HCa := Lib.hid (HCa.out.below hbx)
  replace HCb := Lib.hid (HCb.out.below hbx)
  have HO13 := Lib.hid ho
  clear ho hbx
  obtain ⟨w14, hX⟩ : ∃ V, w13.alloc (.cells #[.int .i64 0, .bool s13, .slice A13 n13 c13, .bool t13, .slice B13 m13 d13] 28) = V := ⟨_, rfl⟩
  have hbx : Below w13.heap.size w13 w14 := by rw [← hX]; exact (Below.refl _ _).alloc (Nat.le_refl _) _
  have hrx : w14.heap[w13.heap.size]? = some (.cells #[.int .i64 0, .bool s13, .slice A13 n13 c13, .bool t13, .slice B13 m13 d13] 28 (0, 0)) := by rw [← hX]; exact heap_alloc_new w13 _
  replace HB := Lib.hid (below_on HB.out hbx)
  replace HCa := Lib.hid (HCa.out.below hbx)
  replace HCb := Lib.hid (HCb.out.below hbx)
  replace HO13 := Lib.hid (HO13.out.below hbx)
  have HL14 : Hid (Lit w14 w13.heap.size [((⟨0, s13, A13, n13, c13, t13, B13, m13, d13⟩ : TV), 1)]) := ⟨hrx, (all_cons HO13.out (by omega) (by decide +kernel) all_nil)⟩
  clear hrx hbx HO13
  go_wp2_with fail
  clear hX
  refine (Q.of_q w14 (-2) 1 (by omega) (by omega) (by omega) (by omega) (-2) (by decide +kernel)).mono ?_
  rintro e w15 ⟨sq, Aq, nq, cq, tq, Bq, mq, dq, rfl, ho, hbx⟩
  replace HB := Lib.hid (below_on HB.out hbx)
  replace HCa := Lib.hid (HCa.out.below hbx)
  replace HCb := Lib.hid (HCb.out.below hbx)
  replace HL14 := Lib.hid (HL14.out.below hbx)
  have HQ := Lib.hid ho
  clear ho hbx
  go_wp2_with fail
  refine (term_any w15 (0) (1) (2) (by omega) (by omega) (by omega) (by omega) (1/2) (by decide +kernel)).mono ?_
  rintro e w16 ⟨s16, A16, n16, c16, t16, B16, m16, d16, rfl, ho, hbx⟩
  replace HB := Lib.hid (below_on HB.out hbx)
  replace HCa := Lib.hid (HCa.out.below hbx)
  replace HCb := Lib.hid (HCb.out.below hbx)
  replace HL14 := Lib.hid (HL14.out.below hbx)
  replace HQ := Lib.hid (HQ.out.below hbx)
  have HO16 := Lib.hid ho
  clear ho hbx
  go_wp2_with fail
  refine (term_any w16 (1) (1) (1) (by omega) (by omega) (by omega) (by omega) (1) (by decide +kernel)).mono ?_
  rintro e w17 ⟨s17, A17, n17, c17, t17, B17, m17, d17, rfl, ho, hbx⟩
  replace HB := Lib.hid (below_on HB.out hbx)
  replace HCa := Lib.hid (HCa.out.below hbx)
  replace HCb := Lib.hid (HCb.out.below hbx)
  replace HL14 := Lib.hid (HL14.out.below hbx)
  replace HQ := Lib.hid (HQ.out.below hbx)
  replace HO16 := Lib.hid (HO16.out.below hbx)
  have HO17 := Lib.hid ho
  clear ho hbx
  obtain ⟨w18, hX⟩ : ∃ V, w17.alloc (.cells #[.int .i64 0, .bool s16, .slice A16 n16 c16, .bool t16, .slice B16 m16 d16, .int .i64 1, .bool s17, .slice A17 n17 c17, .bool t17, .slice B17 m17 d17] 28) = V := ⟨_, rfl⟩
  have hbx : Below w17.heap.size w17 w18 := by rw [← hX]; exact (Below.refl _ _).alloc (Nat.le_refl _) _
  have hrx : w18.heap[w17.heap.size]? = some (.cells #[.int .i64 0, .bool s16, .slice A16 n16 c16, .bool t16, .slice B16 m16 d16, .int .i64 1, .bool s17, .slice A17 n17 c17, .bool t17, .slice B17 m17 d17] 28 (0, 0)) := by rw [← hX]; exact heap_alloc_new w17 _
  replace HB := Lib.hid (below_on HB.out hbx)
  replace HCa := Lib.hid (HCa.out.below hbx)
  replace HCb := Lib.hid (HCb.out.below hbx)
  replace HL14 := Lib.hid (HL14.out.below hbx)
  replace HQ := Lib.hid (HQ.out.below hbx)
  replace HO16 := Lib.hid (HO16.out.below hbx)
  replace HO17 := Lib.hid (HO17.out.below hbx)
  have HL18 : Hid (Lit w18 w17.heap.size [((⟨0, s16, A16, n16, c16, t16, B16, m16, d16⟩ : TV), 1/2), ((⟨1, s17, A17, n17, c17, t17, B17, m17, d17⟩ : TV), 1)]) := ⟨hrx, (all_cons HO16.out (by omega) (by decide +kernel) (all_cons HO17.out (by omega) (by decide +kernel) all_nil))⟩
  clear hrx hbx HO16 HO17
  have HNQ : Hid (Nm 1 1 (-2)) := Nm.of_ql (by show max (zl (-2 : Rat).num) (dig (-2 : Rat).den).length ≤ 1; have e1 : zl (-2 : Rat).num ≤ 1 := zl_small (by decide +kernel) (by decide +kernel); have e2 : (dig (-2 : Rat).den).length ≤ 1 := dig_length_le (by rw [B64_eq]; decide +kernel); omega)
  go_wp2_with fail
  clear hX
  refine (axpy_c (HQ.out.isq (HNQ.out.ql (by omega) (by omega))) (HL14.out.vf (by simp)) (HL18.out.vf (by simp)) rfl ((HL14.out.fn (by simp)).add (Fn.mul HNQ.out (HL18.out.fn (by simp)))) (by omega) (by omega) (Fn.mul HNQ.out (HL18.out.fn (by simp))) (by omega) (by omega)).mono ?_
  rintro e w19 ⟨Gc, nc, cc, rfl, hc, hbx⟩
  replace HB := Lib.hid (below_on HB.out hbx)
  replace HCa := Lib.hid (HCa.out.below hbx)
  replace HCb := Lib.hid (HCb.out.below hbx)
  replace HL14 := Lib.hid (HL14.out.below hbx)
  replace HQ := Lib.hid (HQ.out.below hbx)
  replace HL18 := Lib.hid (HL18.out.below hbx)
  have HCc := Lib.hid hc
  have HLC : Hid (nc ≤ 1000000) := cf_le hc ((HL14.out.fn (by simp)).add (Fn.mul HNQ.out (HL18.out.fn (by simp)))) (by omega)
  clear hc hbx
  clear HL14 HL18 HQ
  go_upto_region 4 with fail
  go_wp2_with fail
  refine (term_any w19 (0) (1) (1) (by omega) (by omega) (by omega) (by omega) (1) (by decide +kernel)).mono ?_
  rintro e w20 ⟨s20, A20, n20, c20, t20, B20, m20, d20, rfl, ho, hbx⟩
  replace HB := Lib.hid (below_on HB.out hbx)
  replace HCa := Lib.hid (HCa.out.below hbx)
  replace HCb := Lib.hid (HCb.out.below hbx)
  replace HCc := Lib.hid (HCc.out.below hbx)
  have HO20 := Lib.hid ho
  clear ho hbx
  go_wp2_with fail
  refine (term_any w20 (2) (3) (1) (by omega) (by omega) (by omega) (by omega) (3) (by decide +kernel)).mono ?_
  rintro e w21 ⟨s21, A21, n21, c21, t21, B21, m21, d21, rfl, ho, hbx⟩
  replace HB := Lib.hid (below_on HB.out hbx)
  replace HCa := Lib.hid (HCa.out.below hbx)
  replace HCb := Lib.hid (HCb.out.below hbx)
  replace HCc := Lib.hid (HCc.out.below hbx)
  replace HO20 := Lib.hid (HO20.out.below hbx)
  have HO21 := Lib.hid ho
  clear ho hbx
  obtain ⟨w22, hX⟩ : ∃ V, w21.alloc (.cells #[.int .i64 0, .bool s20, .slice A20 n20 c20, .bool t20, .slice B20 m20 d20, .int .i64 2, .bool s21, .slice A21 n21 c21, .bool t21, .slice B21 m21 d21] 28) = V := ⟨_, rfl⟩
  have hbx : Below w21.heap.size w21 w22 := by rw [← hX]; exact (Below.refl _ _).alloc (Nat.le_refl _) _
  have hrx : w22.heap[w21.heap.size]? = some (.cells #[.int .i64 0, .bool s20, .slice A20 n20 c20, .bool t20, .slice B20 m20 d20, .int .i64 2, .bool s21, .slice A21 n21 c21, .bool t21, .slice B21 m21 d21] 28 (0, 0)) := by rw [← hX]; exact heap_alloc_new w21 _
  replace HB := Lib.hid (below_on HB.out hbx)
  replace HCa := Lib.hid (HCa.out.below hbx)
  replace HCb := Lib.hid (HCb.out.below hbx)
  replace HCc := Lib.hid (HCc.out.below hbx)
  replace HO20 := Lib.hid (HO20.out.below hbx)
  replace HO21 := Lib.hid (HO21.out.below hbx)
  have HL22 : Hid (Lit w22 w21.heap.size [((⟨0, s20, A20, n20, c20, t20, B20, m20, d20⟩ : TV), 1), ((⟨2, s21, A21, n21, c21, t21, B21, m21, d21⟩ : TV), 3)]) := ⟨hrx, (all_cons HO20.out (by omega) (by decide +kernel) (all_cons HO21.out (by omega) (by decide +kernel) all_nil))⟩
  clear hrx hbx HO20 HO21
  go_wp2_with fail
  clear hX
  refine (term_any w22 (2) (1) (3) (by omega) (by omega) (by omega) (by omega) (1/3) (by decide +kernel)).mono ?_
  rintro e w23 ⟨s23, A23, n23, c23, t23, B23, m23, d23, rfl, ho, hbx⟩
  replace HB := Lib.hid (below_on HB.out hbx)
  replace HCa := Lib.hid (HCa.out.below hbx)
  replace HCb := Lib.hid (HCb.out.below hbx)
  replace HCc := Lib.hid (HCc.out.below hbx)
  replace HL22 := Lib.hid (HL22.out.below hbx)
  have HO23 := Lib.hid ho
  clear ho hbx
  go_wp2_with fail
  refine (term_any w23 (5) (9) (1) (by omega) (by omega) (by omega) (by omega) (9) (by decide +kernel)).mono ?_
  rintro e w24 ⟨s24, A24, n24, c24, t24, B24, m24, d24, rfl, ho, hbx⟩
  replace HB := Lib.hid (below_on HB.out hbx)
  replace HCa := Lib.hid (HCa.out.below hbx)
  replace HCb := Lib.hid (HCb.out.below hbx)
  replace HCc := Lib.hid (HCc.out.below hbx)
  replace HL22 := Lib.hid (HL22.out.below hbx)
  replace HO23 := Lib.hid (HO23.out.below hbx)
  have HO24 := Lib.hid ho
  clear ho hbx
  obtain ⟨w25, hX⟩ : ∃ V, w24.alloc (.cells #[.int .i64 2, .bool s23, .slice A23 n23 c23, .bool t23, .slice B23 m23 d23, .int .i64 5, .bool s24, .slice A24 n24 c24, .bool t24, .slice B24 m24 d24] 28) = V := ⟨_, rfl⟩
  have hbx : Below w24.heap.size w24 w25 := by rw [← hX]; exact (Below.refl _ _).alloc (Nat.le_refl _) _
  have hrx : w25.heap[w24.heap.size]? = some (.cells #[.int .i64 2, .bool s23, .slice A23 n23 c23, .bool t23, .slice B23 m23 d23, .int .i64 5, .bool s24, .slice A24 n24 c24, .bool t24, .slice B24 m24 d24] 28 (0, 0)) := by rw [← hX]; exact heap_alloc_new w24 _
  replace HB := Lib.hid (below_on HB.out hbx)
  replace HCa := Lib.hid (HCa.out.below hbx)
  replace HCb := Lib.hid (HCb.out.below hbx)
  replace HCc := Lib.hid (HCc.out.below hbx)
  replace HL22 := Lib.hid (HL22.out.below hbx)
  replace HO23 := Lib.hid (HO23.out.below hbx)
  replace HO24 := Lib.hid (HO24.out.below hbx)
  have HL25 : Hid (Lit w25 w24.heap.size [((⟨2, s23, A23, n23, c23, t23, B23, m23, d23⟩ : TV), 1/3), ((⟨5, s24, A24, n24, c24, t24, B24, m24, d24⟩ : TV), 9)]) := ⟨hrx, (all_cons HO23.out (by omega) (by decide +kernel) (all_cons HO24.out (by omega) (by decide +kernel) all_nil))⟩
  clear hrx hbx HO23 HO24
  go_wp2_with fail
  clear hX
  refine (dot_c (HL22.out.vf (by simp)) (HL25.out.vf (by simp)) (HL22.out.fn (by simp)) (HL25.out.fn (by simp)) (by omega) (by omega) (by omega)).mono ?_
  rintro e w26 ⟨qd, hd, hql, sd, Ad, nd, cd, td, Bd, md, dd, rfl, ho, hbx⟩
  replace HB := Lib.hid (below_on HB.out hbx)
  replace HCa := Lib.hid (HCa.out.below hbx)
  replace HCb := Lib.hid (HCb.out.below hbx)
  replace HCc := Lib.hid (HCc.out.below hbx)
  replace HL22 := Lib.hid (HL22.out.below hbx)
  replace HL25 := Lib.hid (HL25.out.below hbx)
  have HQD : Hid (qd = 1) := by
    show _ = _
    rw [hd [0, 2, 5] (by decide) (fun a ha => ?_)]
    · show tot [(0, 1), (2, 3)] 0 * tot [(2, 1/3), (5, 9)] 0 + (tot [(0, 1), (2, 3)] 2 * tot [(2, 1/3), (5, 9)] 2 + (tot [(0, 1), (2, 3)] 5 * tot [(2, 1/3), (5, 9)] 5 + 0)) = 1
      decide +kernel
    · have h0 : a ≠ 0 := fun e => ha (by rw [e]; decide)
      have h2 : a ≠ 2 := fun e => ha (by rw [e]; decide)
      show tot [(0, 1), (2, 3)] a * _ = 0
      rw [tot_cons, tot_cons, tot_nil, if_neg (fun e => h0 e.symm), if_neg (fun e => h2 e.symm)]
      grind
  have hql : ql qd ≤ 100000 := by omega
  have HQL := Lib.hid hql
  have HO := Lib.hid ho
  clear hd ho hql hbx
  clear HL22 HL25
  have EA : Hid (tot [(2, 1), (0, 1/2), (2, -1)] = tot [(0, 1/2)]) := by
    show _ = _
    funext a
    by_cases h0 : a = 0
    · subst h0; decide +kernel
    by_cases h2 : a = 2
    · subst h2; decide +kernel
    (try unfold fadd); (try unfold fmul)
    simp only [tot_cons, tot_nil, if_neg (fun e : (0 : Int) = a => h0 e.symm), if_neg (fun e : (2 : Int) = a => h2 e.symm)]
    grind
  have EB : Hid (fadd (tot [(0, 1), (3, 2)]) (tot [(3, -2), (4, 1)]) = tot [(0, 1), (4, 1)]) := by
    show _ = _
    funext a
    by_cases h0 : a = 0
    · subst h0; decide +kernel
    by_cases h3 : a = 3
    · subst h3; decide +kernel
    by_cases h4 : a = 4
    · subst h4; decide +kernel
    (try unfold fadd); (try unfold fmul)
    simp only [tot_cons, tot_nil, if_neg (fun e : (0 : Int) = a => h0 e.symm), if_neg (fun e : (3 : Int) = a => h3 e.symm), if_neg (fun e : (4 : Int) = a => h4 e.symm)]
    grind
  have EC : Hid (fadd (tot [(0, 1)]) (fmul (-2) (tot [(0, 1/2), (1, 1)])) = tot [(1, -2)]) := by
    show _ = _
    funext a
    by_cases h0 : a = 0
    · subst h0; decide +kernel
    by_cases h1 : a = 1
    · subst h1; decide +kernel
    (try unfold fadd); (try unfold fmul)
    simp only [tot_cons, tot_nil, if_neg (fun e : (0 : Int) = a => h0 e.symm), if_neg (fun e : (1 : Int) = a => h1 e.symm)]
    grind
  go_upto_region 6 with fail
  obtain ⟨w27, hD⟩ : ∃ V, w26.alloc (.cells #[.bool sd, .slice Ad nd cd, .bool td, .slice Bd md dd] 26) = V := ⟨_, rfl⟩
  have hbx : Below w26.heap.size w26 w27 := by rw [← hD]; exact (Below.refl _ _).alloc (Nat.le_refl _) _
  have hbd : Qbx w27 w26.heap.size sd Ad nd cd td Bd md dd := by rw [← hD]; exact Qbx.new _ _ rfl
  rw [hD]
  clear hD
  replace HB := Lib.hid (below_on HB.out hbx)
  replace HCa := Lib.hid (HCa.out.below hbx)
  replace HCb := Lib.hid (HCb.out.below hbx)
  replace HCc := Lib.hid (HCc.out.below hbx)
  replace HO := Lib.hid (HO.out.below hbx)
  have HBD := Lib.hid hbd
  clear hbx hbd
  as_aux_lemma =>
   replace HB := Lib.hid HB.out.drew
   replace HCa := Lib.hid (HCa.out.below (Below.refl _ _).drew)
   replace HCb := Lib.hid (HCb.out.below (Below.refl _ _).drew)
   replace HCc := Lib.hid (HCc.out.below (Below.refl _ _).drew)
   replace HO := Lib.hid (HO.out.below (Below.refl _ _).drew)
   replace HBD := Lib.hid (HBD.out.below (Below.refl _ _).drew)
   refine wp_region_held_drew (S := (fun V => V.cell? ⟨w26.heap.size, 0, none⟩ = some (.bool sd) ∧ V.cell? ⟨w26.heap.size, 1, none⟩ = some (.slice Ad nd cd) ∧ V.cell? ⟨w26.heap.size, 2, none⟩ = some (.bool td) ∧ V.cell? ⟨w26.heap.size, 3, none⟩ = some (.slice Bd md dd))) (by kernel_rfl) (by with_reducible exact ⟨HBD.out.c0, HBD.out.c1, HBD.out.c2, HBD.out.c3⟩) (fun hHeld => ?_)
   refine' wpAnyH_take (i := 0) (v := _) rfl (by kernel_rfl) (by kernel_rfl) (by kernel_rfl) (fun _ _ _ h => h) (Or.inl ⟨by rfl, ?hy1⟩) (by assumption) ?rest1
   case hy1 => (intro w hSw; (try dsimp only at hSw); try simp only [List.getElem_toArray, List.getElem_cons_zero]; go_simp; (try with_reducible rfl))
   try simp only [List.getElem_toArray, List.getElem_cons_zero]
   try simp only [Act.put, List.setIfInBounds_toArray, List.set_cons_zero, List.set_cons_succ]
   refine' wpAnyH_take (i := 1) (v := _) rfl (by kernel_rfl) (by kernel_rfl) (by kernel_rfl) (fun _ _ _ h => h) (Or.inl ⟨by rfl, ?hy2⟩) (by assumption) ?rest2
   case hy2 => (intro w hSw; (try dsimp only at hSw); try simp only [List.getElem_toArray, List.getElem_cons_zero, List.getElem_cons_succ]; go_simp; (try with_reducible rfl))
   try simp only [List.getElem_toArray, List.getElem_cons_zero, List.getElem_cons_succ]
   try simp only [Act.put, List.setIfInBounds_toArray, List.set_cons_zero, List.set_cons_succ]
   refine wpAnyH_ready (rs := [2]) (by kernel_rfl) (by simp) ?_
   refine AllReadyH.cons rfl (fun K hK => ?_) AllReadyH.nil
   try simp only [List.getElem_toArray, List.getElem_cons_zero, List.getElem_cons_succ]
   go_simp
   with_reducible refine (term_any _ (0) (1) (2) (by omega) (by omega) (by omega) (by omega) (1/2) (by decide +kernel)).mono ?_
   rintro e w28 ⟨s28, A28, n28, c28, t28, B28, m28, d28, rfl, ho, hbx⟩
   replace HB := Lib.hid (below_on HB.out hbx)
   replace HCa := Lib.hid (HCa.out.below hbx)
   replace HCb := Lib.hid (HCb.out.below hbx)
   replace HCc := Lib.hid (HCc.out.below hbx)
   replace HO := Lib.hid (HO.out.below hbx)
   replace HBD := Lib.hid (HBD.out.below hbx)
   refine hK.out _ _ (by with_reducible exact ⟨HBD.out.c0, HBD.out.c1, HBD.out.c2, HBD.out.c3⟩) (fun hHeld => ?_)
   clear hK K
   try simp only [Act.put, List.setIfInBounds_toArray, List.set_cons_zero, List.set_cons_succ]
   have HO28 := Lib.hid ho
   clear ho hbx
   refine wpAnyH_ready (rs := [3]) (by kernel_rfl) (by simp) ?_
   refine AllReadyH.cons rfl (fun K hK => ?_) AllReadyH.nil
   try simp only [List.getElem_toArray, List.getElem_cons_zero, List.getElem_cons_succ]
   rw [if_pos (by rfl)]
   refine wp_row1 _ _ rfl (by rfl) (by kernel_rfl) ?_
   try simp only [Act.put, List.setIfInBounds_toArray, List.set_cons_zero, List.set_cons_succ]
   obtain ⟨w29, hX⟩ : ∃ V, w28.alloc (.cells #[.int .i64 0, .bool s28, .slice A28 n28 c28, .bool t28, .slice B28 m28 d28] 28) = V := ⟨_, rfl⟩
   have hbx : Below w28.heap.size w28 w29 := by rw [← hX]; exact (Below.refl _ _).alloc (Nat.le_refl _) _
   have hrx : w29.heap[w28.heap.size]? = some (.cells #[.int .i64 0, .bool s28, .slice A28 n28 c28, .bool t28, .slice B28 m28 d28] 28 (0, 0)) := by rw [← hX]; exact heap_alloc_new w28 _
   rw [hX]
   clear hX
   replace HB := Lib.hid (below_on HB.out hbx)
   replace HCa := Lib.hid (HCa.out.below hbx)
   replace HCb := Lib.hid (HCb.out.below hbx)
   replace HCc := Lib.hid (HCc.out.below hbx)
   replace HO := Lib.hid (HO.out.below hbx)
   replace HBD := Lib.hid (HBD.out.below hbx)
   replace HO28 := Lib.hid (HO28.out.below hbx)
   have HL29 : Hid (Lit w29 w28.heap.size [((⟨0, s28, A28, n28, c28, t28, B28, m28, d28⟩ : TV), 1/2)]) := ⟨hrx, (all_cons HO28.out (by omega) (by decide +kernel) all_nil)⟩
   clear hrx hbx HO28
   refine hK.out _ _ (by with_reducible exact ⟨HBD.out.c0, HBD.out.c1, HBD.out.c2, HBD.out.c3⟩) (fun hHeld => ?_)
   clear hK K
   try simp only [Act.put, List.setIfInBounds_toArray, List.set_cons_zero, List.set_cons_succ]
   have hca : CF _ Ga na ca (tot [(2, 1), (0, 1/2), (2, -1)]) := HCa.out
   rw [EA.out] at hca
   have HCA := Lib.hid hca
   have hcf : CF _ _ 1 1 (tot [(0, 1/2)]) := HL29.out.cf (canon_one (a := 0) (q := 1/2) (by decide +kernel))
   have HCF := Lib.hid hcf
   clear hca hcf
   refine wpAnyH_ready (rs := [4]) (by kernel_rfl) (by simp) ?_
   refine AllReadyH.cons rfl (fun K hK => ?_) AllReadyH.nil
   try simp only [List.getElem_toArray, List.getElem_cons_zero, List.getElem_cons_succ]
   go_simp
   with_reducible refine (samevec_c HCA.out HCF.out HLA.out true ⟨fun _ => rfl, fun _ => rfl⟩).mono ?_
   rintro e w30 ⟨rfl, hbx⟩
   replace HB := Lib.hid (below_on HB.out hbx)
   replace HCa := Lib.hid (HCa.out.below hbx)
   replace HCb := Lib.hid (HCb.out.below hbx)
   replace HCc := Lib.hid (HCc.out.below hbx)
   replace HO := Lib.hid (HO.out.below hbx)
   replace HBD := Lib.hid (HBD.out.below hbx)
   replace HL29 := Lib.hid (HL29.out.below hbx)
   refine hK.out _ _ (by with_reducible exact ⟨HBD.out.c0, HBD.out.c1, HBD.out.c2, HBD.out.c3⟩) (fun hHeld => ?_)
   clear hK K
   try simp only [Act.put, List.setIfInBounds_toArray, List.set_cons_zero, List.set_cons_succ]
   clear hbx HCA HCF
   clear HCa HL29
   refine' wpAnyH_take (i := 5) (v := _) rfl (by kernel_rfl) (by kernel_rfl) (by kernel_rfl) (fun _ _ _ h => h) (Or.inl ⟨by rfl, ?hy3⟩) (by assumption) ?rest3
   case hy3 => (intro w hSw; (try dsimp only at hSw); try simp only [List.getElem_toArray, List.getElem_cons_zero, List.getElem_cons_succ]; go_simp; (try with_reducible rfl))
   try simp only [List.getElem_toArray, List.getElem_cons_zero, List.getElem_cons_succ]
   try simp only [Act.put, List.setIfInBounds_toArray, List.set_cons_zero, List.set_cons_succ]
   refine' wpAnyH_take (i := 6) (v := _) rfl (by kernel_rfl) (by kernel_rfl) (by kernel_rfl) (fun _ _ _ h => h) (Or.inl ⟨by rfl, ?hy4⟩) (by assumption) ?rest4
   case hy4 => (intro w hSw; (try dsimp only at hSw); try simp only [List.getElem_toArray, List.getElem_cons_zero, List.getElem_cons_succ]; go_simp; (try with_reducible rfl))
   try simp only [List.getElem_toArray, List.getElem_cons_zero, List.getElem_cons_succ]
   try simp only [Act.put, List.setIfInBounds_toArray, List.set_cons_zero, List.set_cons_succ]
   refine' wpAnyH_take (i := 7) (v := _) rfl (by kernel_rfl) (by kernel_rfl) (by kernel_rfl) (fun _ _ _ h => h) (Or.inl ⟨by rfl, ?hy5⟩) (by assumption) ?rest5
   case hy5 => (intro w hSw; (try dsimp only at hSw); try simp only [List.getElem_toArray, List.getElem_cons_zero, List.getElem_cons_succ]; go_simp; (try with_reducible rfl))
   try simp only [List.getElem_toArray, List.getElem_cons_zero, List.getElem_cons_succ]
   try simp only [Act.put, List.setIfInBounds_toArray, List.set_cons_zero, List.set_cons_succ]
   refine wpAnyH_ready (rs := [8]) (by kernel_rfl) (by simp) ?_
   refine AllReadyH.cons rfl (fun K hK => ?_) AllReadyH.nil
   try simp only [List.getElem_toArray, List.getElem_cons_zero, List.getElem_cons_succ]
   go_simp
   with_reducible refine (term_any _ (0) (1) (1) (by omega) (by omega) (by omega) (by omega) (1) (by decide +kernel)).mono ?_
   rintro e w31 ⟨s31, A31, n31, c31, t31, B31, m31, d31, rfl, ho, hbx⟩
   replace HB := Lib.hid (below_on HB.out hbx)
   replace HCb := Lib.hid (HCb.out.below hbx)
   replace HCc := Lib.hid (HCc.out.below hbx)
   replace HO := Lib.hid (HO.out.below hbx)
   replace HBD := Lib.hid (HBD.out.below hbx)
   refine hK.out _ _ (by with_reducible exact ⟨HBD.out.c0, HBD.out.c1, HBD.out.c2, HBD.out.c3⟩) (fun hHeld => ?_)
   clear hK K
   try simp only [Act.put, List.setIfInBounds_toArray, List.set_cons_zero, List.set_cons_succ]
   have HO31 := Lib.hid ho
   clear ho hbx
   refine wpAnyH_ready (rs := [9]) (by kernel_rfl) (by simp) ?_
   refine AllReadyH.cons rfl (fun K hK => ?_) AllReadyH.nil
   try simp only [List.getElem_toArray, List.getElem_cons_zero, List.getElem_cons_succ]
   go_simp
   with_reducible refine (term_any _ (4) (1) (1) (by omega) (by omega) (by omega) (by omega) (1) (by decide +kernel)).mono ?_
   rintro e w32 ⟨s32, A32, n32, c32, t32, B32, m32, d32, rfl, ho, hbx⟩
   replace HB := Lib.hid (below_on HB.out hbx)
   replace HCb := Lib.hid (HCb.out.below hbx)
   replace HCc := Lib.hid (HCc.out.below hbx)
   replace HO := Lib.hid (HO.out.below hbx)
   replace HBD := Lib.hid (HBD.out.below hbx)
   replace HO31 := Lib.hid (HO31.out.below hbx)
   refine hK.out _ _ (by with_reducible exact ⟨HBD.out.c0, HBD.out.c1, HBD.out.c2, HBD.out.c3⟩) (fun hHeld => ?_)
   clear hK K
   try simp only [Act.put, List.setIfInBounds_toArray, List.set_cons_zero, List.set_cons_succ]
   have HO32 := Lib.hid ho
   clear ho hbx
   refine wpAnyH_ready (rs := [10]) (by kernel_rfl) (by simp) ?_
   refine AllReadyH.cons rfl (fun K hK => ?_) AllReadyH.nil
   try simp only [List.getElem_toArray, List.getElem_cons_zero, List.getElem_cons_succ]
   rw [if_pos (by rfl)]
   refine wp_row2 _ _ _ rfl (by rfl) (by rfl) (by kernel_rfl) ?_
   try simp only [Act.put, List.setIfInBounds_toArray, List.set_cons_zero, List.set_cons_succ]
   obtain ⟨w33, hX⟩ : ∃ V, w32.alloc (.cells #[.int .i64 0, .bool s31, .slice A31 n31 c31, .bool t31, .slice B31 m31 d31, .int .i64 4, .bool s32, .slice A32 n32 c32, .bool t32, .slice B32 m32 d32] 28) = V := ⟨_, rfl⟩
   have hbx : Below w32.heap.size w32 w33 := by rw [← hX]; exact (Below.refl _ _).alloc (Nat.le_refl _) _
   have hrx : w33.heap[w32.heap.size]? = some (.cells #[.int .i64 0, .bool s31, .slice A31 n31 c31, .bool t31, .slice B31 m31 d31, .int .i64 4, .bool s32, .slice A32 n32 c32, .bool t32, .slice B32 m32 d32] 28 (0, 0)) := by rw [← hX]; exact heap_alloc_new w32 _
   rw [hX]
   clear hX
   replace HB := Lib.hid (below_on HB.out hbx)
   replace HCb := Lib.hid (HCb.out.below hbx)
   replace HCc := Lib.hid (HCc.out.below hbx)
   replace HO := Lib.hid (HO.out.below hbx)
   replace HBD := Lib.hid (HBD.out.below hbx)
   replace HO31 := Lib.hid (HO31.out.below hbx)
   replace HO32 := Lib.hid (HO32.out.below hbx)
   have HL33 : Hid (Lit w33 w32.heap.size [((⟨0, s31, A31, n31, c31, t31, B31, m31, d31⟩ : TV), 1), ((⟨4, s32, A32, n32, c32, t32, B32, m32, d32⟩ : TV), 1)]) := ⟨hrx, (all_cons HO31.out (by omega) (by decide +kernel) (all_cons HO32.out (by omega) (by decide +kernel) all_nil))⟩
   clear hrx hbx HO31 HO32
   refine hK.out _ _ (by with_reducible exact ⟨HBD.out.c0, HBD.out.c1, HBD.out.c2, HBD.out.c3⟩) (fun hHeld => ?_)
   clear hK K
   try simp only [Act.put, List.setIfInBounds_toArray, List.set_cons_zero, List.set_cons_succ]
   have hca : CF _ Gb nb cb (fadd (tot [(0, 1), (3, 2)]) (tot [(3, -2), (4, 1)])) := HCb.out
   rw [EB.out] at hca
   have HCA := Lib.hid hca
   have hcf : CF _ _ 2 2 (tot [(0, 1), (4, 1)]) := HL33.out.cf (canon_two (a := 0) (b := 4) (q := 1) (r := 1) (by omega) (by decide +kernel) (by decide +kernel))
   have HCF := Lib.hid hcf
   clear hca hcf
   refine wpAnyH_ready (rs := [11]) (by kernel_rfl) (by simp) ?_
   refine AllReadyH.cons rfl (fun K hK => ?_) AllReadyH.nil
   try simp only [List.getElem_toArray, List.getElem_cons_zero, List.getElem_cons_succ]
   go_simp
   with_reducible refine (samevec_c HCA.out HCF.out HLB.out true ⟨fun _ => rfl, fun _ => rfl⟩).mono ?_
   rintro e w34 ⟨rfl, hbx⟩
   replace HB := Lib.hid (below_on HB.out hbx)
   replace HCb := Lib.hid (HCb.out.below hbx)
   replace HCc := Lib.hid (HCc.out.below hbx)
   replace HO := Lib.hid (HO.out.below hbx)
   replace HBD := Lib.hid (HBD.out.below hbx)
   replace HL33 := Lib.hid (HL33.out.below hbx)
   refine hK.out _ _ (by with_reducible exact ⟨HBD.out.c0, HBD.out.c1, HBD.out.c2, HBD.out.c3⟩) (fun hHeld => ?_)
   clear hK K
   try simp only [Act.put, List.setIfInBounds_toArray, List.set_cons_zero, List.set_cons_succ]
   clear hbx HCA HCF
   clear HCb HL33
   refine' wpAnyH_take (i := 12) (v := _) rfl (by kernel_rfl) (by kernel_rfl) (by kernel_rfl) (fun _ _ _ h => h) (Or.inl ⟨by rfl, ?hy6⟩) (by assumption) ?rest6
   case hy6 => (intro w hSw; (try dsimp only at hSw); try simp only [List.getElem_toArray, List.getElem_cons_zero, List.getElem_cons_succ]; go_simp; (try with_reducible rfl))
   try simp only [List.getElem_toArray, List.getElem_cons_zero, List.getElem_cons_succ]
   try simp only [Act.put, List.setIfInBounds_toArray, List.set_cons_zero, List.set_cons_succ]
   refine' wpAnyH_take (i := 13) (v := _) rfl (by kernel_rfl) (by kernel_rfl) (by kernel_rfl) (fun _ _ _ h => h) (Or.inl ⟨by rfl, ?hy7⟩) (by assumption) ?rest7
   case hy7 => (intro w hSw; (try dsimp only at hSw); try simp only [List.getElem_toArray, List.getElem_cons_zero, List.getElem_cons_succ]; go_simp; (try with_reducible rfl))
   try simp only [List.getElem_toArray, List.getElem_cons_zero, List.getElem_cons_succ]
   try simp only [Act.put, List.setIfInBounds_toArray, List.set_cons_zero, List.set_cons_succ]
   refine' wpAnyH_take (i := 14) (v := _) rfl (by kernel_rfl) (by kernel_rfl) (by kernel_rfl) (fun _ _ _ h => h) (Or.inl ⟨by rfl, ?hy8⟩) (by assumption) ?rest8
   case hy8 => (intro w hSw; (try dsimp only at hSw); try simp only [List.getElem_toArray, List.getElem_cons_zero, List.getElem_cons_succ]; go_simp; (try with_reducible rfl))
   try simp only [List.getElem_toArray, List.getElem_cons_zero, List.getElem_cons_succ]
   try simp only [Act.put, List.setIfInBounds_toArray, List.set_cons_zero, List.set_cons_succ]
   refine' wpAnyH_take (i := 15) (v := _) rfl (by kernel_rfl) (by kernel_rfl) (by kernel_rfl) (fun _ _ _ h => h) (Or.inl ⟨by rfl, ?hy9⟩) (by assumption) ?rest9
   case hy9 => (intro w hSw; (try dsimp only at hSw); try simp only [List.getElem_toArray, List.getElem_cons_zero, List.getElem_cons_succ]; go_simp; (try with_reducible rfl))
   try simp only [List.getElem_toArray, List.getElem_cons_zero, List.getElem_cons_succ]
   try simp only [Act.put, List.setIfInBounds_toArray, List.set_cons_zero, List.set_cons_succ]
   refine wpAnyH_ready (rs := [16]) (by kernel_rfl) (by simp) ?_
   refine AllReadyH.cons rfl (fun K hK => ?_) AllReadyH.nil
   try simp only [List.getElem_toArray, List.getElem_cons_zero, List.getElem_cons_succ]
   go_simp
   with_reducible refine (term_any _ (1) (-2) (1) (by omega) (by omega) (by omega) (by omega) (-2) (by decide +kernel)).mono ?_
   rintro e w35 ⟨s35, A35, n35, c35, t35, B35, m35, d35, rfl, ho, hbx⟩
   replace HB := Lib.hid (below_on HB.out hbx)
   replace HCc := Lib.hid (HCc.out.below hbx)
   replace HO := Lib.hid (HO.out.below hbx)
   replace HBD := Lib.hid (HBD.out.below hbx)
   refine hK.out _ _ (by with_reducible exact ⟨HBD.out.c0, HBD.out.c1, HBD.out.c2, HBD.out.c3⟩) (fun hHeld => ?_)
   clear hK K
   try simp only [Act.put, List.setIfInBounds_toArray, List.set_cons_zero, List.set_cons_succ]
   have HO35 := Lib.hid ho
   clear ho hbx
   refine wpAnyH_ready (rs := [17]) (by kernel_rfl) (by simp) ?_
   refine AllReadyH.cons rfl (fun K hK => ?_) AllReadyH.nil
   try simp only [List.getElem_toArray, List.getElem_cons_zero, List.getElem_cons_succ]
   rw [if_pos (by rfl)]
   refine wp_row1 _ _ rfl (by rfl) (by kernel_rfl) ?_
   try simp only [Act.put, List.setIfInBounds_toArray, List.set_cons_zero, List.set_cons_succ]
   obtain ⟨w36, hX⟩ : ∃ V, w35.alloc (.cells #[.int .i64 1, .bool s35, .slice A35 n35 c35, .bool t35, .slice B35 m35 d35] 28) = V := ⟨_, rfl⟩
   have hbx : Below w35.heap.size w35 w36 := by rw [← hX]; exact (Below.refl _ _).alloc (Nat.le_refl _) _
   have hrx : w36.heap[w35.heap.size]? = some (.cells #[.int .i64 1, .bool s35, .slice A35 n35 c35, .bool t35, .slice B35 m35 d35] 28 (0, 0)) := by rw [← hX]; exact heap_alloc_new w35 _
   rw [hX]
   clear hX
   replace HB := Lib.hid (below_on HB.out hbx)
   replace HCc := Lib.hid (HCc.out.below hbx)
   replace HO := Lib.hid (HO.out.below hbx)
   replace HBD := Lib.hid (HBD.out.below hbx)
   replace HO35 := Lib.hid (HO35.out.below hbx)
   have HL36 : Hid (Lit w36 w35.heap.size [((⟨1, s35, A35, n35, c35, t35, B35, m35, d35⟩ : TV), -2)]) := ⟨hrx, (all_cons HO35.out (by omega) (by decide +kernel) all_nil)⟩
   clear hrx hbx HO35
   refine hK.out _ _ (by with_reducible exact ⟨HBD.out.c0, HBD.out.c1, HBD.out.c2, HBD.out.c3⟩) (fun hHeld => ?_)
   clear hK K
   try simp only [Act.put, List.setIfInBounds_toArray, List.set_cons_zero, List.set_cons_succ]
   have hca : CF _ Gc nc cc (fadd (tot [(0, 1)]) (fmul (-2) (tot [(0, 1/2), (1, 1)]))) := HCc.out
   rw [EC.out] at hca
   have HCA := Lib.hid hca
   have hcf : CF _ _ 1 1 (tot [(1, -2)]) := HL36.out.cf (canon_one (a := 1) (q := -2) (by decide +kernel))
   have HCF := Lib.hid hcf
   clear hca hcf
   refine wpAnyH_ready (rs := [18]) (by kernel_rfl) (by simp) ?_
   refine AllReadyH.cons rfl (fun K hK => ?_) AllReadyH.nil
   try simp only [List.getElem_toArray, List.getElem_cons_zero, List.getElem_cons_succ]
   go_simp
   with_reducible refine (samevec_c HCA.out HCF.out HLC.out true ⟨fun _ => rfl, fun _ => rfl⟩).mono ?_
   rintro e w37 ⟨rfl, hbx⟩
   replace HB := Lib.hid (below_on HB.out hbx)
   replace HCc := Lib.hid (HCc.out.below hbx)
   replace HO := Lib.hid (HO.out.below hbx)
   replace HBD := Lib.hid (HBD.out.below hbx)
   replace HL36 := Lib.hid (HL36.out.below hbx)
   refine hK.out _ _ (by with_reducible exact ⟨HBD.out.c0, HBD.out.c1, HBD.out.c2, HBD.out.c3⟩) (fun hHeld => ?_)
   clear hK K
   try simp only [Act.put, List.setIfInBounds_toArray, List.set_cons_zero, List.set_cons_succ]
   clear hbx HCA HCF
   clear HCc HL36
   refine' wpAnyH_take (i := 19) (v := _) rfl (by kernel_rfl) (by kernel_rfl) (by kernel_rfl) (fun _ _ _ h => h) (Or.inl ⟨by rfl, ?hy10⟩) (by assumption) ?rest10
   case hy10 => (intro w hSw; (try dsimp only at hSw); try simp only [List.getElem_toArray, List.getElem_cons_zero, List.getElem_cons_succ]; go_simp; (try with_reducible rfl))
   try simp only [List.getElem_toArray, List.getElem_cons_zero, List.getElem_cons_succ]
   try simp only [Act.put, List.setIfInBounds_toArray, List.set_cons_zero, List.set_cons_succ]
   refine' wpAnyH_take (i := 20) (v := _) rfl (by kernel_rfl) (by kernel_rfl) (by kernel_rfl) (fun _ _ _ h => h) (Or.inl ⟨by rfl, ?hy11⟩) (by assumption) ?rest11
   case hy11 => (intro w hSw; (try dsimp only at hSw); try simp only [List.getElem_toArray, List.getElem_cons_zero, List.getElem_cons_succ]; go_simp; (try with_reducible rfl))
   try simp only [List.getElem_toArray, List.getElem_cons_zero, List.getElem_cons_succ]
   try simp only [Act.put, List.setIfInBounds_toArray, List.set_cons_zero, List.set_cons_succ]
   refine' wpAnyH_take (i := 21) (v := _) rfl (by kernel_rfl) (by kernel_rfl) (by kernel_rfl) (fun _ _ _ h => h) (Or.inl ⟨by rfl, ?hy12⟩) (by assumption) ?rest12
   case hy12 => (intro w hSw; (try dsimp only at hSw); try simp only [List.getElem_toArray, List.getElem_cons_zero, List.getElem_cons_succ]; go_simp; (try with_reducible rfl))
   try simp only [List.getElem_toArray, List.getElem_cons_zero, List.getElem_cons_succ]
   try simp only [Act.put, List.setIfInBounds_toArray, List.set_cons_zero, List.set_cons_succ]
   refine wpAnyH_ready (rs := [22]) (by kernel_rfl) (by simp) ?_
   refine AllReadyH.cons rfl (fun K hK => ?_) AllReadyH.nil
   try simp only [List.getElem_toArray, List.getElem_cons_zero, List.getElem_cons_succ]
   go_simp
   with_reducible refine (Q.of_q _ 1 1 (by omega) (by omega) (by omega) (by omega) 1 (by decide +kernel)).mono ?_
   rintro e w38 ⟨sq, Aq, nq, cq, tq, Bq, mq, dq, rfl, ho, hbx⟩
   replace HB := Lib.hid (below_on HB.out hbx)
   replace HO := Lib.hid (HO.out.below hbx)
   replace HBD := Lib.hid (HBD.out.below hbx)
   refine hK.out _ _ (by with_reducible exact ⟨HBD.out.c0, HBD.out.c1, HBD.out.c2, HBD.out.c3⟩) (fun hHeld => ?_)
   clear hK K
   try simp only [Act.put, List.setIfInBounds_toArray, List.set_cons_zero, List.set_cons_succ]
   have HQ := Lib.hid ho
   clear ho hbx
   refine wpAnyH_ready (rs := [23]) (by kernel_rfl) (by simp) ?_
   refine AllReadyH.cons rfl (fun K hK => ?_) AllReadyH.nil
   try simp only [List.getElem_toArray, List.getElem_cons_zero, List.getElem_cons_succ]
   go_simp
   with_reducible refine (Q.rat_t HO.out HQ.out HQL.out HQD.out).mono ?_
   rintro e w39 ⟨rfl, hbx⟩
   replace HB := Lib.hid (below_on HB.out hbx)
   replace HO := Lib.hid (HO.out.below hbx)
   replace HBD := Lib.hid (HBD.out.below hbx)
   replace HQ := Lib.hid (HQ.out.below hbx)
   refine hK.out _ _ (by with_reducible exact ⟨HBD.out.c0, HBD.out.c1, HBD.out.c2, HBD.out.c3⟩) (fun hHeld => ?_)
   clear hK K
   try simp only [Act.put, List.setIfInBounds_toArray, List.set_cons_zero, List.set_cons_succ]
   clear hbx
   refine' wpAnyH_take (i := 24) (v := _) rfl (by kernel_rfl) (by kernel_rfl) (by kernel_rfl) (fun _ _ _ h => h) (Or.inl ⟨by rfl, ?hy13⟩) (by assumption) ?rest13
   case hy13 => (intro w hSw; (try dsimp only at hSw); try simp only [List.getElem_toArray, List.getElem_cons_zero, List.getElem_cons_succ]; go_simp; (try with_reducible rfl))
   try simp only [List.getElem_toArray, List.getElem_cons_zero, List.getElem_cons_succ]
   try simp only [Act.put, List.setIfInBounds_toArray, List.set_cons_zero, List.set_cons_succ]
   refine' wpAnyH_take (i := 25) (v := _) rfl (by kernel_rfl) (by kernel_rfl) (by kernel_rfl) (fun _ _ _ h => h) (Or.inl ⟨by rfl, ?hy14⟩) (by assumption) ?rest14
   case hy14 => (intro w hSw; (try dsimp only at hSw); try simp only [List.getElem_toArray, List.getElem_cons_zero, List.getElem_cons_succ]; go_simp; (try with_reducible rfl))
   try simp only [List.getElem_toArray, List.getElem_cons_zero, List.getElem_cons_succ]
   try simp only [Act.put, List.setIfInBounds_toArray, List.set_cons_zero]
   refine wpAnyH_done (by kernel_rfl) ?_ _
   go_wp2_with fail
   go_ret
   exact ⟨rfl, HB.out⟩
end Go.Proofs.YtmbnlhedbedcdaaGreatDoor.V
