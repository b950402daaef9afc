/- Part 31 of the proof: VFun. -/
import Derived.Test.YthjiacmhhpfokaaGreatM30
namespace Go.Proofs.YthjiacmhhpfokaaGreat
open Nat renaming le_trans → lT, lt_of_lt_of_le → lL
open List renaming length_cons → lC
namespace V
open Go.RowKit
open Q (IsQ OneQ RetQ below_on ql Qbx)
def Nm (p m : Nat) (q : Rat) : Prop := ∃ P N, P ≠ 0 ∧ P < B64 ^ p ∧ N < B64 ^ m ∧ Over P N q
theorem b64_pos : 0 < B64 := by rw [B64_eq]; omega
theorem pow_mono {a b : Nat} (h : a ≤ b) : B64 ^ a ≤ B64 ^ b := Nat.pow_le_pow_right b64_pos h
theorem mul_pow {x y a b : Nat} (hx : x < B64 ^ a) (hy : y < B64 ^ b) : x * y < B64 ^ (a + b) := by
 rw [Nat.pow_add]; exact Nat.mul_lt_mul'' hx hy
theorem lt_dig {n k : Nat} (h : (dig n).length ≤ k) : n < B64 ^ k := by
 have h1 := val_lt (dig_digs n)
 rw [val_dig] at h1
 exact lL h1 (pow_mono h)
theorem Nm.of_ql {q : Rat} {k : Nat} (h : ql q ≤ k) : Nm k k q := by
 unfold Q.ql at h
 refine ⟨q.den, q.num.natAbs, q.den_nz, lt_dig (by omega), lt_dig ?_, Over.self q⟩
 have h2 : zl q.num ≤ k := by omega
 exact h2
theorem Nm.ql {q : Rat} {p m k : Nat} (h : Nm p m q) (hp : p ≤ k) (hm : m ≤ k) : Q.ql q ≤ k := by
 obtain ⟨P, N, h0, h1, h2, h3⟩ := h
 exact h3.ql_le h0 (lT (dig_length_le h1) hp) (lT (dig_length_le h2) hm)
theorem Nm.mono {q : Rat} {p m p2 m2 : Nat} (h : Nm p m q) (hp : p ≤ p2) (hm : m ≤ m2) : Nm p2 m2 q := by
 obtain ⟨P, N, h0, h1, h2, h3⟩ := h
 exact ⟨P, N, h0, lL h1 (pow_mono hp), lL h2 (pow_mono hm), h3⟩
def fadd (F G : Int → Rat) (a : Int) : Rat := F a + G a
def fmul (q : Rat) (F : Int → Rat) (a : Int) : Rat := q * F a
structure Fn (p m L : Nat) (F : Int → Rat) : Prop where
 over : ∃ P N, P ≠ 0 ∧ P < B64 ^ p ∧ N < B64 ^ m ∧ ∀ a, Over P N (F a)
 sup : ∃ S : List Int, S.length ≤ L ∧ ∀ a, F a ≠ 0 → a ∈ S
theorem Fn.nm {p m L : Nat} {F : Int → Rat} (h : Fn p m L F) (a : Int) : Nm p m (F a) := by
 obtain ⟨P, N, h0, h1, h2, h3⟩ := h.over
 exact ⟨P, N, h0, h1, h2, h3 a⟩
theorem Fn.mono {p m L p2 m2 L2 : Nat} {F : Int → Rat} (h : Fn p m L F) (hp : p ≤ p2) (hm : m ≤ m2) (hL : L ≤ L2) : Fn p2 m2 L2 F := by
 obtain ⟨P, N, h0, h1, h2, h3⟩ := h.over
 obtain ⟨S, s1, s2⟩ := h.sup
 exact ⟨⟨P, N, h0, lL h1 (pow_mono hp), lL h2 (pow_mono hm), h3⟩, S, lT s1 hL, s2⟩
theorem Fn.zero : Fn 1 0 0 (fun _ => 0) := ⟨⟨1, 0, by omega, by rw [B64_eq]; omega, by rw [Nat.pow_zero]; omega, fun _ => Over.zero _ _⟩, [], Nat.le_refl _, fun _ h => absurd rfl h⟩
theorem Fn.mul {p m L p' m' : Nat} {F : Int → Rat} {q : Rat} (g : Nm p' m' q) (h : Fn p m L F) : Fn (p' + p) (m' + m) L (fmul q F) := by
 obtain ⟨P, N, h0, h1, h2, h3⟩ := h.over
 obtain ⟨Q, M, g0, g1, g2, g3⟩ := g
 obtain ⟨S, s1, s2⟩ := h.sup
 refine ⟨⟨Q * P, M * N, Nat.mul_ne_zero g0 h0, mul_pow g1 h1, mul_pow g2 h2, fun a => g3.mul (h3 a)⟩, S, s1, fun a ha => s2 a (fun e => ha ?_)⟩
 show q * F a = 0
 rw [e, Rat.mul_zero]
theorem Fn.put {p m L p' m' : Nat} {F : Int → Rat} {q : Rat} (h : Fn p m L F) (g : Nm p' m' q) (b : Int) : Fn (p + p') (max (m + p') (m' + p)) (L + 1) (putAt F b q) := by
 obtain ⟨P, N, h0, h1, h2, h3⟩ := h.over
 obtain ⟨Q, M, g0, g1, g2, g3⟩ := g
 obtain ⟨S, s1, s2⟩ := h.sup
 refine ⟨⟨P * Q, max (N * Q) (M * P), Nat.mul_ne_zero h0 g0, mul_pow h1 g1, ?_, fun a => ?_⟩, b :: S, by rw [lC]; omega, fun a ha => ?_⟩
 ·have e1 := lL (mul_pow h2 g1) (pow_mono (Nat.le_max_left (m + p') (m' + p)))
  have e2 := lL (mul_pow g2 h1) (pow_mono (Nat.le_max_right (m + p') (m' + p)))
  omega
 ·unfold putAt
  split
  ·have g4 := g3.up P
   rw [Nat.mul_comm Q P] at g4
   exact g4.mono (Nat.le_max_right _ _)
  ·exact ((h3 a).up Q).mono (Nat.le_max_left _ _)
 ·unfold putAt at ha
  split at ha
  ·next e => rw [e]; exact List.mem_cons_self ..
  ·exact List.mem_cons_of_mem _ (s2 a ha)
theorem common (k : Nat) : ∀ l : List (Int × Rat), (∀ x ∈ l, ql x.2 ≤ k) → ∃ P, P ≠ 0 ∧ P ≤ B64 ^ (k * l.length) ∧ ∀ x ∈ l, Over P (B64 ^ (k * l.length + k)) x.2
 | [], _ => ⟨1, by omega, by simp, fun _ h => by cases h⟩
 | x :: l, h => by
  obtain ⟨P, h0, h1, h2⟩ := common k l (fun y hy => h y (List.mem_cons_of_mem _ hy))
  obtain ⟨Q, M, g0, g1, g2, g3⟩ := Nm.of_ql (h x (List.mem_cons_self ..))
  have e1 : P * Q ≤ B64 ^ (k * (x :: l).length) := by
   rw [lC, Nat.mul_succ, Nat.pow_add]
   exact Nat.mul_le_mul h1 (Nat.le_of_lt g1)
  refine ⟨P * Q, Nat.mul_ne_zero h0 g0, e1, fun y hy => ?_⟩
  rw [lC, Nat.mul_succ]
  rcases List.mem_cons.1 hy with rfl | hy
  ·have g4 := g3.up P
   rw [Nat.mul_comm Q P] at g4
   refine g4.mono ?_
   rw [Nat.pow_add, Nat.pow_add]
   have e2 := Nat.mul_le_mul (Nat.le_of_lt g2) h1
   have e3 : 0 < B64 ^ k := Nat.pow_pos b64_pos
   calc M * P ≤ B64 ^ k * B64 ^ (k * l.length) := e2
    _ = B64 ^ (k * l.length) * B64 ^ k := Nat.mul_comm _ _
    _ ≤ B64 ^ (k * l.length) * B64 ^ k * B64 ^ k := Nat.le_mul_of_pos_right _ e3
  ·refine ((h2 y hy).up Q).mono ?_
   rw [Nat.pow_add (n := k) (m := k * l.length + k)]
   exact Nat.mul_le_mul_left _ (Nat.le_of_lt g1)
theorem short_fn {k L : Nat} {l : List (Int × Rat)} (h : ∀ x ∈ l, ql x.2 ≤ k) (hL : l.length ≤ L) (hL2 : L ≤ 1000) : Fn (k * L + 1) (k * L + k + 1) L (tot l) ∧ (k * L + k + 1 ≤ 700 → Short l) := by
 obtain ⟨P, h0, h1, h2⟩ := common k l h
 have hk : k * l.length ≤ k * L := Nat.mul_le_mul_left k hL
 have e1 : P < B64 ^ (k * L + 1) := by
  refine Nat.lt_of_le_of_lt (lT h1 (pow_mono hk)) ?_
  rw [Nat.pow_succ]
  have : 0 < B64 ^ (k * L) := Nat.pow_pos b64_pos
  have e : B64 ^ (k * L) * 2 ≤ B64 ^ (k * L) * B64 := Nat.mul_le_mul_left _ (by rw [B64_eq]; omega)
  omega
 have e2 : l.length * B64 ^ (k * l.length + k) < B64 ^ (k * L + k + 1) := by
  have h3 : B64 ^ (k * l.length + k) ≤ B64 ^ (k * L + k) := pow_mono (by omega)
  have h4 : 0 < B64 ^ (k * L + k) := Nat.pow_pos b64_pos
  have h5 : l.length * B64 ^ (k * l.length + k) ≤ 1000 * B64 ^ (k * L + k) := Nat.mul_le_mul (by omega) h3
  rw [Nat.pow_succ]
  have e : B64 ^ (k * L + k) * 1001 ≤ B64 ^ (k * L + k) * B64 := Nat.mul_le_mul_left _ (by rw [B64_eq]; omega)
  omega
 refine ⟨⟨⟨P, _, h0, e1, e2, fun a => Over.tot h2 a⟩, l.map Prod.fst, by rw [List.length_map]; exact hL, fun a ha => ?_⟩, fun hle => ?_⟩
 ·obtain ⟨x, hx, rfl⟩ := tot_in ha
  exact List.mem_map_of_mem hx
 ·exact short_of h2 h0 (lT (dig_length_le e1) (by omega)) (lT (dig_length_le e2) hle)
theorem nodup_le : ∀ {l S : List Int}, l.Nodup → (∀ a ∈ l, a ∈ S) → l.length ≤ S.length
 | [], _, _, _ => Nat.zero_le _
 | x :: l, S, h, hs => by
  obtain ⟨h1, h2⟩ := List.nodup_cons.1 h
  have hx := hs x (List.mem_cons_self ..)
  have h3 : l.length ≤ (S.erase x).length := nodup_le h2 (fun a ha => (List.mem_erase_of_ne (fun e => h1 (by rw [← e]; exact ha))).2 (hs a (List.mem_cons_of_mem _ ha)))
  rw [List.length_erase_of_mem hx] at h3
  have h4 := List.length_pos_of_mem hx
  rw [lC]
  omega
theorem is_len {F : Int → Rat} {l : List (Int × Rat)} {p m L : Nat} (h : Is F l) (hF : Fn p m L F) : l.length ≤ L := by
 obtain ⟨S, s1, s2⟩ := hF.sup
 have h1 : (l.map Prod.fst).length ≤ S.length := by
  refine nodup_le (List.Pairwise.map _ (fun s t (hst : s.1 < t.1) => by show s.1 ≠ t.1; omega) h.1.up) (fun a ha => ?_)
  obtain ⟨x, hx, rfl⟩ := List.mem_map.1 ha
  apply s2
  rw [← h.2, canon_mem h.1 hx]
  exact h.1.nz x hx
 rw [List.length_map] at h1
 omega
theorem is_ql {F : Int → Rat} {l : List (Int × Rat)} {p m L k : Nat} (h : Is F l) (hF : Fn p m L F) (hp : p ≤ k) (hm : m ≤ k) : ∀ x ∈ l, ql x.2 ≤ k := by
 intro x hx
 have h1 := h.2 x.1
 rw [canon_mem h.1 hx] at h1
 rw [h1]
 exact (hF.nm x.1).ql hp hm
structure VF (w : World) (A : Option Addr) (n c : Nat) (F : Int → Rat) : Prop where
 ex : ∃ ys, IsV w A n c ys 700 ∧ Short (vals ys) ∧ tot (vals ys) = F
 len : n ≤ 1000
 blk : ∀ a, A = some a → a.block < w.heap.size
structure CF (w : World) (A : Option Addr) (n c : Nat) (F : Int → Rat) : Prop where
 ex : ∃ ys, IsV w A n c ys 700 ∧ Is F (vals ys) ∧ ∀ y ∈ ys, OneQ w y.1.s y.1.A y.1.n y.1.c y.1.t y.1.B y.1.m y.1.d y.2
 blk : ∀ a, A = some a → a.block < w.heap.size
theorem VF.below {w w' : World} {A : Option Addr} {n c : Nat} {F : Int → Rat} (h : VF w A n c F) (hb : Below w.heap.size w w') : VF w' A n c F := by
 obtain ⟨ys, h1, h2, h3⟩ := h.ex
 exact ⟨⟨ys, h1.below hb, h2, h3⟩, h.len, fun a ha => lL (h.blk a ha) hb.size⟩
theorem CF.below {w w' : World} {A : Option Addr} {n c : Nat} {F : Int → Rat} (h : CF w A n c F) (hb : Below w.heap.size w w') : CF w' A n c F := by
 obtain ⟨ys, h1, h2, h3⟩ := h.ex
 exact ⟨⟨ys, h1.below hb, h2, fun y hy => (h3 y hy).below hb⟩, fun a ha => lL (h.blk a ha) hb.size⟩
theorem VF.nil (w : World) (A : Option Addr) (c : Nat) (hA : ∀ a, A = some a → a.block < w.heap.size) : VF w A 0 c (fun _ => 0) := ⟨⟨[], IsV.nil w A c 700, Short.nil, funext tot_nil⟩, by omega, hA⟩
def RetC (w : World) (F : Int → Rat) (e : Ending) (w' : World) : Prop :=
 ∃ A n c, e = .returned (.slice A n c) ∧ CF w' A n c F ∧ Below w.heap.size w w'
theorem retc_of {w w' : World} {p m L : Nat} {F : Int → Rat} {e : Ending} (hF : Fn p m L F) (hp : p ≤ 700) (hm : m ≤ 700) (h : RetV w (Is F) e w') : RetC w F e w' := by
 obtain ⟨g, n, c, zs, rfl, h1, h2, h3, h4, h5⟩ := h
 have hk : ∀ y ∈ zs, ql y.2 ≤ 700 := fun y hy => is_ql h3 hF hp hm (y.1.at_, y.2) (List.mem_map.2 ⟨y, hy, rfl⟩)
 refine ⟨some ⟨g, 0, none⟩, n, c, rfl, ⟨⟨zs, own_isv h1 h4 hk, h3, fun y hy => (h4 y hy).1⟩, fun a ha => ?_⟩, h5⟩
 obtain rfl := Option.some.inj ha
 rcases h1.row.2 with ⟨h0, _⟩ | ⟨g', cap, cur, e, _, hgc, _⟩
 ·cases h0
 ·obtain ⟨e2, _, _⟩ : g = g' ∧ n = (zs.map Prod.fst).length ∧ c = cap := by simpa using e
  show g < w'.heap.size
  rw [e2]
  exact lt_of_block hgc
theorem CF.empty {w : World} {A : Option Addr} {n c : Nat} {F : Int → Rat} (h : CF w A n c F) (h0 : ∀ a, F a = 0) : n = 0 := by
 obtain ⟨ys, h1, h2, h3⟩ := h.ex
 rw [h1.en]
 cases ys with
 | nil => rfl
 | cons y ys => exact absurd ((h2.2 y.1.at_).trans (h0 _)) (by
   rw [canon_mem h2.1 (x := (y.1.at_, y.2)) (List.mem_cons_self ..)]
   exact h2.1.nz (y.1.at_, y.2) (List.mem_cons_self ..))
theorem cf_eq {w w' : World} {A B : Option Addr} {n c m d : Nat} {F G : Int → Rat} {xs ys : List (TV × Rat)} (_ : IsV w A n c xs 700) (hx : Is F (vals xs)) (_ : IsV w' B m d ys 700) (hy : Is G (vals ys)) : vals xs = vals ys ↔ F = G := by
 constructor
 ·intro e
  funext a
  rw [← hx.2, ← hy.2, e]
 ·intro e
  exact hx.1.ext hy.1 (fun a => by rw [hx.2, hy.2, e])
section
variable {w : World} {A B : Option Addr} {n c m d : Nat} {F G H : Int → Rat} {p l L : Nat} {sa : Bool} {Aa : Option Addr} {na ca : Nat} {ta : Bool} {Ba : Option Addr} {ma da : Nat} {q : Rat}
theorem norm_c (hx : VF w A n c F) (hF : Fn p l L F) (hp : p ≤ 700) (hl : l ≤ 700) : Calls Tryz.prog 18 #[.slice A n c] w (RetC w F) := by
 obtain ⟨xs, h1, h2, h3⟩ := hx.ex
 refine (norm_v h1 (Nat.le_refl _) (lT hx.len (by omega)) h2 hx.blk).mono fun e w' h => ?_
 rw [h3] at h
 exact retc_of hF hp hl h
theorem scale_c (hq : IsQ w sa Aa na ca ta Ba ma da q 700) (hx : VF w A n c F) (hH : fmul q F = H) (hF : Fn p l L H) (hp : p ≤ 700) (hl : l ≤ 700) : Calls Tryz.prog 24 #[.agg #[.bool sa, .slice Aa na ca, .bool ta, .slice Ba ma da], .slice A n c] w (RetC w H) := by
 obtain ⟨xs, h1, h2, h3⟩ := hx.ex
 refine (scale_v hq h1 (Nat.le_refl _) (lT hx.len (by omega)) h2 hx.blk).mono fun e w' h => ?_
 rw [h3] at h
 exact retc_of hF hp hl (by rw [← hH]; exact h)
end
