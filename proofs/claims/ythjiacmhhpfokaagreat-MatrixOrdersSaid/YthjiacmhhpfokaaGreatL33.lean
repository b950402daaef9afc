/- Part 33 of the proof: VDense, VLit, VOne, VFun. -/
import Derived.Test.YthjiacmhhpfokaaGreatL32
namespace Go.Proofs.YthjiacmhhpfokaaGreat
open Nat renaming le_refl → lR, le_trans → lT, lt_of_lt_of_le → lL, mul_comm → mC
open Option.some renaming inj → oI
open List renaming length_cons → lC
namespace V
open Go.RowKit
open Q (IsQ OneQ RetQ below_on ql Qbx)
theorem own_isv {w : World} {g n c k : Nat} {zs : List (TV × Rat)} (ho : OwnT w 0 (.slice (some ⟨g, 0, none⟩) n c) (zs.map Prod.fst)) (h4 : ∀ y ∈ zs, OneQ w y.1.s y.1.A y.1.n y.1.c y.1.t y.1.B y.1.m y.1.d y.2 ∧ -9223372036854775808 ≤ y.1.at_ ∧ y.1.at_ ≤ 9223372036854775807) (hk : ∀ y ∈ zs, ql y.2 ≤ k) : IsV w (some ⟨g, 0, none⟩) n c zs k := by
 rcases ho.row.2 with ⟨h0, _⟩ | ⟨g', cap, cur, e, _, hgc, hnc, _, hcs, htake⟩
 ·cases h0
 ·obtain ⟨rfl, rfl, rfl⟩ : g = g' ∧ n = (zs.map Prod.fst).length ∧ c = cap := by simpa using e
  refine ⟨by rw [List.length_map], hnc, row_cells (lt_of_block hgc) ?_, fun y hy => ⟨(h4 y hy).1.isq (hk y hy), (h4 y hy).2⟩⟩
  intro j u hj
  rw [Nat.zero_add, cell_of_row w g j _ _ _ hgc]
  rw [← htake, List.getElem?_take] at hj
  split at hj
  ·simpa using hj
  ·cases hj
def Rats (w : World) (r N : Nat) (F : Nat → Rat) : Prop :=
 ∃ cur : Array Value, w.heap[r]? = some (.cells cur 27 (0, 0)) ∧ cur.size = N * 4 ∧ ∀ i, i < N → ∃ s A n c t B m d, cur[i * 4]? = some (.bool s) ∧ cur[i * 4 + 1]? = some (.slice A n c) ∧ cur[i * 4 + 2]? = some (.bool t) ∧ cur[i * 4 + 3]? = some (.slice B m d) ∧ OneQ w s A n c t B m d (F i)
theorem Rats.dig {w : World} {r N : Nat} {F : Nat → Rat} (h : Rats w r N F) : NoDig w (fun b => b = r) := by
 intro b hb i v hv z
 obtain ⟨cur, h1, h2, h3⟩ := h
 rw [hb, cell_of_row _ _ i _ _ _ h1] at hv
 have hi : i < N * 4 := by rw [← h2]; exact (Array.getElem?_eq_some_iff.1 hv).1
 obtain ⟨s, A, n, c, t, B, m, d, c0, c1, c2, c3, _⟩ := h3 (i / 4) (by omega)
 have h4 : i % 4 = 0 ∨ i % 4 = 1 ∨ i % 4 = 2 ∨ i % 4 = 3 := by omega
 rcases h4 with h4 | h4 | h4 | h4
 ·rw [show i = i / 4 * 4 by omega, c0] at hv; obtain rfl := oI hv; intro h; cases h
 ·rw [show i = i / 4 * 4 + 1 by omega, c1] at hv; obtain rfl := oI hv; intro h; cases h
 ·rw [show i = i / 4 * 4 + 2 by omega, c2] at hv; obtain rfl := oI hv; intro h; cases h
 ·rw [show i = i / 4 * 4 + 3 by omega, c3] at hv; obtain rfl := oI hv; intro h; cases h
theorem one_near {Own : Nat → Prop} {w wx : World} {s t : Bool} {A B : Option Addr} {n c m d : Nat} {q : Rat} (h : OneQ w s A n c t B m d q) (hd : NoDig w Own) (hn : Near Own w wx) : OneQ wx s A n c t B m d q :=
 ⟨h.es, h.en, h.et, h.em, num_near h.num hd hn, num_near h.den hd hn, h.cap, h.cap2⟩
theorem Rats.below {w W : World} {r N : Nat} {F : Nat → Rat} (h : Rats w r N F) (hb : Below w.heap.size w W) : Rats W r N F := by
 obtain ⟨cur, h1, h2, h3⟩ := h
 refine ⟨cur, (hb.block r (lt_of_block h1)).trans h1, h2, fun i hi => ?_⟩
 obtain ⟨s, A, n, c, t, B, m, d, c0, c1, c2, c3, ho⟩ := h3 i hi
 exact ⟨s, A, n, c, t, B, m, d, c0, c1, c2, c3, ho.below hb⟩
abbrev putR (w : World) (r a : Nat) (s : Bool) (A : Option Addr) (n c : Nat) (t : Bool) (B : Option Addr) (m d : Nat) : World :=
 (((w.setCell ⟨r, a * 4, none⟩ (.bool s)).setCell ⟨r, a * 4 + 1, none⟩ (.slice A n c)).setCell ⟨r, a * 4 + 2, none⟩ (.bool t)).setCell ⟨r, a * 4 + 3, none⟩ (.slice B m d)
theorem near_putR {w : World} {r a : Nat} {s t : Bool} {A B : Option Addr} {n c m d : Nat} : Near (fun b => b = r) w (putR w r a s A n c t B m d) :=
 ((((Near.refl (fun b => b = r) w).setCell r _ _ rfl).setCell r _ _ rfl).setCell r _ _ rfl).setCell r _ _ rfl
theorem Rats.put {w : World} {r N a : Nat} {F : Nat → Rat} {s t : Bool} {A B : Option Addr} {n c m d : Nat} {q : Rat} (h : Rats w r N F) (ha : a < N) (ho : OneQ w s A n c t B m d q) : Rats (putR w r a s A n c t B m d) r N (fun i => if i = a then q else F i) := by
 have hd := h.dig
 obtain ⟨cur, h1, h2, h3⟩ := h
 refine ⟨_, heap_setCell_same _ r _ _ _ _ (heap_setCell_same _ r _ _ _ _ (heap_setCell_same _ r _ _ _ _ (heap_setCell_same w r _ _ _ _ h1))), by simp [h2], fun i hi => ?_⟩
 by_cases e : i = a
 ·subst e
  refine ⟨s, A, n, c, t, B, m, d, ?_, ?_, ?_, ?_, ?_⟩
  ·simp [Array.getElem?_setIfInBounds, h2]; omega
  ·simp [Array.getElem?_setIfInBounds, h2]; omega
  ·simp [Array.getElem?_setIfInBounds, h2]; omega
  ·simp [Array.getElem?_setIfInBounds, h2]; omega
  ·show OneQ _ _ _ _ _ _ _ _ _ (if i = i then q else F i)
   rw [if_pos rfl]; exact one_near ho hd near_putR
 ·obtain ⟨s', A', n', c', t', B', m', d', c0, c1, c2, c3, ho'⟩ := h3 i hi
  refine ⟨s', A', n', c', t', B', m', d', ?_, ?_, ?_, ?_, ?_⟩
  ·rw [← c0]; simp only [Array.getElem?_setIfInBounds]; repeat rw [if_neg (by omega)]
  ·rw [← c1]; simp only [Array.getElem?_setIfInBounds]; repeat rw [if_neg (by omega)]
  ·rw [← c2]; simp only [Array.getElem?_setIfInBounds]; repeat rw [if_neg (by omega)]
  ·rw [← c3]; simp only [Array.getElem?_setIfInBounds]; repeat rw [if_neg (by omega)]
  ·show OneQ _ _ _ _ _ _ _ _ _ (if i = a then q else F i)
   rw [if_neg e]; exact one_near ho' hd near_putR
theorem canon_mem {l : List (Int × Rat)} (h : Canon l) {x : Int × Rat} (hx : x ∈ l) : tot l x.1 = x.2 := by
 induction l with
 | nil => cases hx
 | cons b l ih =>
  rcases List.mem_cons.1 hx with rfl | hx
  ·exact h.tot_head
  ·rw [h.tot_tail (by have := h.head x hx; omega)]
   exact ih h.tail hx
theorem up_len (hi : Int) : ∀ (l : List (Int × Rat)) (lo : Int), l.Pairwise (fun s t => s.1 < t.1) → (∀ x ∈ l, lo ≤ x.1 ∧ x.1 < hi) → l.length ≤ (hi - lo).toNat
 | [], _, _, _ => Nat.zero_le _
 | x :: l, lo, h, hx => by
  have h1 := List.pairwise_cons.1 h
  have h2 := hx x (List.mem_cons_self ..)
  have h3 := up_len hi l (x.1 + 1) h1.2 (fun y hy => ⟨by have := h1.1 y hy; omega, (hx y (List.mem_cons_of_mem _ hy)).2⟩)
  rw [lC]
  omega
theorem tot_in {l : List (Int × Rat)} {a : Int} (h : tot l a ≠ 0) : ∃ x ∈ l, x.1 = a := by
 refine Classical.byContradiction (fun hn => h (tot_none (fun x hx e => hn ⟨x, hx, e⟩)))
end V

namespace V
open Go.RowKit
open Q (IsQ OneQ RetQ below_on ql)
theorem lit_isv {w : World} {g k : Nat} {zs : List (TV × Rat)} (h : w.heap[g]? = some (.cells (flat (zs.map Prod.fst)).toArray 67 (0, 0))) (h4 : ∀ y ∈ zs, OneQ w y.1.s y.1.A y.1.n y.1.c y.1.t y.1.B y.1.m y.1.d y.2 ∧ -9223372036854775808 ≤ y.1.at_ ∧ y.1.at_ ≤ 9223372036854775807) (hk : ∀ y ∈ zs, ql y.2 ≤ k) : IsV w (some ⟨g, 0, none⟩) zs.length zs.length zs k := by
 refine ⟨rfl, lR _, row_cells (lt_of_block h) ?_, fun y hy => ⟨(h4 y hy).1.isq (hk y hy), (h4 y hy).2⟩⟩
 intro j u hj
 rw [Nat.zero_add, cell_of_row w g j _ _ _ h, ← hj]
 simp
theorem Over.ql_le {P N k : Nat} {q : Rat} (h : Over P N q) (hP : P ≠ 0) (hp : (dig P).length ≤ k) (hN : (dig N).length ≤ k) : ql q ≤ k := by
 obtain ⟨n, h1, h2⟩ := h
 have h3 : (P : Rat) ≠ 0 := by
  intro e
  have : (P : Rat) = ((0 : Nat) : Rat) := e
  exact hP (Rat.natCast_inj.1 this)
 have e : q = Rat.divInt n (P : Int) := by
  have h4 := Q.div_mul n (d := (P : Int)) (by omega)
  rw [Rat.intCast_natCast] at h4
  have h5 : q * (P : Rat) = Rat.divInt n (P : Int) * (P : Rat) := h1.trans h4.symm
  have h6 : q * (P : Rat) * (P : Rat)⁻¹ = Rat.divInt n (P : Int) * (P : Rat) * (P : Rat)⁻¹ := by rw [h5]
  rw [Rat.mul_assoc, Rat.mul_assoc, Rat.mul_inv_cancel _ h3, Rat.mul_one, Rat.mul_one] at h6
  exact h6
 have h7 := Q.ql_div (n := n) (d := (P : Int)) (by omega)
 rw [← e] at h7
 have h8 : zl n ≤ k := lT (dl_le h2) hN
 have h9 : zl (P : Int) ≤ k := by show (dig ((P : Int)).natAbs).length ≤ k; rw [Int.natAbs_natCast]; exact hp
 omega
theorem short_of {P N : Nat} {l : List (Int × Rat)} (h : ∀ x ∈ l, Over P N x.2) (hP : P ≠ 0) (hp : (dig P).length ≤ 700) (hN : (dig (l.length * N)).length ≤ 700) : Short l := by
 intro l' hl hm
 refine Over.ql_le (Over.all (fun x hx => h x (hm x hx))) hP hp (lT (dl_le (Nat.mul_le_mul_right N hl)) hN)
theorem short_is {P N L : Nat} {F : Int → Rat} {l : List (Int × Rat)} (h : Is F l) (hF : ∀ a, Over P N (F a)) (hL : l.length ≤ L) (hP : P ≠ 0) (hp : (dig P).length ≤ 700) (hN : (dig (L * N)).length ≤ 700) : Short l :=
 short_of (fun x hx => by rw [← canon_mem h.1 hx, h.2]; exact hF x.1) hP hp (lT (dl_le (Nat.mul_le_mul_right N hL)) hN)
end V

namespace V
open Go.RowKit
open Q (IsQ OneQ)
end V

namespace V
open Go.RowKit
open Q (IsQ OneQ RetQ below_on ql Qbx)
def Nm (p m : Nat) (q : Rat) : Prop := ∃ P N, P ≠ 0 ∧ P < B64 ^ p ∧ N < B64 ^ m ∧ Over P N q
theorem b64_pos : 0 < B64 := by rw [B64_eq]; omega
theorem pow_mono {a b : Nat} (h : a ≤ b) : B64 ^ a ≤ B64 ^ b := Nat.pow_le_pow_right b64_pos h
theorem mul_pow {x y a b : Nat} (hx : x < B64 ^ a) (hy : y < B64 ^ b) : x * y < B64 ^ (a + b) := by
 rw [Nat.pow_add]; exact Nat.mul_lt_mul'' hx hy
theorem lt_dig {n k : Nat} (h : (dig n).length ≤ k) : n < B64 ^ k := by
 have h1 := val_lt (dig_digs n)
 rw [val_dig] at h1
 exact lL h1 (pow_mono h)
theorem Nm.of_ql {q : Rat} {k : Nat} (h : ql q ≤ k) : Nm k k q := by
 unfold Q.ql at h
 refine ⟨q.den, q.num.natAbs, q.den_nz, lt_dig (by omega), lt_dig ?_, Over.self q⟩
 have h2 : zl q.num ≤ k := by omega
 exact h2
theorem Nm.ql {q : Rat} {p m k : Nat} (h : Nm p m q) (hp : p ≤ k) (hm : m ≤ k) : Q.ql q ≤ k := by
 obtain ⟨P, N, h0, h1, h2, h3⟩ := h
 exact h3.ql_le h0 (lT (dig_length_le h1) hp) (lT (dig_length_le h2) hm)
theorem Nm.mono {q : Rat} {p m p2 m2 : Nat} (h : Nm p m q) (hp : p ≤ p2) (hm : m ≤ m2) : Nm p2 m2 q := by
 obtain ⟨P, N, h0, h1, h2, h3⟩ := h
 exact ⟨P, N, h0, lL h1 (pow_mono hp), lL h2 (pow_mono hm), h3⟩
def fadd (F G : Int → Rat) (a : Int) : Rat := F a + G a
def fmul (q : Rat) (F : Int → Rat) (a : Int) : Rat := q * F a
structure Fn (p m L : Nat) (F : Int → Rat) : Prop where
 over : ∃ P N, P ≠ 0 ∧ P < B64 ^ p ∧ N < B64 ^ m ∧ ∀ a, Over P N (F a)
 sup : ∃ S : List Int, S.length ≤ L ∧ ∀ a, F a ≠ 0 → a ∈ S
theorem Fn.nm {p m L : Nat} {F : Int → Rat} (h : Fn p m L F) (a : Int) : Nm p m (F a) := by
 obtain ⟨P, N, h0, h1, h2, h3⟩ := h.over
 exact ⟨P, N, h0, h1, h2, h3 a⟩
theorem Fn.mono {p m L p2 m2 L2 : Nat} {F : Int → Rat} (h : Fn p m L F) (hp : p ≤ p2) (hm : m ≤ m2) (hL : L ≤ L2) : Fn p2 m2 L2 F := by
 obtain ⟨P, N, h0, h1, h2, h3⟩ := h.over
 obtain ⟨S, s1, s2⟩ := h.sup
 exact ⟨⟨P, N, h0, lL h1 (pow_mono hp), lL h2 (pow_mono hm), h3⟩, S, lT s1 hL, s2⟩
theorem Fn.zero : Fn 1 0 0 (fun _ => 0) := ⟨⟨1, 0, by omega, by rw [B64_eq]; omega, by rw [Nat.pow_zero]; omega, fun _ => Over.zero _ _⟩, [], lR _, fun _ h => absurd rfl h⟩
theorem Fn.mul {p m L p' m' : Nat} {F : Int → Rat} {q : Rat} (g : Nm p' m' q) (h : Fn p m L F) : Fn (p' + p) (m' + m) L (fmul q F) := by
 obtain ⟨P, N, h0, h1, h2, h3⟩ := h.over
 obtain ⟨Q, M, g0, g1, g2, g3⟩ := g
 obtain ⟨S, s1, s2⟩ := h.sup
 refine ⟨⟨Q * P, M * N, Nat.mul_ne_zero g0 h0, mul_pow g1 h1, mul_pow g2 h2, fun a => g3.mul (h3 a)⟩, S, s1, fun a ha => s2 a (fun e => ha ?_)⟩
 show q * F a = 0
 rw [e, Rat.mul_zero]
theorem Fn.put {p m L p' m' : Nat} {F : Int → Rat} {q : Rat} (h : Fn p m L F) (g : Nm p' m' q) (b : Int) : Fn (p + p') (max (m + p') (m' + p)) (L + 1) (putAt F b q) := by
 obtain ⟨P, N, h0, h1, h2, h3⟩ := h.over
 obtain ⟨Q, M, g0, g1, g2, g3⟩ := g
 obtain ⟨S, s1, s2⟩ := h.sup
 refine ⟨⟨P * Q, max (N * Q) (M * P), Nat.mul_ne_zero h0 g0, mul_pow h1 g1, ?_, fun a => ?_⟩, b :: S, by rw [lC]; omega, fun a ha => ?_⟩
 ·have e1 := lL (mul_pow h2 g1) (pow_mono (Nat.le_max_left (m + p') (m' + p)))
  have e2 := lL (mul_pow g2 h1) (pow_mono (Nat.le_max_right (m + p') (m' + p)))
  omega
 ·unfold putAt
  split
  ·have g4 := g3.up P
   rw [mC Q P] at g4
   exact g4.mono (Nat.le_max_right _ _)
  ·exact ((h3 a).up Q).mono (Nat.le_max_left _ _)
 ·unfold putAt at ha
  split at ha
  ·next e => rw [e]; exact List.mem_cons_self ..
  ·exact List.mem_cons_of_mem _ (s2 a ha)
theorem common (k : Nat) : ∀ l : List (Int × Rat), (∀ x ∈ l, ql x.2 ≤ k) → ∃ P, P ≠ 0 ∧ P ≤ B64 ^ (k * l.length) ∧ ∀ x ∈ l, Over P (B64 ^ (k * l.length + k)) x.2
 | [], _ => ⟨1, by omega, by simp, fun _ h => by cases h⟩
 | x :: l, h => by
  obtain ⟨P, h0, h1, h2⟩ := common k l (fun y hy => h y (List.mem_cons_of_mem _ hy))
  obtain ⟨Q, M, g0, g1, g2, g3⟩ := Nm.of_ql (h x (List.mem_cons_self ..))
  have e1 : P * Q ≤ B64 ^ (k * (x :: l).length) := by
   rw [lC, Nat.mul_succ, Nat.pow_add]
   exact Nat.mul_le_mul h1 (Nat.le_of_lt g1)
  refine ⟨P * Q, Nat.mul_ne_zero h0 g0, e1, fun y hy => ?_⟩
  rw [lC, Nat.mul_succ]
  rcases List.mem_cons.1 hy with rfl | hy
  ·have g4 := g3.up P
   rw [mC Q P] at g4
   refine g4.mono ?_
   rw [Nat.pow_add, Nat.pow_add]
   have e2 := Nat.mul_le_mul (Nat.le_of_lt g2) h1
   have e3 : 0 < B64 ^ k := Nat.pow_pos b64_pos
   calc M * P ≤ B64 ^ k * B64 ^ (k * l.length) := e2
    _ = B64 ^ (k * l.length) * B64 ^ k := mC _ _
    _ ≤ B64 ^ (k * l.length) * B64 ^ k * B64 ^ k := Nat.le_mul_of_pos_right _ e3
  ·refine ((h2 y hy).up Q).mono ?_
   rw [Nat.pow_add (n := k) (m := k * l.length + k)]
   exact Nat.mul_le_mul_left _ (Nat.le_of_lt g1)
theorem short_fn {k L : Nat} {l : List (Int × Rat)} (h : ∀ x ∈ l, ql x.2 ≤ k) (hL : l.length ≤ L) (hL2 : L ≤ 1000) : Fn (k * L + 1) (k * L + k + 1) L (tot l) ∧ (k * L + k + 1 ≤ 700 → Short l) := by
 obtain ⟨P, h0, h1, h2⟩ := common k l h
 have hk : k * l.length ≤ k * L := Nat.mul_le_mul_left k hL
 have e1 : P < B64 ^ (k * L + 1) := by
  refine Nat.lt_of_le_of_lt (lT h1 (pow_mono hk)) ?_
  rw [Nat.pow_succ]
  have : 0 < B64 ^ (k * L) := Nat.pow_pos b64_pos
  have e : B64 ^ (k * L) * 2 ≤ B64 ^ (k * L) * B64 := Nat.mul_le_mul_left _ (by rw [B64_eq]; omega)
  omega
 have e2 : l.length * B64 ^ (k * l.length + k) < B64 ^ (k * L + k + 1) := by
  have h3 : B64 ^ (k * l.length + k) ≤ B64 ^ (k * L + k) := pow_mono (by omega)
  have h4 : 0 < B64 ^ (k * L + k) := Nat.pow_pos b64_pos
  have h5 : l.length * B64 ^ (k * l.length + k) ≤ 1000 * B64 ^ (k * L + k) := Nat.mul_le_mul (by omega) h3
  rw [Nat.pow_succ]
  have e : B64 ^ (k * L + k) * 1001 ≤ B64 ^ (k * L + k) * B64 := Nat.mul_le_mul_left _ (by rw [B64_eq]; omega)
  omega
 refine ⟨⟨⟨P, _, h0, e1, e2, fun a => Over.tot h2 a⟩, l.map Prod.fst, by rw [List.length_map]; exact hL, fun a ha => ?_⟩, fun hle => ?_⟩
 ·obtain ⟨x, hx, rfl⟩ := tot_in ha
  exact List.mem_map_of_mem hx
 ·exact short_of h2 h0 (lT (dig_length_le e1) (by omega)) (lT (dig_length_le e2) hle)
theorem nodup_le : ∀ {l S : List Int}, l.Nodup → (∀ a ∈ l, a ∈ S) → l.length ≤ S.length
 | [], _, _, _ => Nat.zero_le _
 | x :: l, S, h, hs => by
  obtain ⟨h1, h2⟩ := List.nodup_cons.1 h
  have hx := hs x (List.mem_cons_self ..)
  have h3 : l.length ≤ (S.erase x).length := nodup_le h2 (fun a ha => (List.mem_erase_of_ne (fun e => h1 (by rw [← e]; exact ha))).2 (hs a (List.mem_cons_of_mem _ ha)))
  rw [List.length_erase_of_mem hx] at h3
  have h4 := List.length_pos_of_mem hx
  rw [lC]
  omega
theorem is_len {F : Int → Rat} {l : List (Int × Rat)} {p m L : Nat} (h : Is F l) (hF : Fn p m L F) : l.length ≤ L := by
 obtain ⟨S, s1, s2⟩ := hF.sup
 have h1 : (l.map Prod.fst).length ≤ S.length := by
  refine nodup_le (List.Pairwise.map _ (fun s t (hst : s.1 < t.1) => by show s.1 ≠ t.1; omega) h.1.up) (fun a ha => ?_)
  obtain ⟨x, hx, rfl⟩ := List.mem_map.1 ha
  apply s2
  rw [← h.2, canon_mem h.1 hx]
  exact h.1.nz x hx
 rw [List.length_map] at h1
 omega
theorem is_short {F : Int → Rat} {l : List (Int × Rat)} {p m L : Nat} (h : Is F l) (hF : Fn p m L F) (hp : p ≤ 700) (hm : m + 1 ≤ 700) (hL : L ≤ 1000) : Short l := by
 have hl := is_len h hF
 obtain ⟨P, N, h0, h1, h2, h3⟩ := hF.over
 refine short_is h h3 hl h0 (lT (dig_length_le h1) hp) (lT (dig_length_le (k := m + 1) ?_) hm)
 rw [Nat.pow_succ, mC L N]
 exact Nat.mul_lt_mul'' h2 (Nat.lt_of_le_of_lt hL (by rw [B64_eq]; omega))
theorem is_ql {F : Int → Rat} {l : List (Int × Rat)} {p m L k : Nat} (h : Is F l) (hF : Fn p m L F) (hp : p ≤ k) (hm : m ≤ k) : ∀ x ∈ l, ql x.2 ≤ k := by
 intro x hx
 have h1 := h.2 x.1
 rw [canon_mem h.1 hx] at h1
 rw [h1]
 exact (hF.nm x.1).ql hp hm
def DotF (F G : Int → Rat) (q : Rat) : Prop := ∀ L : List Int, L.Nodup → (∀ a, a ∉ L → F a * G a = 0) → q = over (fun a => F a * G a) L
theorem dot_small {F G : Int → Rat} {p m L p' m' L' : Nat} (h : Fn p m L F) (g : Fn p' m' L' G) (hL : L ≤ 1000) : ∀ T : List Int, T.Nodup → Nm (p + p') (m + m' + 1) (over (fun a => F a * G a) T) := by
 obtain ⟨P, N, h0, h1, h2, h3⟩ := h.over
 obtain ⟨Q, M, g0, g1, g2, g3⟩ := g.over
 obtain ⟨S, s1, s2⟩ := h.sup
 intro T hT
 rw [← over_filter]
 have hl : (T.filter (fun a => decide (F a * G a ≠ 0))).length ≤ L := by
  refine lT (nodup_le (S := S) (hT.sublist List.filter_sublist) (fun a ha => s2 a (fun e => ?_))) s1
  have h4 := of_decide_eq_true (List.mem_filter.1 ha).2
  exact h4 (by rw [e, Rat.zero_mul])
 have hov : ∀ U : List Int, Over (P * Q) (U.length * (N * M)) (over (fun a => F a * G a) U) := by
  intro U
  induction U with
  | nil => exact Over.zero _ _
  | cons a U ih =>
   rw [lC, Nat.succ_mul, Nat.add_comm]
   exact Over.add ((h3 a).mul (g3 a)) ih
 refine ⟨P * Q, _, Nat.mul_ne_zero h0 g0, mul_pow h1 g1, ?_, hov _⟩
 have e1 := mul_pow h2 g2
 rw [Nat.pow_succ, mC _ (N * M)]
 exact Nat.mul_lt_mul'' e1 (Nat.lt_of_le_of_lt (lT hl hL) (by rw [B64_eq]; omega))
theorem smalldot {X Y : List (Int × Rat)} {p m L p' m' L' : Nat} (h : Fn p m L (tot X)) (g : Fn p' m' L' (tot Y)) (hL : L ≤ 1000) (hp : p + p' ≤ 700) (hm : m + m' + 1 ≤ 700) : SmallDot X Y := by
 intro D hD
 rw [dotD_over (tot X) (tot Y) D hD.2]
 exact (dot_small h g hL _ (List.Pairwise.map _ (fun s t (hst : s.1 < t.1) => by show s.1 ≠ t.1; omega) hD.1)).ql hp hm
structure VF (w : World) (A : Option Addr) (n c : Nat) (F : Int → Rat) : Prop where
 ex : ∃ ys, IsV w A n c ys 700 ∧ Short (vals ys) ∧ tot (vals ys) = F
 len : n ≤ 1000
 blk : ∀ a, A = some a → a.block < w.heap.size
structure CF (w : World) (A : Option Addr) (n c : Nat) (F : Int → Rat) : Prop where
 ex : ∃ ys, IsV w A n c ys 700 ∧ Is F (vals ys) ∧ ∀ y ∈ ys, OneQ w y.1.s y.1.A y.1.n y.1.c y.1.t y.1.B y.1.m y.1.d y.2
 blk : ∀ a, A = some a → a.block < w.heap.size
theorem VF.below {w w' : World} {A : Option Addr} {n c : Nat} {F : Int → Rat} (h : VF w A n c F) (hb : Below w.heap.size w w') : VF w' A n c F := by
 obtain ⟨ys, h1, h2, h3⟩ := h.ex
 exact ⟨⟨ys, h1.below hb, h2, h3⟩, h.len, fun a ha => lL (h.blk a ha) hb.size⟩
theorem CF.below {w w' : World} {A : Option Addr} {n c : Nat} {F : Int → Rat} (h : CF w A n c F) (hb : Below w.heap.size w w') : CF w' A n c F := by
 obtain ⟨ys, h1, h2, h3⟩ := h.ex
 exact ⟨⟨ys, h1.below hb, h2, fun y hy => (h3 y hy).below hb⟩, fun a ha => lL (h.blk a ha) hb.size⟩
theorem CF.vf {w : World} {A : Option Addr} {n c p m L : Nat} {F : Int → Rat} (h : CF w A n c F) (hF : Fn p m L F) (hp : p ≤ 700) (hm : m + 1 ≤ 700) (hL : L ≤ 1000) : VF w A n c F := by
 obtain ⟨ys, h1, h2, h3⟩ := h.ex
 refine ⟨⟨ys, h1, is_short h2 hF hp hm hL, funext h2.2⟩, ?_, h.blk⟩
 have := is_len h2 hF
 rw [vals_len] at this
 rw [h1.en]
 omega
theorem VF.nil (w : World) (A : Option Addr) (c : Nat) (hA : ∀ a, A = some a → a.block < w.heap.size) : VF w A 0 c (fun _ => 0) := ⟨⟨[], IsV.nil w A c 700, Short.nil, funext tot_nil⟩, by omega, hA⟩
def RetC (w : World) (F : Int → Rat) (e : Ending) (w' : World) : Prop :=
 ∃ A n c, e = .returned (.slice A n c) ∧ CF w' A n c F ∧ Below w.heap.size w w'
theorem retc_of {w w' : World} {p m L : Nat} {F : Int → Rat} {e : Ending} (hF : Fn p m L F) (hp : p ≤ 700) (hm : m ≤ 700) (h : RetV w (Is F) e w') : RetC w F e w' := by
 obtain ⟨g, n, c, zs, rfl, h1, h2, h3, h4, h5⟩ := h
 have hk : ∀ y ∈ zs, ql y.2 ≤ 700 := fun y hy => is_ql h3 hF hp hm (y.1.at_, y.2) (List.mem_map.2 ⟨y, hy, rfl⟩)
 refine ⟨some ⟨g, 0, none⟩, n, c, rfl, ⟨⟨zs, own_isv h1 h4 hk, h3, fun y hy => (h4 y hy).1⟩, fun a ha => ?_⟩, h5⟩
 obtain rfl := oI ha
 rcases h1.row.2 with ⟨h0, _⟩ | ⟨g', cap, cur, e, _, hgc, _⟩
 ·cases h0
 ·obtain ⟨e2, _, _⟩ : g = g' ∧ n = (zs.map Prod.fst).length ∧ c = cap := by simpa using e
  show g < w'.heap.size
  rw [e2]
  exact lt_of_block hgc
theorem cf_eq {w w' : World} {A B : Option Addr} {n c m d : Nat} {F G : Int → Rat} {xs ys : List (TV × Rat)} (_ : IsV w A n c xs 700) (hx : Is F (vals xs)) (_ : IsV w' B m d ys 700) (hy : Is G (vals ys)) : vals xs = vals ys ↔ F = G := by
 constructor
 ·intro e
  funext a
  rw [← hx.2, ← hy.2, e]
 ·intro e
  exact hx.1.ext hy.1 (fun a => by rw [hx.2, hy.2, e])
section
variable {w : World} {A B : Option Addr} {n c m d : Nat} {F G H : Int → Rat} {p l L : Nat} {sa : Bool} {Aa : Option Addr} {na ca : Nat} {ta : Bool} {Ba : Option Addr} {ma da : Nat} {q : Rat}
theorem norm_c (hx : VF w A n c F) (hF : Fn p l L F) (hp : p ≤ 700) (hl : l ≤ 700) : Calls Tryz.prog 18 #[.slice A n c] w (RetC w F) := by
 obtain ⟨xs, h1, h2, h3⟩ := hx.ex
 refine (norm_v h1 (lR _) (lT hx.len (by omega)) h2 hx.blk).mono fun e w' h => ?_
 rw [h3] at h
 exact retc_of hF hp hl h
theorem scale_c (hq : IsQ w sa Aa na ca ta Ba ma da q 700) (hx : VF w A n c F) (hH : fmul q F = H) (hF : Fn p l L H) (hp : p ≤ 700) (hl : l ≤ 700) : Calls Tryz.prog 24 #[.agg #[.bool sa, .slice Aa na ca, .bool ta, .slice Ba ma da], .slice A n c] w (RetC w H) := by
 obtain ⟨xs, h1, h2, h3⟩ := hx.ex
 refine (scale_v hq h1 (lR _) (lT hx.len (by omega)) h2 hx.blk).mono fun e w' h => ?_
 rw [h3] at h
 exact retc_of hF hp hl (by rw [← hH]; exact h)
theorem dot_c {p2 l2 L2 : Nat} (hx : VF w A n c F) (hy : VF w B m d G) (hF : Fn p l L F) (hG : Fn p2 l2 L2 G) (hL : L ≤ 1000) (hp : p + p2 ≤ 700) (hl : l + l2 + 1 ≤ 700) : Calls Tryz.prog 29 #[.slice A n c, .slice B m d] w (fun e w' => ∃ q, DotF F G q ∧ ql q ≤ 700 ∧ Q.RetQ w q e w') := by
 obtain ⟨xs, h1, h2, h3⟩ := hx.ex
 obtain ⟨ys, g1, g2, g3⟩ := hy.ex
 refine (dot_v h1 (lR _) (lT hx.len (by omega)) h2 hx.blk g1 (lT hy.len (by omega)) g2 hy.blk (smalldot (by rw [h3]; exact hF) (by rw [g3]; exact hG) hL hp hl)).mono fun e w' h => ?_
 obtain ⟨q, k1, k2, k3⟩ := h
 refine ⟨q, ?_, k2, k3⟩
 have k4 : DotF (tot (vals xs)) (tot (vals ys)) q := k1
 rwa [h3, g3] at k4
end
