/- Part 11 of the proof: WholeB, WholeC, WholeE. -/
import Derived.Test.YthjiacmhhpfokaaGreatL10
namespace Go.Proofs.YthjiacmhhpfokaaGreat
open Lib renaming hid → lh
open Go.Proofs.Tryz renaming prog → tz
section
open Go.RowKit
def Ibx (w : World) (g : Nat) (s : Bool) (A : Option Addr) (n c : Nat) : Prop := w.heap[g]? = some (.cells #[.bool s, .slice A n c] 25 (0, 0))
section
variable {w w' : World} {g : Nat} {s : Bool} {A : Option Addr} {n c : Nat}
theorem Ibx.lt (h : Ibx w g s A n c) : g < w.heap.size := lt_of_block h
theorem Ibx.c0 (h : Ibx w g s A n c) : w.cell? ⟨g, 0, none⟩ = some (.bool s) := by unfold Ibx at h; rw [cell_of_row w g 0 _ _ _ h]; rfl
theorem Ibx.c1 (h : Ibx w g s A n c) : w.cell? ⟨g, 1, none⟩ = some (.slice A n c) := by unfold Ibx at h; rw [cell_of_row w g 1 _ _ _ h]; rfl
theorem Ibx.f (h : Ibx w g s A n c) (i : Nat) : w.frozen? ⟨g, i, none⟩ = false := frozen_of_row w g i _ _ h
theorem Ibx.alloc (h : Ibx w g s A n c) (o : Obj) : Ibx (w.alloc o) g s A n c := (Below.heap_alloc w o g h.lt).trans h
theorem Ibx.drewN (h : Ibx w g s A n c) (k : Nat) : Ibx (w.drewN k) g s A n c := h
theorem Ibx.drew (h : Ibx w g s A n c) : Ibx w.drew g s A n c := h
theorem Ibx.below (h : Ibx w g s A n c) (hb : Below w.heap.size w w') : Ibx w' g s A n c := (hb.block g h.lt).trans h
theorem Ibx.new' (w : World) (s : Bool) (A : Option Addr) (n c g : Nat) (hg : g = w.heap.size) : Ibx (w.alloc (.cells #[.bool s, .slice A n c] 25)) g s A n c := by subst hg; exact heap_alloc_new w _
theorem Ibx.two (h : Ibx w g s A n c) (s' : Bool) (A' : Option Addr) (n' c' : Nat) : Ibx ((w.setCell ⟨g, 0, none⟩ (.bool s')).setCell ⟨g, 1, none⟩ (.slice A' n' c')) g s' A' n' c' := by
 unfold Ibx at h ⊢
 rw [heap_setCell_same _ g 1 _ _ _ (heap_setCell_same w g 0 _ _ _ h)]
 rfl
theorem Ibx.far (h : Ibx w g s A n c) {p : Addr} (hp : g ≠ p.block) (v : Value) : Ibx (w.setCell p v) g s A n c := (Below.heap_setCell w p v g hp).trans h
theorem Ibx.far_num (h : Ibx w g s A n c) {B : Option Addr} {xs : List Nat} (hB : Num w B xs) (hn : xs ≠ []) : ∀ p, B = some p → p.block ≠ g := by
 intro p e hg
 obtain ⟨b, off, e2, _, hc⟩ := hB.2 hn
 rw [e] at e2
 have e3 := Option.some.inj e2
 subst e3
 have h0 := hc 0 (List.length_pos_iff.2 hn)
 have hg' : b = g := hg
 subst hg'
 unfold Ibx at h
 rw [cell_of_row w b _ _ _ _ h] at h0
 rcases Nat.lt_or_ge (off + 0) 2 with h2 | h2
 ·rcases (show off + 0 = 0 ∨ off + 0 = 1 by omega) with h3 | h3 <;> rw [h3] at h0 <;> cases h0
 ·rw [Array.getElem?_eq_none (by simpa using h2)] at h0
  cases h0
theorem Num.two {B : Option Addr} {xs : List Nat} (hB : Num w B xs) (h : Ibx w g s A n c) (v0 v1 : Value) : Num ((w.setCell ⟨g, 0, none⟩ v0).setCell ⟨g, 1, none⟩ v1) B xs :=
 ⟨hB.1, fun hn => by
  have hfar := h.far_num hB hn
  obtain ⟨b, off, e, hlt, hc⟩ := hB.2 hn
  have hbg : b ≠ g := hfar _ e
  refine ⟨b, off, e, by simpa [World.setCell] using hlt, fun i hi => ?_⟩
  exact (World.cell?_of_block ((Below.heap_setCell _ _ _ b hbg).trans (Below.heap_setCell _ _ _ b hbg))).trans (hc i hi)⟩
end
def Sbx (w : World) (g : Nat) (s : Bool) : Prop := w.heap[g]? = some (.cells #[.bool s] 4 (0, 0))
section
variable {w w' : World} {g : Nat} {s : Bool}
theorem Sbx.lt (h : Sbx w g s) : g < w.heap.size := lt_of_block h
theorem Sbx.c (h : Sbx w g s) : w.cell? ⟨g, 0, none⟩ = some (.bool s) := by unfold Sbx at h; rw [cell_of_row w g 0 _ _ _ h]; rfl
theorem Sbx.alloc (h : Sbx w g s) (o : Obj) : Sbx (w.alloc o) g s := (Below.heap_alloc w o g h.lt).trans h
theorem Sbx.drew (h : Sbx w g s) : Sbx w.drew g s := h
theorem Sbx.below (h : Sbx w g s) (hb : Below w.heap.size w w') : Sbx w' g s := (hb.block g h.lt).trans h
theorem Sbx.new' (w : World) (s : Bool) (g : Nat) (hg : g = w.heap.size) : Sbx (w.alloc (.cells #[.bool s] 4)) g s := by subst hg; exact heap_alloc_new w _
end
theorem number_at (w W1 w3 : World) (p g c m : Nat) (s s0 : Bool) (A A0 : Option Addr) (n0 c0 : Nat) (hS : Sbx W1 p s) (hI : Ibx W1 g s0 A0 n0 c0) (hW : Below w.heap.size w W1) (hb3 : Below W1.heap.size W1 w3) (ha : Num w3 A (dig m)) (hn : (dig m).length ≤ 8589934592) (hc : (dig m).length ≤ c) :
  Calls tz 166 #[.func (.func 197) #[] #[.pointer (some ⟨p, 0, none⟩)], .slice A (dig m).length c] w3
   fun e w4 => e = .returned (.agg #[.bool (zneg (zv s m)), .slice A (dig m).length c]) ∧ Num w4 A (dig m) ∧ Ibx w4 g s0 A0 n0 c0 ∧ Below w.heap.size w w4 ∧ Below w3.heap.size w3 w4 := by
 refine (number_any w3 p c m s A ha (hS.below hb3).c hn hc).mono ?_
 rintro e w4 ⟨rfl, hb4⟩
 have h3 := hW.trans (hb3.mono hW.size)
 exact ⟨rfl, ha.below hb4, (hI.below hb3).below hb4, h3.trans (hb4.mono h3.size), hb4⟩
theorem retz_of {w w4 wf : World} {s : Bool} {m c g : Nat} {z : Int} {A A0 : Option Addr} {s0 : Bool} {n0 c0 : Nat} (hz : zv s m = z) (hc : (dig m).length ≤ c) (hA : Num w4 A (dig m)) (hg : Ibx w4 g s0 A0 n0 c0) (hgw : w.heap.size ≤ g) (hb : Below w.heap.size w w4)
  (v0 v1 : Value) (hwf : wf = (w4.setCell ⟨g, 0, none⟩ v0).setCell ⟨g, 1, none⟩ v1) : RetZ w z (.returned (.agg #[.bool (zneg (zv s m)), .slice A (dig m).length c])) wf := by
 subst hz
 subst hwf
 refine ⟨A, c, by rw [zv_natAbs], by rw [zv_natAbs]; exact hc, by rw [zv_natAbs]; exact hA.two hg _ _, (hb.setCell hgw _).setCell hgw _⟩
def C4 (p : Nat) (v1 v2 v3 v4 : Value) (W : World) : Prop := W.cell? ⟨p, 0, none⟩ = some v1 ∧ W.cell? ⟨p, 1, none⟩ = some v2 ∧ W.cell? ⟨p + 1, 0, none⟩ = some v3 ∧ W.cell? ⟨p + 1, 1, none⟩ = some v4
def C2 (p : Nat) (v1 v2 : Value) (W : World) : Prop := W.cell? ⟨p, 0, none⟩ = some v1 ∧ W.cell? ⟨p, 1, none⟩ = some v2
section
variable {w W W' : World} {p : Nat} {v1 v2 v3 v4 : Value}
theorem C2.alloc (h : C2 p v1 v2 W) (o : Obj) : C2 p v1 v2 (W.alloc o) := ⟨(World.cell?_alloc_some _ _ _ (by rw [h.1]; rfl)).trans h.1, (World.cell?_alloc_some _ _ _ (by rw [h.2]; rfl)).trans h.2⟩
theorem C2.below (hb : Below W.heap.size W W') (h : C2 p v1 v2 W) : C2 p v1 v2 W' := ⟨(hb.cell (block_lt_of_cell h.1)).trans h.1, (hb.cell (block_lt_of_cell h.2)).trans h.2⟩
theorem C2.drew (h : C2 p v1 v2 W) : C2 p v1 v2 W.drew := h
theorem C2.far (h : C2 p v1 v2 W) {a : Addr} (hp : p ≠ a.block) (v : Value) : C2 p v1 v2 (W.setCell a v) :=
 ⟨(World.cell?_of_block (Below.heap_setCell W a v p hp)).trans h.1, (World.cell?_of_block (Below.heap_setCell W a v p hp)).trans h.2⟩
theorem C2.base (w : World) (v1 v2 : Value) (T : TypeId) : C2 w.heap.size v1 v2 (w.alloc (.cells #[v1, v2] T)) := by refine ⟨?_, ?_⟩ <;> simp [go_sem]
theorem C4.of (h1 : C2 p v1 v2 W) (h2 : C2 (p + 1) v3 v4 W) : C4 p v1 v2 v3 v4 W := ⟨h1.1, h1.2, h2.1, h2.2⟩
theorem C4.alloc (h : C4 p v1 v2 v3 v4 W) (o : Obj) : C4 p v1 v2 v3 v4 (W.alloc o) := C4.of (C2.alloc ⟨h.1, h.2.1⟩ o) (C2.alloc ⟨h.2.2.1, h.2.2.2⟩ o)
theorem C4.below (hb : Below W.heap.size W W') (h : C4 p v1 v2 v3 v4 W) : C4 p v1 v2 v3 v4 W' := C4.of (C2.below hb ⟨h.1, h.2.1⟩) (C2.below hb ⟨h.2.2.1, h.2.2.2⟩)
theorem C4.drew (h : C4 p v1 v2 v3 v4 W) : C4 p v1 v2 v3 v4 W.drew := h
theorem C4.far (h : C4 p v1 v2 v3 v4 W) {a : Addr} (hp : p ≠ a.block) (hq : p + 1 ≠ a.block) (v : Value) : C4 p v1 v2 v3 v4 (W.setCell a v) := C4.of (C2.far ⟨h.1, h.2.1⟩ hp v) (C2.far ⟨h.2.2.1, h.2.2.2⟩ hq v)
theorem C4.base (w : World) (v1 v2 v3 v4 : Value) (T U : TypeId) : C4 w.heap.size v1 v2 v3 v4 ((w.alloc (.cells #[v1, v2] T)).alloc (.cells #[v3, v4] U)) := by
 refine C4.of ((C2.base w v1 v2 T).alloc _) ?_
 have h := C2.base (w.alloc (.cells #[v1, v2] T)) v3 v4 U
 rwa [show (w.alloc (.cells #[v1, v2] T)).heap.size = w.heap.size + 1 by simp] at h
end
end

section
set_option maxHeartbeats 2000000
open Go.RowKit
theorem zsign_any (w : World) (s : Bool) (A : Option Addr) (c : Nat) (xs : List Nat) (z : Int) (ha : Num w A xs) (hx : zv s (val xs) = z) (hn : xs.length ≤ 1000000) (hc : xs.length ≤ c) :
  Calls tz 140 #[.agg #[.bool s, .slice A xs.length c]] w fun e w' => e = .returned (.int .i64 (Int.sign z)) ∧ Below w.heap.size w w' := by
 have HA := lh ha
 have HX := lh hx
 clear ha hx
 go_enter Tryz.func140, Tryz.ntmps140
 go_wp2_with fail
 go_region_held3 (fun W => W.cell? ⟨w.heap.size, 0, none⟩ = some (.bool s) ∧ W.cell? ⟨w.heap.size, 1, none⟩ = some (.slice A xs.length c))
  (first | exact C2.alloc (by assumption) _ | exact C2.drew (C2.base _ _ _ _) | assumption)
  (first
  | (go_at_call 167; (with_reducible refine (signOf_any _ _).mono ?_); rintro e w1 ⟨rfl, rfl⟩)
  | (go_at_call 197; refine (sign1_any _ _ c s A xs ?_ ?_ (by omega) hc).mono ?_; (repeat (first | exact HA.out | (with_reducible refine Num.drew ?_) | (with_reducible refine Num.alloc ?_ _))); (exact Sbx.c (Sbx.new' _ s _ (by simp))); rintro e w2 ⟨rfl, rfl⟩))
 all_goals
  go_wp2_with fail
  go_ret
  rw [HX.out]
  refine ⟨rfl, ?_⟩
  repeat (first | exact Below.refl _ _ | (with_reducible refine Below.drew ?_) | (with_reducible refine Below.alloc ?_ (by first | exact Nat.le_refl _ | (simp; done) | (simp; omega)) _))
def zcmp (y z : Int) : Int := if y < z then -1 else if z < y then 1 else 0
theorem zcmp_lt {y z : Int} (h : y < z) : zcmp y z = -1 := if_pos h
theorem zcmp_gt {y z : Int} (h : z < y) : zcmp y z = 1 := by unfold zcmp; rw [if_neg (by omega), if_pos h]
theorem zcmp_eq (y : Int) : zcmp y y = 0 := by unfold zcmp; rw [if_neg (by omega), if_neg (by omega)]
theorem isnan_any (w : World) (x : Int) : Calls tz 191 #[.int .i64 x] w fun e w' => e = .returned (.bool false) ∧ w = w' := by
 go_enter Tryz.func191, Tryz.ntmps191
 go_wp2
 go_ret
 exact ⟨rfl, rfl⟩
theorem compare_any (w : World) (x y : Int) : Calls tz 152 #[.int .i64 x, .int .i64 y] w fun e w' => e = .returned (.int .i64 (zcmp x y)) ∧ w = w' := by
 rcases Int.lt_trichotomy x y with h | h | h
 ·have hz := lh (zcmp_lt h)
  go_enter Tryz.func152, Tryz.ntmps152
  go_wp2_with fail
  refine (isnan_any _ _).mono ?_
  rintro e w' ⟨rfl, rfl⟩
  go_wp2_with fail
  refine (isnan_any _ _).mono ?_
  rintro e w' ⟨rfl, rfl⟩
  go_wp2_with fail
  go_ret
  exact ⟨by rw [hz.out]; rfl, rfl⟩
 ·subst h
  have hz := lh (zcmp_eq x)
  have h1 : ¬ x < x := by omega
  go_enter Tryz.func152, Tryz.ntmps152
  go_wp2_with fail
  refine (isnan_any _ _).mono ?_
  rintro e w' ⟨rfl, rfl⟩
  go_wp2_with fail
  refine (isnan_any _ _).mono ?_
  rintro e w' ⟨rfl, rfl⟩
  go_wp2_with fail
  go_ret
  exact ⟨by rw [hz.out]; rfl, rfl⟩
 ·have hz := lh (zcmp_gt h)
  have h1 : ¬ x < y := by omega
  go_enter Tryz.func152, Tryz.ntmps152
  go_wp2_with fail
  refine (isnan_any _ _).mono ?_
  rintro e w' ⟨rfl, rfl⟩
  go_wp2_with fail
  refine (isnan_any _ _).mono ?_
  rintro e w' ⟨rfl, rfl⟩
  go_wp2_with fail
  go_ret
  exact ⟨by rw [hz.out]; rfl, rfl⟩
theorem zcmp_sign {y z : Int} (h : y.sign ≠ z.sign) : zcmp y.sign z.sign = zcmp y z := by
 rcases Int.lt_trichotomy y 0 with h1 | h1 | h1 <;> rcases Int.lt_trichotomy z 0 with h2 | h2 | h2
 all_goals
  first
   | rw [Int.sign_eq_neg_one_of_neg h1] at h ⊢
   | rw [Int.sign_eq_one_of_pos h1] at h ⊢
   | rw [h1] at h ⊢
  first
   | rw [Int.sign_eq_neg_one_of_neg h2] at h ⊢
   | rw [Int.sign_eq_one_of_pos h2] at h ⊢
   | rw [h2] at h ⊢
 all_goals first | exact absurd rfl h | skip
 all_goals unfold zcmp
 all_goals simp
 all_goals omega
theorem zcmp_size {s t : Bool} {a b : Nat} (h : (zv s a).sign = (zv t b).sign) : (zv s a).sign * cmpv a b = zcmp (zv s a) (zv t b) := by
 rcases Nat.eq_zero_or_pos a with ha | ha
 ·subst ha
  rw [zv_zero] at h ⊢
  have hb : zv t b = 0 := Int.sign_eq_zero_iff_zero.1 h.symm
  rw [hb, zcmp_eq]
  exact Int.zero_mul _
 ·have e1 : (zv true a).sign = -1 := Int.sign_eq_neg_one_of_neg (by simp only [zv, if_true]; omega)
  have e2 : (zv false a).sign = 1 := Int.sign_eq_one_of_pos (by simp only [zv]; rw [if_neg (by simp)]; omega)
  have hb : 0 < b := by
   rcases Nat.eq_zero_or_pos b with hb | hb
   ·subst hb
    rw [zv_zero t] at h
    cases s
    ·rw [e2] at h; exact absurd h (by decide)
    ·rw [e1] at h; exact absurd h (by decide)
   ·exact hb
  have e3 : (zv true b).sign = -1 := Int.sign_eq_neg_one_of_neg (by simp only [zv, if_true]; omega)
  have e4 : (zv false b).sign = 1 := Int.sign_eq_one_of_pos (by simp only [zv]; rw [if_neg (by simp)]; omega)
  cases s <;> cases t <;> simp only [e1, e2, e3, e4] at h ⊢
  ·unfold cmpv zcmp zv
   simp only [Bool.false_eq_true, if_false]
   repeat' split
   all_goals omega
  ·exact absurd h (by decide)
  ·exact absurd h (by decide)
  ·unfold cmpv zcmp zv
   simp only [if_true]
   repeat' split
   all_goals omega
theorem zcmp_bound (y z : Int) : -1 ≤ zcmp y z ∧ zcmp y z ≤ 1 := by
 unfold zcmp; repeat' split
 all_goals omega
theorem zcmp_any (w : World) (s t : Bool) (A B : Option Addr) (c d : Nat) (xs ys : List Nat) (y z : Int) (ha : Num w A xs) (hb : Num w B ys) (hx : zv s (val xs) = y) (hy : zv t (val ys) = z) (hn : xs.length ≤ 400000) (hm : ys.length ≤ 400000) (hc : xs.length ≤ c) (hd : ys.length ≤ d) :
  Calls tz 153 #[.agg #[.bool s, .slice A xs.length c], .agg #[.bool t, .slice B ys.length d]] w (RetI w (zcmp y z)) := by
 have HA := lh ha
 have HB := lh hb
 have HX := lh hx
 have HY := lh hy
 by_cases hs : y.sign = z.sign
 ·have hw : IntKind.i64.wrap (y.sign * cmpv (val xs) (val ys)) = zcmp y z := by
   have h1 : y.sign * cmpv (val xs) (val ys) = zcmp y z := by rw [← hx, ← hy] at hs ⊢; exact zcmp_size hs
   rw [h1]
   have := zcmp_bound y z
   exact IntWalk.i64_in _ (by omega)
  have hb0 : (y.sign != z.sign) = false := by simp [hs]
  clear ha hb hx hy hs
  go_enter Tryz.func153, Tryz.ntmps153
  go_wp2_with fail
  go_region_held3 (fun W => W.cell? ⟨w.heap.size, 0, none⟩ = some (.bool s) ∧ W.cell? ⟨w.heap.size, 1, none⟩ = some (.slice A xs.length c) ∧ W.cell? ⟨w.heap.size + 1, 0, none⟩ = some (.bool t) ∧ W.cell? ⟨w.heap.size + 1, 1, none⟩ = some (.slice B ys.length d))
   (first | exact C4.below hb2 (by assumption) | exact C4.below hb1 (by assumption) | exact C4.drew (C4.base _ _ _ _ _ _ _) | assumption)
   (first
   | (go_at_call_of 140 (Value.slice A xs.length c); refine (zsign_any _ s A c xs y ?_ HX.out (by omega) hc).mono ?_; (repeat (first | exact HA.out | (with_reducible refine Num.drew ?_) | (with_reducible refine Num.alloc ?_ _))); rintro e w1 ⟨rfl, hb1⟩)
   | (go_at_call_of 140 (Value.slice B ys.length d); refine (zsign_any _ t B d ys z ?_ HY.out (by omega) hd).mono ?_; (refine Num.below ?_ hb1); (repeat (first | exact HB.out | (with_reducible refine Num.drew ?_) | (with_reducible refine Num.alloc ?_ _))); rintro e w2 ⟨rfl, hb2⟩))
  have W2 : Below w.heap.size w w2 := Below.trans (Below.trans (Below.drew (Below.alloc (Below.alloc (Below.refl _ _) (Nat.le_refl _) _) (by simp) _)) (hb1.mono (by simp; omega))) (hb2.mono (Nat.le_trans (by simp; omega) hb1.size))
  obtain ⟨k0, k1, k2, k3⟩ : C4 w.heap.size (.bool s) (.slice A xs.length c) (.bool t) (.slice B ys.length d) w2 := C4.below hb2 (C4.below hb1 (C4.drew (C4.base _ _ _ _ _ _ _)))
  have hwb := lh W2
  clear W2
  have HC := lh (cmp_v w2 A B c d xs ys _ _ (by (refine Num.below ?_ hb2); (refine Num.below ?_ hb1); (repeat (first | exact HA.out | (with_reducible refine Num.drew ?_) | (with_reducible refine Num.alloc ?_ _)))) (by (refine Num.below ?_ hb2); (refine Num.below ?_ hb1); (repeat (first | exact HB.out | (with_reducible refine Num.drew ?_) | (with_reducible refine Num.alloc ?_ _)))) rfl rfl (by omega) (by omega) hc hd)
  clear hb1 hb2
  go_wp2_with fail
  refine HC.out.mono ?_
  rintro e w3 ⟨rfl, hb3⟩
  go_wp2_with fail
  go_ret
  exact ⟨rfl, hwb.out.trans (hb3.mono hwb.out.size)⟩
 ·have hb0 : (y.sign != z.sign) = true := by simp [hs]
  have hz := lh (zcmp_sign hs)
  clear ha hb hx hy hs
  go_enter Tryz.func153, Tryz.ntmps153
  go_wp2_with fail
  go_region_held3 (fun W => W.cell? ⟨w.heap.size, 0, none⟩ = some (.bool s) ∧ W.cell? ⟨w.heap.size, 1, none⟩ = some (.slice A xs.length c) ∧ W.cell? ⟨w.heap.size + 1, 0, none⟩ = some (.bool t) ∧ W.cell? ⟨w.heap.size + 1, 1, none⟩ = some (.slice B ys.length d))
   (first | exact C4.below hb2 (by assumption) | exact C4.below hb1 (by assumption) | exact C4.drew (C4.base _ _ _ _ _ _ _) | assumption)
   (first
   | (go_at_call_of 140 (Value.slice A xs.length c); refine (zsign_any _ s A c xs y ?_ HX.out (by omega) hc).mono ?_; (repeat (first | exact HA.out | (with_reducible refine Num.drew ?_) | (with_reducible refine Num.alloc ?_ _))); rintro e w1 ⟨rfl, hb1⟩)
   | (go_at_call_of 140 (Value.slice B ys.length d); refine (zsign_any _ t B d ys z ?_ HY.out (by omega) hd).mono ?_; (refine Num.below ?_ hb1); (repeat (first | exact HB.out | (with_reducible refine Num.drew ?_) | (with_reducible refine Num.alloc ?_ _))); rintro e w2 ⟨rfl, hb2⟩))
  have W2 : Below w.heap.size w w2 := Below.trans (Below.trans (Below.drew (Below.alloc (Below.alloc (Below.refl _ _) (Nat.le_refl _) _) (by simp) _)) (hb1.mono (by simp; omega))) (hb2.mono (Nat.le_trans (by simp; omega) hb1.size))
  obtain ⟨k0, k1, k2, k3⟩ : C4 w.heap.size (.bool s) (.slice A xs.length c) (.bool t) (.slice B ys.length d) w2 := C4.below hb2 (C4.below hb1 (C4.drew (C4.base _ _ _ _ _ _ _)))
  have hwb := lh W2
  clear W2
  clear hb1 hb2
  go_wp2_with fail
  refine (compare_any _ _ _).mono ?_
  rintro e w3 ⟨rfl, rfl⟩
  go_wp2_with fail
  go_ret
  rw [hz.out]
  exact ⟨rfl, hwb.out⟩
end

section
open Go.RowKit
structure AddAt (w : World) (s t : Bool) (A B : Option Addr) (n m c d p q : Nat) (W : World) : Prop where
 c4 : C4 w.heap.size (.bool s) (.slice A n c) (.bool t) (.slice B m d) W
 sp : Sbx W p s
 sq : Sbx W q t
 res : Ibx W (w.heap.size + 1 + 1) false none 0 0
 bel : Below w.heap.size w W
theorem zadd_same {s : Bool} {a b : Nat} : zv s (a + b) = zv s a + zv s b := by cases s <;> simp [zv] <;> omega
theorem zadd_less {s t : Bool} {a b : Nat} (h : s ≠ t) (hl : a ≤ b) : zv t (b - a) = zv s a + zv t b := by
 cases s <;> cases t <;> first | exact absurd rfl h | (simp [zv]; omega)
theorem zadd_more {s t : Bool} {a b : Nat} (h : s ≠ t) (hl : b ≤ a) : zv s (a - b) = zv s a + zv t b := by
 cases s <;> cases t <;> first | exact absurd rfl h | (simp [zv]; omega)
theorem add_last (w W W3 : World) (s t : Bool) (A B : Option Addr) (n k c d p q : Nat) (sg : Bool) (r c3 m : Nat) (A3 : Option Addr) (h : AddAt w s t A B n k c d p q W) (hr : Sbx W r sg) (hb : Below W.heap.size W W3) (hA3 : Num W3 A3 (dig m)) (hn : (dig m).length ≤ 8589934592) (hc3 : (dig m).length ≤ c3) :
  Calls tz 166 #[.func (.func 197) #[] #[.pointer (some ⟨r, 0, none⟩)], .slice A3 (dig m).length c3] W3
   fun e w4 => e = .returned (.agg #[.bool (zneg (zv sg m)), .slice A3 (dig m).length c3]) ∧ Num w4 A3 (dig m) ∧ Ibx w4 (w.heap.size + 1 + 1) false none 0 0 ∧ Below w.heap.size w w4 ∧ Below W3.heap.size W3 w4 :=
 number_at w W W3 r (w.heap.size + 1 + 1) c3 m sg false A3 none 0 0 hr h.res h.bel hb hA3 hn hc3
set_option maxHeartbeats 4000000 in
theorem zadd_any (w : World) (s t : Bool) (A B : Option Addr) (c d : Nat) (xs ys : List Nat) (y z : Int) (ha : Num w A xs) (hb : Num w B ys) (hx : zv s (val xs) = y) (hy : zv t (val ys) = z) (hn : xs.length ≤ 400000) (hm : ys.length ≤ 400000) (hc : xs.length ≤ c) (hd : ys.length ≤ d) :
  Calls tz 137 #[.agg #[.bool s, .slice A xs.length c], .agg #[.bool t, .slice B ys.length d]] w (RetZ w (y + z)) := by
 have hd1 := dig_length_val ha.1
 have hd2 := dig_length_val hb.1
 have HA := lh ha
 have HB := lh hb
 obtain ⟨a, hva⟩ : ∃ a, val xs = a := ⟨_, rfl⟩
 obtain ⟨b, hvb⟩ : ∃ b, val ys = b := ⟨_, rfl⟩
 rw [hva] at hd1 hx
 rw [hvb] at hd2 hy
 have HX := lh hx
 have HY := lh hy
 have HVA := lh hva
 have HVB := lh hvb
 clear ha hb hx hy hva hvb
 go_enter Tryz.func137, Tryz.ntmps137
 go_upto_region 1 with fail
 go_cut [5, 6] (fun s5 s6 wx => ∃ p q : Nat, s5 = .func (.func 197) #[] #[.pointer (some ⟨p, 0, none⟩)] ∧ s6 = .func (.func 197) #[] #[.pointer (some ⟨q, 0, none⟩)] ∧ AddAt w s t A B xs.length ys.length c d p q wx)
 case first =>
  go_region_held3 (fun W => W.cell? ⟨w.heap.size, 0, none⟩ = some (.bool s) ∧ W.cell? ⟨w.heap.size, 1, none⟩ = some (.slice A xs.length c) ∧ W.cell? ⟨w.heap.size + 1, 0, none⟩ = some (.bool t) ∧ W.cell? ⟨w.heap.size + 1, 1, none⟩ = some (.slice B ys.length d))
   (first | exact C4.alloc (by assumption) _ | exact C4.drew ((C4.base _ _ _ _ _ _ _).alloc _) | assumption)
   (first | (go_at_call 167; (with_reducible refine (signOf_any _ _).mono ?_); rintro e w1 ⟨rfl, rfl⟩))
  all_goals
   go_wp2_with fail
   go_meet
   case rel =>
    refine ⟨_, _, rfl, rfl, ⟨?_, ?_, ?_, ?_, ?_⟩⟩
    ·exact ((C4.drew ((C4.base _ _ _ _ _ _ _).alloc _)).alloc _).alloc _
    ·repeat (first | exact Sbx.new' _ _ _ (by simp) | (with_reducible refine Sbx.drew ?_) | (with_reducible refine Sbx.alloc ?_ _))
    ·repeat (first | exact Sbx.new' _ _ _ (by simp) | (with_reducible refine Sbx.drew ?_) | (with_reducible refine Sbx.alloc ?_ _))
    ·repeat (first | exact Ibx.new' _ _ _ _ _ _ (by simp) | (with_reducible refine Ibx.drew ?_) | (with_reducible refine Ibx.alloc ?_ _))
    ·repeat (first | exact Below.refl _ _ | (with_reducible refine Below.drew ?_) | (with_reducible refine Below.alloc ?_ (by first | exact Nat.le_refl _ | (simp; done) | (simp; omega)) _))
 case rest =>
  obtain ⟨p, q, rfl, rfl, hW⟩ := hcut
  have HW := lh hW
  obtain ⟨k0, k1, k2, k3⟩ := hW.c4
  have HNA := lh (HA.out.below hW.bel)
  have HNB := lh (HB.out.below hW.bel)
  clear hW
  by_cases hst : s = t
  ·subst hst
   have hda := dl_add a b
   have HADD := lh (add_v wc A B c d xs ys a b HNA.out HNB.out HVA.out HVB.out (by omega) (by omega) hc hd)
   have HZ : Hid (zv s (a + b) = y + z) := by show _ = _; rw [← HX.out, ← HY.out]; exact zadd_same
   have hss : (s == s) = true := by simp
   go_wp2_with fail
   refine HADD.out.mono ?_
   rintro e w3 ⟨A3, c3, rfl, hc3, h3, hb3⟩
   have HN := lh (add_last w wc w3 s s A B _ _ c d p q s p c3 (a + b) A3 HW.out HW.out.sp hb3 h3 (by omega) hc3)
   clear h3 hb3
   go_wp2_with fail
   refine HN.out.mono ?_
   rintro e w4 ⟨rfl, n4, I4, hb4, -⟩
   have c0 := I4.c0
   have c1 := I4.c1
   have f0 := I4.f 0
   have f1 := I4.f 1
   have N4 := lh n4
   have J4 := lh I4
   have B4 := lh hb4
   clear n4 I4 hb4 HN
   go_wp2_with fail
   refine bodyPost_ret (v := .agg #[.bool (zneg (zv s (a + b))), .slice A3 (dig (a + b)).length c3]) (by simp [results, Tryz.results137, go_sem, c0, c1]) rfl ?_
   exact retz_of HZ.out hc3 N4.out J4.out (by omega) B4.out _ _ rfl
  ·have hss : (s == t) = false := by simp [hst]
   rcases Nat.lt_or_ge a b with hab | hab
   ·have hcv := cmpv_lt hab
    have HCMP := cmp_v wc A B c d xs ys a b HNA.out HNB.out HVA.out HVB.out (by omega) (by omega) hc hd
    rw [hcv] at HCMP
    have HC := lh HCMP
    have HZ : Hid (zv t (b - a) = y + z) := by show _ = _; rw [← HX.out, ← HY.out]; exact zadd_less hst (Nat.le_of_lt hab)
    have hdl : (dig (b - a)).length ≤ max xs.length ys.length := by
     have h1 : (dig (b - a)).length ≤ (dig (max a b)).length := dl_le (by omega)
     rcases Nat.le_total a b with h2 | h2
     ·rw [Nat.max_eq_right h2] at h1; omega
     ·rw [Nat.max_eq_left h2] at h1; omega
    clear HCMP hcv
    go_wp2_with fail
    refine HC.out.mono ?_
    rintro e w2 ⟨rfl, hb2⟩
    have HB2 := lh hb2
    have k1' : w2.cell? ⟨w.heap.size, 1, none⟩ = some (.slice A xs.length c) := (hb2.cell (block_lt_of_cell k1)).trans k1
    have k3' : w2.cell? ⟨w.heap.size + 1, 1, none⟩ = some (.slice B ys.length d) := (hb2.cell (block_lt_of_cell k3)).trans k3
    have HSUB := lh (sub_v w2 B A d c ys xs b a (HNB.out.below HB2.out) (HNA.out.below HB2.out) HVB.out HVA.out (by omega) (by omega) hd hc)
    clear hb2
    go_wp2_with fail
    refine HSUB.out.mono ?_
    rintro e w3 ⟨A3, c3, rfl, hc3, h3, hb3⟩
    have HN := lh (add_last w wc w3 s t A B _ _ c d p q t q c3 (b - a) A3 HW.out HW.out.sq (HB2.out.trans (hb3.mono HB2.out.size)) h3 (by omega) hc3)
    clear h3 hb3
    go_wp2_with fail
    refine HN.out.mono ?_
    rintro e w4 ⟨rfl, n4, I4, hb4, -⟩
    have c0 := I4.c0
    have c1 := I4.c1
    have f0 := I4.f 0
    have f1 := I4.f 1
    have N4 := lh n4
    have J4 := lh I4
    have B4 := lh hb4
    clear n4 I4 hb4 HN
    go_wp2_with fail
    refine bodyPost_ret (v := .agg #[.bool (zneg (zv t (b - a))), .slice A3 (dig (b - a)).length c3]) (by simp [results, Tryz.results137, go_sem, c0, c1]) rfl ?_
    exact retz_of HZ.out hc3 N4.out J4.out (by omega) B4.out _ _ rfl
   ·obtain ⟨v, hcv, hv0⟩ : ∃ v : Int, cmpv a b = v ∧ ¬ v < 0 := by
     rcases Nat.lt_or_ge b a with h | h
     ·exact ⟨1, cmpv_gt h, by omega⟩
     ·exact ⟨0, cmpv_eq (by omega), by omega⟩
    have HCMP := cmp_v wc A B c d xs ys a b HNA.out HNB.out HVA.out HVB.out (by omega) (by omega) hc hd
    rw [hcv] at HCMP
    have HC := lh HCMP
    have HZ : Hid (zv s (a - b) = y + z) := by show _ = _; rw [← HX.out, ← HY.out]; exact zadd_more hst hab
    have hdl : (dig (a - b)).length ≤ max xs.length ys.length := by
     have h1 : (dig (a - b)).length ≤ (dig (max a b)).length := dl_le (by omega)
     rcases Nat.le_total a b with h2 | h2
     ·rw [Nat.max_eq_right h2] at h1; omega
     ·rw [Nat.max_eq_left h2] at h1; omega
    clear HCMP hcv
    go_wp2_with fail
    refine HC.out.mono ?_
    rintro e w2 ⟨rfl, hb2⟩
    have HB2 := lh hb2
    have k1' : w2.cell? ⟨w.heap.size, 1, none⟩ = some (.slice A xs.length c) := (hb2.cell (block_lt_of_cell k1)).trans k1
    have k3' : w2.cell? ⟨w.heap.size + 1, 1, none⟩ = some (.slice B ys.length d) := (hb2.cell (block_lt_of_cell k3)).trans k3
    have HSUB := lh (sub_v w2 A B c d xs ys a b (HNA.out.below HB2.out) (HNB.out.below HB2.out) HVA.out HVB.out (by omega) (by omega) hc hd)
    clear hb2
    go_wp2_with fail
    refine HSUB.out.mono ?_
    rintro e w3 ⟨A3, c3, rfl, hc3, h3, hb3⟩
    have HN := lh (add_last w wc w3 s t A B _ _ c d p q s p c3 (a - b) A3 HW.out HW.out.sp (HB2.out.trans (hb3.mono HB2.out.size)) h3 (by omega) hc3)
    clear h3 hb3
    go_wp2_with fail
    refine HN.out.mono ?_
    rintro e w4 ⟨rfl, n4, I4, hb4, -⟩
    have c0 := I4.c0
    have c1 := I4.c1
    have f0 := I4.f 0
    have f1 := I4.f 1
    have N4 := lh n4
    have J4 := lh I4
    have B4 := lh hb4
    clear n4 I4 hb4 HN
    go_wp2_with fail
    refine bodyPost_ret (v := .agg #[.bool (zneg (zv s (a - b))), .slice A3 (dig (a - b)).length c3]) (by simp [results, Tryz.results137, go_sem, c0, c1]) rfl ?_
    exact retz_of HZ.out hc3 N4.out J4.out (by omega) B4.out _ _ rfl
