/- Part 11 of the proof: WholeB, WholeC, WholeE, WholeF. -/
import Derived.Test.YthjiacmhhpfokaaGreatM10
namespace Go.Proofs.YthjiacmhhpfokaaGreat
open Lib renaming hid → lh
open Go.Proofs.Tryz renaming prog → tz
section
open Go.RowKit
def Ibx (w : World) (g : Nat) (s : Bool) (A : Option Addr) (n c : Nat) : Prop := w.heap[g]? = some (.cells #[.bool s, .slice A n c] 25 (0, 0))
section
variable {w w' : World} {g : Nat} {s : Bool} {A : Option Addr} {n c : Nat}
theorem Ibx.lt (h : Ibx w g s A n c) : g < w.heap.size := lt_of_block h
theorem Ibx.c0 (h : Ibx w g s A n c) : w.cell? ⟨g, 0, none⟩ = some (.bool s) := by unfold Ibx at h; rw [cell_of_row w g 0 _ _ _ h]; rfl
theorem Ibx.c1 (h : Ibx w g s A n c) : w.cell? ⟨g, 1, none⟩ = some (.slice A n c) := by unfold Ibx at h; rw [cell_of_row w g 1 _ _ _ h]; rfl
theorem Ibx.f (h : Ibx w g s A n c) (i : Nat) : w.frozen? ⟨g, i, none⟩ = false := frozen_of_row w g i _ _ h
theorem Ibx.alloc (h : Ibx w g s A n c) (o : Obj) : Ibx (w.alloc o) g s A n c := (Below.heap_alloc w o g h.lt).trans h
theorem Ibx.drewN (h : Ibx w g s A n c) (k : Nat) : Ibx (w.drewN k) g s A n c := h
theorem Ibx.drew (h : Ibx w g s A n c) : Ibx w.drew g s A n c := h
theorem Ibx.below (h : Ibx w g s A n c) (hb : Below w.heap.size w w') : Ibx w' g s A n c := (hb.block g h.lt).trans h
theorem Ibx.new' (w : World) (s : Bool) (A : Option Addr) (n c g : Nat) (hg : g = w.heap.size) : Ibx (w.alloc (.cells #[.bool s, .slice A n c] 25)) g s A n c := by subst hg; exact heap_alloc_new w _
theorem Ibx.two (h : Ibx w g s A n c) (s' : Bool) (A' : Option Addr) (n' c' : Nat) : Ibx ((w.setCell ⟨g, 0, none⟩ (.bool s')).setCell ⟨g, 1, none⟩ (.slice A' n' c')) g s' A' n' c' := by
 unfold Ibx at h ⊢
 rw [heap_setCell_same _ g 1 _ _ _ (heap_setCell_same w g 0 _ _ _ h)]
 rfl
theorem Ibx.far (h : Ibx w g s A n c) {p : Addr} (hp : g ≠ p.block) (v : Value) : Ibx (w.setCell p v) g s A n c := (Below.heap_setCell w p v g hp).trans h
theorem Ibx.far_num (h : Ibx w g s A n c) {B : Option Addr} {xs : List Nat} (hB : Num w B xs) (hn : xs ≠ []) : ∀ p, B = some p → p.block ≠ g := by
 intro p e hg
 obtain ⟨b, off, e2, _, hc⟩ := hB.2 hn
 rw [e] at e2
 have e3 := Option.some.inj e2
 subst e3
 have h0 := hc 0 (List.length_pos_iff.2 hn)
 have hg' : b = g := hg
 subst hg'
 unfold Ibx at h
 rw [cell_of_row w b _ _ _ _ h] at h0
 rcases Nat.lt_or_ge (off + 0) 2 with h2 | h2
 ·rcases (show off + 0 = 0 ∨ off + 0 = 1 by omega) with h3 | h3 <;> rw [h3] at h0 <;> cases h0
 ·rw [Array.getElem?_eq_none (by simpa using h2)] at h0
  cases h0
theorem Num.two {B : Option Addr} {xs : List Nat} (hB : Num w B xs) (h : Ibx w g s A n c) (v0 v1 : Value) : Num ((w.setCell ⟨g, 0, none⟩ v0).setCell ⟨g, 1, none⟩ v1) B xs :=
 ⟨hB.1, fun hn => by
  have hfar := h.far_num hB hn
  obtain ⟨b, off, e, hlt, hc⟩ := hB.2 hn
  have hbg : b ≠ g := hfar _ e
  refine ⟨b, off, e, by simpa [World.setCell] using hlt, fun i hi => ?_⟩
  exact (World.cell?_of_block ((Below.heap_setCell _ _ _ b hbg).trans (Below.heap_setCell _ _ _ b hbg))).trans (hc i hi)⟩
end
def Sbx (w : World) (g : Nat) (s : Bool) : Prop := w.heap[g]? = some (.cells #[.bool s] 4 (0, 0))
section
variable {w w' : World} {g : Nat} {s : Bool}
theorem Sbx.lt (h : Sbx w g s) : g < w.heap.size := lt_of_block h
theorem Sbx.c (h : Sbx w g s) : w.cell? ⟨g, 0, none⟩ = some (.bool s) := by unfold Sbx at h; rw [cell_of_row w g 0 _ _ _ h]; rfl
theorem Sbx.alloc (h : Sbx w g s) (o : Obj) : Sbx (w.alloc o) g s := (Below.heap_alloc w o g h.lt).trans h
theorem Sbx.drew (h : Sbx w g s) : Sbx w.drew g s := h
theorem Sbx.below (h : Sbx w g s) (hb : Below w.heap.size w w') : Sbx w' g s := (hb.block g h.lt).trans h
theorem Sbx.new' (w : World) (s : Bool) (g : Nat) (hg : g = w.heap.size) : Sbx (w.alloc (.cells #[.bool s] 4)) g s := by subst hg; exact heap_alloc_new w _
end
theorem number_at (w W1 w3 : World) (p g c m : Nat) (s s0 : Bool) (A A0 : Option Addr) (n0 c0 : Nat) (hS : Sbx W1 p s) (hI : Ibx W1 g s0 A0 n0 c0) (hW : Below w.heap.size w W1) (hb3 : Below W1.heap.size W1 w3) (ha : Num w3 A (dig m)) (hn : (dig m).length ≤ 8589934592) (hc : (dig m).length ≤ c) :
  Calls tz 166 #[.func (.func 197) #[] #[.pointer (some ⟨p, 0, none⟩)], .slice A (dig m).length c] w3
   fun e w4 => e = .returned (.agg #[.bool (zneg (zv s m)), .slice A (dig m).length c]) ∧ Num w4 A (dig m) ∧ Ibx w4 g s0 A0 n0 c0 ∧ Below w.heap.size w w4 ∧ Below w3.heap.size w3 w4 := by
 refine (number_any w3 p c m s A ha (hS.below hb3).c hn hc).mono ?_
 rintro e w4 ⟨rfl, hb4⟩
 have h3 := hW.trans (hb3.mono hW.size)
 exact ⟨rfl, ha.below hb4, (hI.below hb3).below hb4, h3.trans (hb4.mono h3.size), hb4⟩
theorem retz_of {w w4 wf : World} {s : Bool} {m c g : Nat} {z : Int} {A A0 : Option Addr} {s0 : Bool} {n0 c0 : Nat} (hz : zv s m = z) (hc : (dig m).length ≤ c) (hA : Num w4 A (dig m)) (hg : Ibx w4 g s0 A0 n0 c0) (hgw : w.heap.size ≤ g) (hb : Below w.heap.size w w4)
  (v0 v1 : Value) (hwf : wf = (w4.setCell ⟨g, 0, none⟩ v0).setCell ⟨g, 1, none⟩ v1) : RetZ w z (.returned (.agg #[.bool (zneg (zv s m)), .slice A (dig m).length c])) wf := by
 subst hz
 subst hwf
 refine ⟨A, c, by rw [zv_natAbs], by rw [zv_natAbs]; exact hc, by rw [zv_natAbs]; exact hA.two hg _ _, (hb.setCell hgw _).setCell hgw _⟩
def C4 (p : Nat) (v1 v2 v3 v4 : Value) (W : World) : Prop := W.cell? ⟨p, 0, none⟩ = some v1 ∧ W.cell? ⟨p, 1, none⟩ = some v2 ∧ W.cell? ⟨p + 1, 0, none⟩ = some v3 ∧ W.cell? ⟨p + 1, 1, none⟩ = some v4
def C2 (p : Nat) (v1 v2 : Value) (W : World) : Prop := W.cell? ⟨p, 0, none⟩ = some v1 ∧ W.cell? ⟨p, 1, none⟩ = some v2
section
variable {w W W' : World} {p : Nat} {v1 v2 v3 v4 : Value}
theorem C2.alloc (h : C2 p v1 v2 W) (o : Obj) : C2 p v1 v2 (W.alloc o) := ⟨(World.cell?_alloc_some _ _ _ (by rw [h.1]; rfl)).trans h.1, (World.cell?_alloc_some _ _ _ (by rw [h.2]; rfl)).trans h.2⟩
theorem C2.below (hb : Below W.heap.size W W') (h : C2 p v1 v2 W) : C2 p v1 v2 W' := ⟨(hb.cell (block_lt_of_cell h.1)).trans h.1, (hb.cell (block_lt_of_cell h.2)).trans h.2⟩
theorem C2.drew (h : C2 p v1 v2 W) : C2 p v1 v2 W.drew := h
theorem C2.far (h : C2 p v1 v2 W) {a : Addr} (hp : p ≠ a.block) (v : Value) : C2 p v1 v2 (W.setCell a v) :=
 ⟨(World.cell?_of_block (Below.heap_setCell W a v p hp)).trans h.1, (World.cell?_of_block (Below.heap_setCell W a v p hp)).trans h.2⟩
theorem C2.base (w : World) (v1 v2 : Value) (T : TypeId) : C2 w.heap.size v1 v2 (w.alloc (.cells #[v1, v2] T)) := by refine ⟨?_, ?_⟩ <;> simp [go_sem]
theorem C4.of (h1 : C2 p v1 v2 W) (h2 : C2 (p + 1) v3 v4 W) : C4 p v1 v2 v3 v4 W := ⟨h1.1, h1.2, h2.1, h2.2⟩
theorem C4.alloc (h : C4 p v1 v2 v3 v4 W) (o : Obj) : C4 p v1 v2 v3 v4 (W.alloc o) := C4.of (C2.alloc ⟨h.1, h.2.1⟩ o) (C2.alloc ⟨h.2.2.1, h.2.2.2⟩ o)
theorem C4.below (hb : Below W.heap.size W W') (h : C4 p v1 v2 v3 v4 W) : C4 p v1 v2 v3 v4 W' := C4.of (C2.below hb ⟨h.1, h.2.1⟩) (C2.below hb ⟨h.2.2.1, h.2.2.2⟩)
theorem C4.drew (h : C4 p v1 v2 v3 v4 W) : C4 p v1 v2 v3 v4 W.drew := h
theorem C4.far (h : C4 p v1 v2 v3 v4 W) {a : Addr} (hp : p ≠ a.block) (hq : p + 1 ≠ a.block) (v : Value) : C4 p v1 v2 v3 v4 (W.setCell a v) := C4.of (C2.far ⟨h.1, h.2.1⟩ hp v) (C2.far ⟨h.2.2.1, h.2.2.2⟩ hq v)
theorem C4.base (w : World) (v1 v2 v3 v4 : Value) (T U : TypeId) : C4 w.heap.size v1 v2 v3 v4 ((w.alloc (.cells #[v1, v2] T)).alloc (.cells #[v3, v4] U)) := by
 refine C4.of ((C2.base w v1 v2 T).alloc _) ?_
 have h := C2.base (w.alloc (.cells #[v1, v2] T)) v3 v4 U
 rwa [show (w.alloc (.cells #[v1, v2] T)).heap.size = w.heap.size + 1 by simp] at h
end
end

section
set_option maxHeartbeats 2000000
open Go.RowKit
theorem zsign_any (w : World) (s : Bool) (A : Option Addr) (c : Nat) (xs : List Nat) (z : Int) (ha : Num w A xs) (hx : zv s (val xs) = z) (hn : xs.length ≤ 1000000) (hc : xs.length ≤ c) :
  Calls tz 140 #[.agg #[.bool s, .slice A xs.length c]] w fun e w' => e = .returned (.int .i64 (Int.sign z)) ∧ Below w.heap.size w w' := by
 have HA := lh ha
 have HX := lh hx
 clear ha hx
 go_enter Tryz.func140, Tryz.ntmps140
 go_wp2_with fail
 go_region_held3 (fun W => W.cell? ⟨w.heap.size, 0, none⟩ = some (.bool s) ∧ W.cell? ⟨w.heap.size, 1, none⟩ = some (.slice A xs.length c))
  (first | exact C2.alloc (by assumption) _ | exact C2.drew (C2.base _ _ _ _) | assumption)
  (first
  | (go_at_call 167; (with_reducible refine (signOf_any _ _).mono ?_); rintro e w1 ⟨rfl, rfl⟩)
  | (go_at_call 197; refine (sign1_any _ _ c s A xs ?_ ?_ (by omega) hc).mono ?_; (repeat (first | exact HA.out | (with_reducible refine Num.drew ?_) | (with_reducible refine Num.alloc ?_ _))); (exact Sbx.c (Sbx.new' _ s _ (by simp))); rintro e w2 ⟨rfl, rfl⟩))
 all_goals
  go_wp2_with fail
  go_ret
  rw [HX.out]
  refine ⟨rfl, ?_⟩
  repeat (first | exact Below.refl _ _ | (with_reducible refine Below.drew ?_) | (with_reducible refine Below.alloc ?_ (by first | exact Nat.le_refl _ | (simp; done) | (simp; omega)) _))
def zcmp (y z : Int) : Int := if y < z then -1 else if z < y then 1 else 0
theorem zcmp_lt {y z : Int} (h : y < z) : zcmp y z = -1 := if_pos h
theorem zcmp_gt {y z : Int} (h : z < y) : zcmp y z = 1 := by unfold zcmp; rw [if_neg (by omega), if_pos h]
theorem zcmp_eq (y : Int) : zcmp y y = 0 := by unfold zcmp; rw [if_neg (by omega), if_neg (by omega)]
theorem isnan_any (w : World) (x : Int) : Calls tz 191 #[.int .i64 x] w fun e w' => e = .returned (.bool false) ∧ w = w' := by
 go_enter Tryz.func191, Tryz.ntmps191
 go_wp2
 go_ret
 exact ⟨rfl, rfl⟩
theorem compare_any (w : World) (x y : Int) : Calls tz 152 #[.int .i64 x, .int .i64 y] w fun e w' => e = .returned (.int .i64 (zcmp x y)) ∧ w = w' := by
 rcases Int.lt_trichotomy x y with h | h | h
 ·have hz := lh (zcmp_lt h)
  go_enter Tryz.func152, Tryz.ntmps152
  go_wp2_with fail
  refine (isnan_any _ _).mono ?_
  rintro e w' ⟨rfl, rfl⟩
  go_wp2_with fail
  refine (isnan_any _ _).mono ?_
  rintro e w' ⟨rfl, rfl⟩
  go_wp2_with fail
  go_ret
  exact ⟨by rw [hz.out]; rfl, rfl⟩
 ·subst h
  have hz := lh (zcmp_eq x)
  have h1 : ¬ x < x := by omega
  go_enter Tryz.func152, Tryz.ntmps152
  go_wp2_with fail
  refine (isnan_any _ _).mono ?_
  rintro e w' ⟨rfl, rfl⟩
  go_wp2_with fail
  refine (isnan_any _ _).mono ?_
  rintro e w' ⟨rfl, rfl⟩
  go_wp2_with fail
  go_ret
  exact ⟨by rw [hz.out]; rfl, rfl⟩
 ·have hz := lh (zcmp_gt h)
  have h1 : ¬ x < y := by omega
  go_enter Tryz.func152, Tryz.ntmps152
  go_wp2_with fail
  refine (isnan_any _ _).mono ?_
  rintro e w' ⟨rfl, rfl⟩
  go_wp2_with fail
  refine (isnan_any _ _).mono ?_
  rintro e w' ⟨rfl, rfl⟩
  go_wp2_with fail
  go_ret
  exact ⟨by rw [hz.out]; rfl, rfl⟩
end

section
open Go.RowKit
structure AddAt (w : World) (s t : Bool) (A B : Option Addr) (n m c d p q : Nat) (W : World) : Prop where
 c4 : C4 w.heap.size (.bool s) (.slice A n c) (.bool t) (.slice B m d) W
 sp : Sbx W p s
 sq : Sbx W q t
 res : Ibx W (w.heap.size + 1 + 1) false none 0 0
 bel : Below w.heap.size w W
theorem zadd_same {s : Bool} {a b : Nat} : zv s (a + b) = zv s a + zv s b := by cases s <;> simp [zv] <;> omega
theorem zadd_less {s t : Bool} {a b : Nat} (h : s ≠ t) (hl : a ≤ b) : zv t (b - a) = zv s a + zv t b := by
 cases s <;> cases t <;> first | exact absurd rfl h | (simp [zv]; omega)
theorem zadd_more {s t : Bool} {a b : Nat} (h : s ≠ t) (hl : b ≤ a) : zv s (a - b) = zv s a + zv t b := by
 cases s <;> cases t <;> first | exact absurd rfl h | (simp [zv]; omega)
theorem add_last (w W W3 : World) (s t : Bool) (A B : Option Addr) (n k c d p q : Nat) (sg : Bool) (r c3 m : Nat) (A3 : Option Addr) (h : AddAt w s t A B n k c d p q W) (hr : Sbx W r sg) (hb : Below W.heap.size W W3) (hA3 : Num W3 A3 (dig m)) (hn : (dig m).length ≤ 8589934592) (hc3 : (dig m).length ≤ c3) :
  Calls tz 166 #[.func (.func 197) #[] #[.pointer (some ⟨r, 0, none⟩)], .slice A3 (dig m).length c3] W3
   fun e w4 => e = .returned (.agg #[.bool (zneg (zv sg m)), .slice A3 (dig m).length c3]) ∧ Num w4 A3 (dig m) ∧ Ibx w4 (w.heap.size + 1 + 1) false none 0 0 ∧ Below w.heap.size w w4 ∧ Below W3.heap.size W3 w4 :=
 number_at w W W3 r (w.heap.size + 1 + 1) c3 m sg false A3 none 0 0 hr h.res h.bel hb hA3 hn hc3
set_option maxHeartbeats 4000000 in
theorem zadd_any (w : World) (s t : Bool) (A B : Option Addr) (c d : Nat) (xs ys : List Nat) (y z : Int) (ha : Num w A xs) (hb : Num w B ys) (hx : zv s (val xs) = y) (hy : zv t (val ys) = z) (hn : xs.length ≤ 400000) (hm : ys.length ≤ 400000) (hc : xs.length ≤ c) (hd : ys.length ≤ d) :
  Calls tz 137 #[.agg #[.bool s, .slice A xs.length c], .agg #[.bool t, .slice B ys.length d]] w (RetZ w (y + z)) := by
 have hd1 := dig_length_val ha.1
 have hd2 := dig_length_val hb.1
 have HA := lh ha
 have HB := lh hb
 obtain ⟨a, hva⟩ : ∃ a, val xs = a := ⟨_, rfl⟩
 obtain ⟨b, hvb⟩ : ∃ b, val ys = b := ⟨_, rfl⟩
 rw [hva] at hd1 hx
 rw [hvb] at hd2 hy
 have HX := lh hx
 have HY := lh hy
 have HVA := lh hva
 have HVB := lh hvb
 clear ha hb hx hy hva hvb
 go_enter Tryz.func137, Tryz.ntmps137
 go_upto_region 1 with fail
 go_cut [5, 6] (fun s5 s6 wx => ∃ p q : Nat, s5 = .func (.func 197) #[] #[.pointer (some ⟨p, 0, none⟩)] ∧ s6 = .func (.func 197) #[] #[.pointer (some ⟨q, 0, none⟩)] ∧ AddAt w s t A B xs.length ys.length c d p q wx)
 case first =>
  go_region_held3 (fun W => W.cell? ⟨w.heap.size, 0, none⟩ = some (.bool s) ∧ W.cell? ⟨w.heap.size, 1, none⟩ = some (.slice A xs.length c) ∧ W.cell? ⟨w.heap.size + 1, 0, none⟩ = some (.bool t) ∧ W.cell? ⟨w.heap.size + 1, 1, none⟩ = some (.slice B ys.length d))
   (first | exact C4.alloc (by assumption) _ | exact C4.drew ((C4.base _ _ _ _ _ _ _).alloc _) | assumption)
   (first | (go_at_call 167; (with_reducible refine (signOf_any _ _).mono ?_); rintro e w1 ⟨rfl, rfl⟩))
  all_goals
   go_wp2_with fail
   go_meet
   case rel =>
    refine ⟨_, _, rfl, rfl, ⟨?_, ?_, ?_, ?_, ?_⟩⟩
    ·exact ((C4.drew ((C4.base _ _ _ _ _ _ _).alloc _)).alloc _).alloc _
    ·repeat (first | exact Sbx.new' _ _ _ (by simp) | (with_reducible refine Sbx.drew ?_) | (with_reducible refine Sbx.alloc ?_ _))
    ·repeat (first | exact Sbx.new' _ _ _ (by simp) | (with_reducible refine Sbx.drew ?_) | (with_reducible refine Sbx.alloc ?_ _))
    ·repeat (first | exact Ibx.new' _ _ _ _ _ _ (by simp) | (with_reducible refine Ibx.drew ?_) | (with_reducible refine Ibx.alloc ?_ _))
    ·repeat (first | exact Below.refl _ _ | (with_reducible refine Below.drew ?_) | (with_reducible refine Below.alloc ?_ (by first | exact Nat.le_refl _ | (simp; done) | (simp; omega)) _))
 case rest =>
  obtain ⟨p, q, rfl, rfl, hW⟩ := hcut
  have HW := lh hW
  obtain ⟨k0, k1, k2, k3⟩ := hW.c4
  have HNA := lh (HA.out.below hW.bel)
  have HNB := lh (HB.out.below hW.bel)
  clear hW
  by_cases hst : s = t
  ·subst hst
   have hda := dl_add a b
   have HADD := lh (add_v wc A B c d xs ys a b HNA.out HNB.out HVA.out HVB.out (by omega) (by omega) hc hd)
   have HZ : Hid (zv s (a + b) = y + z) := by show _ = _; rw [← HX.out, ← HY.out]; exact zadd_same
   have hss : (s == s) = true := by simp
   go_wp2_with fail
   refine HADD.out.mono ?_
   rintro e w3 ⟨A3, c3, rfl, hc3, h3, hb3⟩
   have HN := lh (add_last w wc w3 s s A B _ _ c d p q s p c3 (a + b) A3 HW.out HW.out.sp hb3 h3 (by omega) hc3)
   clear h3 hb3
   go_wp2_with fail
   refine HN.out.mono ?_
   rintro e w4 ⟨rfl, n4, I4, hb4, -⟩
   have c0 := I4.c0
   have c1 := I4.c1
   have f0 := I4.f 0
   have f1 := I4.f 1
   have N4 := lh n4
   have J4 := lh I4
   have B4 := lh hb4
   clear n4 I4 hb4 HN
   go_wp2_with fail
   refine bodyPost_ret (v := .agg #[.bool (zneg (zv s (a + b))), .slice A3 (dig (a + b)).length c3]) (by simp [results, Tryz.results137, go_sem, c0, c1]) rfl ?_
   exact retz_of HZ.out hc3 N4.out J4.out (by omega) B4.out _ _ rfl
  ·have hss : (s == t) = false := by simp [hst]
   rcases Nat.lt_or_ge a b with hab | hab
   ·have hcv := cmpv_lt hab
    have HCMP := cmp_v wc A B c d xs ys a b HNA.out HNB.out HVA.out HVB.out (by omega) (by omega) hc hd
    rw [hcv] at HCMP
    have HC := lh HCMP
    have HZ : Hid (zv t (b - a) = y + z) := by show _ = _; rw [← HX.out, ← HY.out]; exact zadd_less hst (Nat.le_of_lt hab)
    have hdl : (dig (b - a)).length ≤ max xs.length ys.length := by
     have h1 : (dig (b - a)).length ≤ (dig (max a b)).length := dl_le (by omega)
     rcases Nat.le_total a b with h2 | h2
     ·rw [Nat.max_eq_right h2] at h1; omega
     ·rw [Nat.max_eq_left h2] at h1; omega
    clear HCMP hcv
    go_wp2_with fail
    refine HC.out.mono ?_
    rintro e w2 ⟨rfl, hb2⟩
    have HB2 := lh hb2
    have k1' : w2.cell? ⟨w.heap.size, 1, none⟩ = some (.slice A xs.length c) := (hb2.cell (block_lt_of_cell k1)).trans k1
    have k3' : w2.cell? ⟨w.heap.size + 1, 1, none⟩ = some (.slice B ys.length d) := (hb2.cell (block_lt_of_cell k3)).trans k3
    have HSUB := lh (sub_v w2 B A d c ys xs b a (HNB.out.below HB2.out) (HNA.out.below HB2.out) HVB.out HVA.out (by omega) (by omega) hd hc)
    clear hb2
    go_wp2_with fail
    refine HSUB.out.mono ?_
    rintro e w3 ⟨A3, c3, rfl, hc3, h3, hb3⟩
    have HN := lh (add_last w wc w3 s t A B _ _ c d p q t q c3 (b - a) A3 HW.out HW.out.sq (HB2.out.trans (hb3.mono HB2.out.size)) h3 (by omega) hc3)
    clear h3 hb3
    go_wp2_with fail
    refine HN.out.mono ?_
    rintro e w4 ⟨rfl, n4, I4, hb4, -⟩
    have c0 := I4.c0
    have c1 := I4.c1
    have f0 := I4.f 0
    have f1 := I4.f 1
    have N4 := lh n4
    have J4 := lh I4
    have B4 := lh hb4
    clear n4 I4 hb4 HN
    go_wp2_with fail
    refine bodyPost_ret (v := .agg #[.bool (zneg (zv t (b - a))), .slice A3 (dig (b - a)).length c3]) (by simp [results, Tryz.results137, go_sem, c0, c1]) rfl ?_
    exact retz_of HZ.out hc3 N4.out J4.out (by omega) B4.out _ _ rfl
   ·obtain ⟨v, hcv, hv0⟩ : ∃ v : Int, cmpv a b = v ∧ ¬ v < 0 := by
     rcases Nat.lt_or_ge b a with h | h
     ·exact ⟨1, cmpv_gt h, by omega⟩
     ·exact ⟨0, cmpv_eq (by omega), by omega⟩
    have HCMP := cmp_v wc A B c d xs ys a b HNA.out HNB.out HVA.out HVB.out (by omega) (by omega) hc hd
    rw [hcv] at HCMP
    have HC := lh HCMP
    have HZ : Hid (zv s (a - b) = y + z) := by show _ = _; rw [← HX.out, ← HY.out]; exact zadd_more hst hab
    have hdl : (dig (a - b)).length ≤ max xs.length ys.length := by
     have h1 : (dig (a - b)).length ≤ (dig (max a b)).length := dl_le (by omega)
     rcases Nat.le_total a b with h2 | h2
     ·rw [Nat.max_eq_right h2] at h1; omega
     ·rw [Nat.max_eq_left h2] at h1; omega
    clear HCMP hcv
    go_wp2_with fail
    refine HC.out.mono ?_
    rintro e w2 ⟨rfl, hb2⟩
    have HB2 := lh hb2
    have k1' : w2.cell? ⟨w.heap.size, 1, none⟩ = some (.slice A xs.length c) := (hb2.cell (block_lt_of_cell k1)).trans k1
    have k3' : w2.cell? ⟨w.heap.size + 1, 1, none⟩ = some (.slice B ys.length d) := (hb2.cell (block_lt_of_cell k3)).trans k3
    have HSUB := lh (sub_v w2 A B c d xs ys a b (HNA.out.below HB2.out) (HNB.out.below HB2.out) HVA.out HVB.out (by omega) (by omega) hc hd)
    clear hb2
    go_wp2_with fail
    refine HSUB.out.mono ?_
    rintro e w3 ⟨A3, c3, rfl, hc3, h3, hb3⟩
    have HN := lh (add_last w wc w3 s t A B _ _ c d p q s p c3 (a - b) A3 HW.out HW.out.sp (HB2.out.trans (hb3.mono HB2.out.size)) h3 (by omega) hc3)
    clear h3 hb3
    go_wp2_with fail
    refine HN.out.mono ?_
    rintro e w4 ⟨rfl, n4, I4, hb4, -⟩
    have c0 := I4.c0
    have c1 := I4.c1
    have f0 := I4.f 0
    have f1 := I4.f 1
    have N4 := lh n4
    have J4 := lh I4
    have B4 := lh hb4
    clear n4 I4 hb4 HN
    go_wp2_with fail
    refine bodyPost_ret (v := .agg #[.bool (zneg (zv s (a - b))), .slice A3 (dig (a - b)).length c3]) (by simp [results, Tryz.results137, go_sem, c0, c1]) rfl ?_
    exact retz_of HZ.out hc3 N4.out J4.out (by omega) B4.out _ _ rfl
end

section
open Go.RowKit
def RetZZ (w : World) (q r : Int) (e : Ending) (w' : World) : Prop :=
 ∃ A c B d, e = .returned (.tuple #[.agg #[.bool (zneg q), .slice A (dig q.natAbs).length c], .agg #[.bool (zneg r), .slice B (dig r.natAbs).length d]]) ∧
  (dig q.natAbs).length ≤ c ∧ (dig r.natAbs).length ≤ d ∧ Num w' A (dig q.natAbs) ∧ Num w' B (dig r.natAbs) ∧ Below w.heap.size w w'
def zrem (y z : Int) : Int := if z = 0 then 0 else y % z
theorem zdm_uniq {y q r : Int} {b : Nat} (hb : 0 < b) (h : r + (b : Int) * q = y) (h0 : 0 ≤ r) (h1 : r < (b : Int)) : y / (b : Int) = q ∧ y % (b : Int) = r :=
 (Int.ediv_emod_unique (by omega)).2 ⟨h, h0, h1⟩
def dq (s : Bool) (a b : Nat) : Nat := if s = true ∧ 0 < dmr a b then dmq a b + 1 else dmq a b
def dr (s : Bool) (a b : Nat) : Nat := if s = true ∧ 0 < dmr a b then b - dmr a b else dmr a b
theorem zdm_eq (s t : Bool) (a b : Nat) : zv (s != t) (dq s a b) = zv s a / zv t b ∧ zv false (dr s a b) = zrem (zv s a) (zv t b) := by
 rcases Nat.eq_zero_or_pos b with hb | hb
 ·subst hb
  have e1 : dmr a 0 = 0 := by unfold dmr; rw [if_pos rfl]
  have e2 : dmq a 0 = 0 := Nat.div_zero a
  unfold dq dr zrem
  rw [e1, e2, if_neg (by omega), if_neg (by omega), zv_zero, zv_zero, zv_zero, Int.ediv_zero, if_pos rfl]
  exact ⟨rfl, rfl⟩
 ·have e1 : dmr a b = a % b := by unfold dmr; rw [if_neg (by omega)]
  have e2 : dmq a b = a / b := rfl
  have hml := Nat.mod_lt a hb
  have hdm := Nat.div_add_mod a b
  obtain ⟨q, hq⟩ : ∃ q, q = a / b := ⟨_, rfl⟩
  obtain ⟨r, hr⟩ : ∃ r, r = a % b := ⟨_, rfl⟩
  rw [← hq, ← hr] at hdm
  rw [← hr] at hml e1
  rw [← hq] at e2
  have hzt : zv t b ≠ 0 := by cases t <;> simp [zv] <;> omega
  have key : zv s (dq s a b) = zv s a / (b : Int) ∧ zv false (dr s a b) = zv s a % (b : Int) := by
   have hdi : (b : Int) * (q : Int) + (r : Int) = (a : Int) := by exact_mod_cast hdm
   cases s with
   | false =>
    have h := zdm_uniq (y := (a : Int)) (q := (q : Int)) (r := (r : Int)) hb (by omega) (by omega) (by omega)
    unfold dq dr
    rw [if_neg (by simp), if_neg (by simp), e1, e2]
    simp only [zv, Bool.false_eq_true, if_false]
    exact ⟨h.1.symm, h.2.symm⟩
   | true =>
    by_cases h0 : 0 < r
    ·have h := zdm_uniq (y := -(a : Int)) (q := -((q : Int) + 1)) (r := (b : Int) - (r : Int)) hb (by rw [Int.mul_neg, Int.mul_add, Int.mul_one]; omega) (by omega) (by omega)
     unfold dq dr
     rw [e1, e2, if_pos ⟨rfl, h0⟩, if_pos ⟨rfl, h0⟩]
     simp only [zv, Bool.false_eq_true, if_false, if_true]
     rw [h.1, h.2]
     constructor <;> omega
    ·have h := zdm_uniq (y := -(a : Int)) (q := -(q : Int)) (r := (r : Int)) hb (by rw [Int.mul_neg]; omega) (by omega) (by omega)
     unfold dq dr
     rw [e1, e2, if_neg (by omega), if_neg (by omega)]
     simp only [zv, Bool.false_eq_true, if_false, if_true]
     exact ⟨h.1.symm, h.2.symm⟩
  unfold zrem
  rw [if_neg hzt]
  cases t with
  | false =>
   rw [Bool.bne_false]
   have e : zv false b = (b : Int) := by simp [zv]
   rw [e]
   exact key
  | true =>
   have e : zv true b = -(b : Int) := by simp [zv]
   rw [e, Int.ediv_neg, Int.emod_neg, ← key.1]
   refine ⟨?_, key.2⟩
   cases s <;> simp [zv]
theorem dq_len (s : Bool) (a b : Nat) : (dig (dq s a b)).length ≤ (dig a).length + 2 := by
 have h : dq s a b ≤ a + 1 := by unfold dq; have := Nat.div_le_self a b; have e : dmq a b = a / b := rfl; split <;> omega
 have h2 := dl_add a 1
 have h3 : (dig 1).length ≤ 1 := dig_length_le (by rw [B64_eq]; omega)
 have h4 := dl_le h
 omega
theorem dr_len (s : Bool) (a b : Nat) : (dig (dr s a b)).length ≤ max (dig a).length (dig b).length := by
 have h : dr s a b ≤ max a b := by
  unfold dr dmr
  have := Nat.mod_le a b
  split <;> split <;> omega
 have h4 := dl_le h
 rcases Nat.le_total a b with h2 | h2
 ·rw [Nat.max_eq_right h2] at h4; omega
 ·rw [Nat.max_eq_left h2] at h4; omega
structure DivAt (w : World) (s t : Bool) (A B : Option Addr) (n m c d : Nat) (A1 A2 : Option Addr) (q r : Nat) (W : World) : Prop where
 c4 : C4 w.heap.size (.bool s) (.slice A n c) (.bool t) (.slice B m d) W
 g1 : Ibx W (w.heap.size + 1 + 1) false none 0 0
 g2 : Ibx W (w.heap.size + 1 + 1 + 1) false none 0 0
 q : Num W A1 (dig q)
 r : Num W A2 (dig r)
 bel : Below w.heap.size w W
theorem retzz_of {w w8 : World} {sq : Bool} {q r c1 c2 : Nat} {y z : Int} {A1 A2 : Option Addr} (hy : zv sq q = y) (hz : zv false r = z) (hc1 : (dig q).length ≤ c1) (hc2 : (dig r).length ≤ c2) (h1 : Num w8 A1 (dig q)) (h2 : Num w8 A2 (dig r)) {g1 g2 : Nat} {s1 s2 : Bool} {B1 B2 : Option Addr} {n1 n2 d1 d2 : Nat}
  (hg1 : Ibx w8 g1 s1 B1 n1 d1) (hg2 : Ibx w8 g2 s2 B2 n2 d2) (hne : g1 ≠ g2) (hw1 : w.heap.size ≤ g1) (hw2 : w.heap.size ≤ g2) (hb : Below w.heap.size w w8) (v0 v1 v2 v3 : Value) :
  RetZZ w y z (.returned (.tuple #[.agg #[.bool (zneg (zv sq q)), .slice A1 (dig q).length c1], .agg #[.bool (zneg (zv false r)), .slice A2 (dig r).length c2]])) ((((w8.setCell ⟨g1, 0, none⟩ v0).setCell ⟨g1, 1, none⟩ v1).setCell ⟨g2, 0, none⟩ v2).setCell ⟨g2, 1, none⟩ v3) := by
 subst hy; subst hz
 have hg2' : Ibx ((w8.setCell ⟨g1, 0, none⟩ v0).setCell ⟨g1, 1, none⟩ v1) g2 s2 B2 n2 d2 := (hg2.far (fun e => hne e.symm) v0).far (fun e => hne e.symm) v1
 refine ⟨A1, c1, A2, c2, by rw [zv_natAbs, zv_natAbs], by rw [zv_natAbs]; exact hc1, by rw [zv_natAbs]; exact hc2, by rw [zv_natAbs]; exact (h1.two hg1 v0 v1).two hg2' v2 v3, by rw [zv_natAbs]; exact (h2.two hg1 v0 v1).two hg2' v2 v3, ?_⟩
 exact (((hb.setCell hw1 _).setCell hw1 _).setCell hw2 _).setCell hw2 _
