/- WAll: several texts in one. -/
import Derived.Test.YtmbnlhedbedcdaaGreatDoorLaws
import Derived.BigRegion
import Derived.BigQuiet
import Derived.StillTailTactics
import Derived.Deep.QuietTactic
import Derived.Deep.RegionHeld3
import Derived.Deep.DeepCutAuto
import Derived.Deep.CutBlock
/- whole: signs and the one form. -/
namespace Go.Proofs.YtmbnlhedbedcdaaGreatDoor
open Go.RowKit

/-- The whole number of a sign and a size. -/
def zv (s : Bool) (m : Nat) : Int := if s then -(m : Int) else (m : Int)
def zneg (z : Int) : Bool := decide (z < 0)
theorem zv_zneg (z : Int) : zv (zneg z) z.natAbs = z := by
  unfold zv zneg
  by_cases h : z < 0
  · rw [decide_eq_true h, if_pos rfl]; omega
  · rw [decide_eq_false h, if_neg (by simp)]; omega
theorem zv_natAbs (s : Bool) (m : Nat) : (zv s m).natAbs = m := by cases s <;> simp [zv]
theorem zv_zero (s : Bool) : zv s 0 = 0 := by cases s <;> simp [zv]
theorem zneg_of {z : Int} {b : Bool} (h : b = true ↔ z < 0) : zneg z = b := by
  unfold zneg
  cases b with
  | true => exact decide_eq_true (h.1 rfl)
  | false => exact decide_eq_false (fun h2 => Bool.noConfusion (h.2 h2))

/-- A whole number in the one form, in memory. -/
def RetZ (w : World) (z : Int) (e : Ending) (w' : World) : Prop :=
  ∃ A c, e = .returned (.agg #[.bool (zneg z), .slice A (dig z.natAbs).length c]) ∧ (dig z.natAbs).length ≤ c ∧ Num w' A (dig z.natAbs) ∧ Below w.heap.size w w'

theorem blen_pos {m : Nat} (h : m ≠ 0) : 0 < blen m := by unfold blen; rw [if_neg h]; omega

set_option maxHeartbeats 400000 in
theorem signOf_any (w : World) (b : Bool) :
    Calls Tryz.prog 45 #[.bool b] w fun e w' => e = .returned (.func (.func 72) #[] #[.pointer (some ⟨w.heap.size, 0, none⟩)]) ∧ w' = w.alloc (.cells #[.bool b] 4) := by
  go_enter Tryz.func45, Tryz.ntmps45
  go_wp2
  go_ret
  exact ⟨rfl, rfl⟩

set_option maxHeartbeats 800000 in
theorem sign1_any (w : World) (p c : Nat) (s : Bool) (A : Option Addr) (xs : List Nat) (ha : Num w A xs) (hp : w.cell? ⟨p, 0, none⟩ = some (.bool s)) (hn : xs.length ≤ 8589934592) (hc : xs.length ≤ c) :
    Calls Tryz.prog 72 #[.slice A xs.length c, .pointer (some ⟨p, 0, none⟩)] w fun e w' => e = .returned (.int .i64 (Int.sign (zv s (val xs)))) ∧ w = w' := by
  have HB := Lib.hid (bits_any w A c xs ha hn hc)
  clear ha
  generalize val xs = m at *
  by_cases h0 : m = 0
  · have hz : (((blen m : Nat) : Int) == 0) = true := by rw [h0, blen_zero]; rfl
    have hs : Hid (Int.sign (zv s m) = 0) := by rw [h0, zv_zero]; rfl
    clear h0
    go_enter Tryz.func72, Tryz.ntmps72
    go_wp2_with fail
    refine HB.out.mono ?_
    rintro e w' ⟨rfl, rfl⟩
    go_wp2_with fail
    go_ret
    rw [hs.out]
    exact ⟨rfl, rfl⟩
  · have hz : (((blen m : Nat) : Int) == 0) = false := by rw [beq_eq_false_iff_ne]; have := blen_pos h0; omega
    cases s with
    | true =>
      have hs : Hid (Int.sign (zv true m) = -1) := by
        have : zv true m < 0 := by simp only [zv, if_true]; omega
        exact Int.sign_eq_neg_one_of_neg this
      clear h0
      go_enter Tryz.func72, Tryz.ntmps72
      go_wp2_with fail
      refine HB.out.mono ?_
      rintro e w' ⟨rfl, rfl⟩
      go_wp2_with fail
      go_ret
      rw [hs.out]
      exact ⟨rfl, rfl⟩
    | false =>
      have hs : Hid (Int.sign (zv false m) = 1) := by
        have : 0 < zv false m := by simp only [zv]; rw [if_neg (by simp)]; omega
        exact Int.sign_eq_one_of_pos this
      clear h0
      go_enter Tryz.func72, Tryz.ntmps72
      go_wp2_with fail
      refine HB.out.mono ?_
      rintro e w' ⟨rfl, rfl⟩
      go_wp2_with fail
      go_ret
      rw [hs.out]
      exact ⟨rfl, rfl⟩

set_option maxHeartbeats 1000000 in
theorem number_any (w : World) (p c m : Nat) (s : Bool) (A : Option Addr) (ha : Num w A (dig m)) (hp : w.cell? ⟨p, 0, none⟩ = some (.bool s)) (hn : (dig m).length ≤ 8589934592) (hc : (dig m).length ≤ c) :
    Calls Tryz.prog 51 #[.func (.func 72) #[] #[.pointer (some ⟨p, 0, none⟩)], .slice A (dig m).length c] w
      fun e w' => e = .returned (.agg #[.bool (zneg (zv s m)), .slice A (dig m).length c]) ∧ Below w.heap.size w w' := by
  have HS := Lib.hid (fun o : Obj => sign1_any (w.alloc o) p c s A (dig m) (ha.alloc o) ((World.cell?_alloc_some _ _ _ (by rw [hp]; rfl)).trans hp) hn hc)
  clear ha
  go_enter Tryz.func51, Tryz.ntmps51
  go_wp2_with fail
  refine (HS.out _).mono ?_
  rintro e w' ⟨rfl, rfl⟩
  rw [val_dig]
  go_wp2_with fail
  refine bodyPost_ret (v := .agg #[.bool (zneg (zv s m)), .slice A (dig m).length c]) (by simp [results, Tryz.results51, go_sem]; rfl) rfl ⟨rfl, ?_⟩
  repeat (first | exact Below.refl _ _ | refine Below.setCell ?_ (by first | (simp; done) | (simp; omega)) _ | refine Below.alloc ?_ (by first | exact Nat.le_refl _ | (simp; done) | (simp; omega)) _)
end Go.Proofs.YtmbnlhedbedcdaaGreatDoor

/- whole: calls of one number. -/
namespace Go.Proofs.YtmbnlhedbedcdaaGreatDoor
open Go.RowKit

/-- Block g is a whole number's struct. -/
def Ibx (w : World) (g : Nat) (s : Bool) (A : Option Addr) (n c : Nat) : Prop := w.heap[g]? = some (.cells #[.bool s, .slice A n c] 24 (0, 0))
section
variable {w w' : World} {g : Nat} {s : Bool} {A : Option Addr} {n c : Nat}
theorem Ibx.lt (h : Ibx w g s A n c) : g < w.heap.size := lt_of_block h
theorem Ibx.c0 (h : Ibx w g s A n c) : w.cell? ⟨g, 0, none⟩ = some (.bool s) := by unfold Ibx at h; rw [cell_of_row w g 0 _ _ _ h]; rfl
theorem Ibx.c1 (h : Ibx w g s A n c) : w.cell? ⟨g, 1, none⟩ = some (.slice A n c) := by unfold Ibx at h; rw [cell_of_row w g 1 _ _ _ h]; rfl
theorem Ibx.f (h : Ibx w g s A n c) (i : Nat) : w.frozen? ⟨g, i, none⟩ = false := frozen_of_row w g i _ _ h
theorem Ibx.alloc (h : Ibx w g s A n c) (o : Obj) : Ibx (w.alloc o) g s A n c := (Below.heap_alloc w o g h.lt).trans h
theorem Ibx.drewN (h : Ibx w g s A n c) (k : Nat) : Ibx (w.drewN k) g s A n c := h
theorem Ibx.drew (h : Ibx w g s A n c) : Ibx w.drew g s A n c := h
theorem Ibx.below (h : Ibx w g s A n c) (hb : Below w.heap.size w w') : Ibx w' g s A n c := (hb.block g h.lt).trans h
theorem Ibx.belowB (h : Ibx w g s A n c) {B : Nat} (hb : Below B w w') (hg : g < B) : Ibx w' g s A n c := (hb.block g hg).trans h
theorem Ibx.new (w : World) (s : Bool) (A : Option Addr) (n c : Nat) : Ibx (w.alloc (.cells #[.bool s, .slice A n c] 24)) w.heap.size s A n c := heap_alloc_new w _
theorem Ibx.new' (w : World) (s : Bool) (A : Option Addr) (n c g : Nat) (hg : g = w.heap.size) : Ibx (w.alloc (.cells #[.bool s, .slice A n c] 24)) g s A n c := by subst hg; exact heap_alloc_new w _
theorem Ibx.two (h : Ibx w g s A n c) (s' : Bool) (A' : Option Addr) (n' c' : Nat) : Ibx ((w.setCell ⟨g, 0, none⟩ (.bool s')).setCell ⟨g, 1, none⟩ (.slice A' n' c')) g s' A' n' c' := by
  unfold Ibx at h ⊢
  rw [heap_setCell_same _ g 1 _ _ _ (heap_setCell_same w g 0 _ _ _ h)]
  rfl
theorem Ibx.far (h : Ibx w g s A n c) {p : Addr} (hp : g ≠ p.block) (v : Value) : Ibx (w.setCell p v) g s A n c := (Below.heap_setCell w p v g hp).trans h
theorem Ibx.far_num (h : Ibx w g s A n c) {B : Option Addr} {xs : List Nat} (hB : Num w B xs) (hn : xs ≠ []) : ∀ p, B = some p → p.block ≠ g := by
  intro p e hg
  obtain ⟨b, off, e2, _, hc⟩ := hB.2 hn
  rw [e] at e2
  have e3 := Option.some.inj e2
  subst e3
  have h0 := hc 0 (List.length_pos_iff.2 hn)
  have hg' : b = g := hg
  subst hg'
  unfold Ibx at h
  rw [cell_of_row w b _ _ _ _ h] at h0
  rcases Nat.lt_or_ge (off + 0) 2 with h2 | h2
  · rcases (show off + 0 = 0 ∨ off + 0 = 1 by omega) with h3 | h3 <;> rw [h3] at h0 <;> cases h0
  · rw [Array.getElem?_eq_none (by simpa using h2)] at h0
    cases h0
theorem Num.two {B : Option Addr} {xs : List Nat} (hB : Num w B xs) (h : Ibx w g s A n c) (v0 v1 : Value) : Num ((w.setCell ⟨g, 0, none⟩ v0).setCell ⟨g, 1, none⟩ v1) B xs :=
  ⟨hB.1, fun hn => by
    have hfar := h.far_num hB hn
    obtain ⟨b, off, e, hlt, hc⟩ := hB.2 hn
    have hbg : b ≠ g := hfar _ e
    refine ⟨b, off, e, by simpa [World.setCell] using hlt, fun i hi => ?_⟩
    exact (World.cell?_of_block ((Below.heap_setCell _ _ _ b hbg).trans (Below.heap_setCell _ _ _ b hbg))).trans (hc i hi)⟩
end

/-- Block g is one cell, a sign. -/
def Sbx (w : World) (g : Nat) (s : Bool) : Prop := w.heap[g]? = some (.cells #[.bool s] 4 (0, 0))
section
variable {w w' : World} {g : Nat} {s : Bool}
theorem Sbx.lt (h : Sbx w g s) : g < w.heap.size := lt_of_block h
theorem Sbx.c (h : Sbx w g s) : w.cell? ⟨g, 0, none⟩ = some (.bool s) := by unfold Sbx at h; rw [cell_of_row w g 0 _ _ _ h]; rfl
theorem Sbx.alloc (h : Sbx w g s) (o : Obj) : Sbx (w.alloc o) g s := (Below.heap_alloc w o g h.lt).trans h
theorem Sbx.drew (h : Sbx w g s) : Sbx w.drew g s := h
theorem Sbx.below (h : Sbx w g s) (hb : Below w.heap.size w w') : Sbx w' g s := (hb.block g h.lt).trans h
theorem Sbx.new' (w : World) (s : Bool) (g : Nat) (hg : g = w.heap.size) : Sbx (w.alloc (.cells #[.bool s] 4)) g s := by subst hg; exact heap_alloc_new w _
theorem Sbx.far (h : Sbx w g s) {p : Addr} (hp : g ≠ p.block) (v : Value) : Sbx (w.setCell p v) g s := (Below.heap_setCell w p v g hp).trans h
end
theorem size_drew (w : World) : w.drew.heap.size = w.heap.size := rfl
theorem Below.of_drew {B : Nat} {w w' : World} (h : Below B w.drew w') : Below B w w' := ⟨h.os, h.tape, h.output, h.size, h.block⟩

/-- number, called behind a call that has told the size; the sign's cell and the result's struct stood before. -/
theorem number_at (w W1 w3 : World) (p g c m : Nat) (s s0 : Bool) (A A0 : Option Addr) (n0 c0 : Nat) (hS : Sbx W1 p s) (hI : Ibx W1 g s0 A0 n0 c0) (hW : Below w.heap.size w W1) (hb3 : Below W1.heap.size W1 w3) (ha : Num w3 A (dig m)) (hn : (dig m).length ≤ 8589934592) (hc : (dig m).length ≤ c) :
    Calls Tryz.prog 51 #[.func (.func 72) #[] #[.pointer (some ⟨p, 0, none⟩)], .slice A (dig m).length c] w3
      fun e w4 => e = .returned (.agg #[.bool (zneg (zv s m)), .slice A (dig m).length c]) ∧ Num w4 A (dig m) ∧ Ibx w4 g s0 A0 n0 c0 ∧ Below w.heap.size w w4 ∧ Below w3.heap.size w3 w4 := by
  refine (number_any w3 p c m s A ha (hS.below hb3).c hn hc).mono ?_
  rintro e w4 ⟨rfl, hb4⟩
  have h3 := hW.trans (hb3.mono hW.size)
  exact ⟨rfl, ha.below hb4, (hI.below hb3).below hb4, h3.trans (hb4.mono h3.size), hb4⟩

theorem retz_of {w w4 wf : World} {s : Bool} {m c g : Nat} {z : Int} {A A0 : Option Addr} {s0 : Bool} {n0 c0 : Nat} (hz : zv s m = z) (hc : (dig m).length ≤ c) (hA : Num w4 A (dig m)) (hg : Ibx w4 g s0 A0 n0 c0) (hgw : w.heap.size ≤ g) (hb : Below w.heap.size w w4)
    (v0 v1 : Value) (hwf : wf = (w4.setCell ⟨g, 0, none⟩ v0).setCell ⟨g, 1, none⟩ v1) : RetZ w z (.returned (.agg #[.bool (zneg (zv s m)), .slice A (dig m).length c])) wf := by
  subst hz
  subst hwf
  refine ⟨A, c, by rw [zv_natAbs], by rw [zv_natAbs]; exact hc, by rw [zv_natAbs]; exact hA.two hg _ _, (hb.setCell hgw _).setCell hgw _⟩

/-- The cells of two whole numbers' structs, one behind the other. -/
def C4 (p : Nat) (v1 v2 v3 v4 : Value) (W : World) : Prop := W.cell? ⟨p, 0, none⟩ = some v1 ∧ W.cell? ⟨p, 1, none⟩ = some v2 ∧ W.cell? ⟨p + 1, 0, none⟩ = some v3 ∧ W.cell? ⟨p + 1, 1, none⟩ = some v4
def C2 (p : Nat) (v1 v2 : Value) (W : World) : Prop := W.cell? ⟨p, 0, none⟩ = some v1 ∧ W.cell? ⟨p, 1, none⟩ = some v2
section
variable {w W W' : World} {p : Nat} {v1 v2 v3 v4 : Value}
theorem C2.alloc (h : C2 p v1 v2 W) (o : Obj) : C2 p v1 v2 (W.alloc o) := ⟨(World.cell?_alloc_some _ _ _ (by rw [h.1]; rfl)).trans h.1, (World.cell?_alloc_some _ _ _ (by rw [h.2]; rfl)).trans h.2⟩
theorem C2.below (hb : Below W.heap.size W W') (h : C2 p v1 v2 W) : C2 p v1 v2 W' := ⟨(hb.cell (block_lt_of_cell h.1)).trans h.1, (hb.cell (block_lt_of_cell h.2)).trans h.2⟩
theorem C2.drew (h : C2 p v1 v2 W) : C2 p v1 v2 W.drew := h
theorem C2.far (h : C2 p v1 v2 W) {a : Addr} (hp : p ≠ a.block) (v : Value) : C2 p v1 v2 (W.setCell a v) :=
  ⟨(World.cell?_of_block (Below.heap_setCell W a v p hp)).trans h.1, (World.cell?_of_block (Below.heap_setCell W a v p hp)).trans h.2⟩
theorem C2.base (w : World) (v1 v2 : Value) (T : TypeId) : C2 w.heap.size v1 v2 (w.alloc (.cells #[v1, v2] T)) := by refine ⟨?_, ?_⟩ <;> simp [go_sem]
theorem C4.of (h1 : C2 p v1 v2 W) (h2 : C2 (p + 1) v3 v4 W) : C4 p v1 v2 v3 v4 W := ⟨h1.1, h1.2, h2.1, h2.2⟩
theorem C4.alloc (h : C4 p v1 v2 v3 v4 W) (o : Obj) : C4 p v1 v2 v3 v4 (W.alloc o) := C4.of (C2.alloc ⟨h.1, h.2.1⟩ o) (C2.alloc ⟨h.2.2.1, h.2.2.2⟩ o)
theorem C4.below (hb : Below W.heap.size W W') (h : C4 p v1 v2 v3 v4 W) : C4 p v1 v2 v3 v4 W' := C4.of (C2.below hb ⟨h.1, h.2.1⟩) (C2.below hb ⟨h.2.2.1, h.2.2.2⟩)
theorem C4.drew (h : C4 p v1 v2 v3 v4 W) : C4 p v1 v2 v3 v4 W.drew := h
theorem C4.far (h : C4 p v1 v2 v3 v4 W) {a : Addr} (hp : p ≠ a.block) (hq : p + 1 ≠ a.block) (v : Value) : C4 p v1 v2 v3 v4 (W.setCell a v) := C4.of (C2.far ⟨h.1, h.2.1⟩ hp v) (C2.far ⟨h.2.2.1, h.2.2.2⟩ hq v)
theorem C4.base (w : World) (v1 v2 v3 v4 : Value) (T U : TypeId) : C4 w.heap.size v1 v2 v3 v4 ((w.alloc (.cells #[v1, v2] T)).alloc (.cells #[v3, v4] U)) := by
  refine C4.of ((C2.base w v1 v2 T).alloc _) ?_
  have h := C2.base (w.alloc (.cells #[v1, v2] T)) v3 v4 U
  rwa [show (w.alloc (.cells #[v1, v2] T)).heap.size = w.heap.size + 1 by simp] at h
end
end Go.Proofs.YtmbnlhedbedcdaaGreatDoor

/- whole: Of, Sign, Cmp, Small. -/
namespace Go.Proofs.YtmbnlhedbedcdaaGreatDoor
open Go.RowKit

set_option maxHeartbeats 2000000 in
theorem zsign_any (w : World) (s : Bool) (A : Option Addr) (c : Nat) (xs : List Nat) (z : Int) (ha : Num w A xs) (hx : zv s (val xs) = z) (hn : xs.length ≤ 1000000) (hc : xs.length ≤ c) :
    Calls Tryz.prog 20 #[.agg #[.bool s, .slice A xs.length c]] w fun e w' => e = .returned (.int .i64 (Int.sign z)) ∧ Below w.heap.size w w' := by
  have HA := Lib.hid ha
  have HX := Lib.hid hx
  clear ha hx
  go_enter Tryz.func20, Tryz.ntmps20
  go_wp2_with fail
  go_region_held3 (fun W => W.cell? ⟨w.heap.size, 0, none⟩ = some (.bool s) ∧ W.cell? ⟨w.heap.size, 1, none⟩ = some (.slice A xs.length c))
   (first | exact C2.alloc (by assumption) _ | exact C2.drew (C2.base _ _ _ _) | assumption)
   (first
    | (go_at_call 45; (with_reducible refine (signOf_any _ _).mono ?_); rintro e w1 ⟨rfl, rfl⟩)
    | (go_at_call 72; refine (sign1_any _ _ c s A xs ?_ ?_ (by omega) hc).mono ?_; (repeat (first | exact HA.out | (with_reducible refine Num.drew ?_) | (with_reducible refine Num.alloc ?_ _))); (exact Sbx.c (Sbx.new' _ s _ (by simp))); rintro e w2 ⟨rfl, rfl⟩))
  all_goals
    go_wp2_with fail
    go_ret
    rw [HX.out]
    refine ⟨rfl, ?_⟩
    repeat (first | exact Below.refl _ _ | (with_reducible refine Below.drew ?_) | (with_reducible refine Below.alloc ?_ (by first | exact Nat.le_refl _ | (simp; done) | (simp; omega)) _))

/-- How y stands to z. -/
def zcmp (y z : Int) : Int := if y < z then -1 else if z < y then 1 else 0
theorem zcmp_lt {y z : Int} (h : y < z) : zcmp y z = -1 := if_pos h
theorem zcmp_gt {y z : Int} (h : z < y) : zcmp y z = 1 := by unfold zcmp; rw [if_neg (by omega), if_pos h]
theorem zcmp_eq (y : Int) : zcmp y y = 0 := by unfold zcmp; rw [if_neg (by omega), if_neg (by omega)]

set_option maxHeartbeats 400000 in
theorem isnan_any (w : World) (x : Int) : Calls Tryz.prog 100 #[.int .i64 x] w fun e w' => e = .returned (.bool false) ∧ w = w' := by
  go_enter Tryz.func100, Tryz.ntmps100
  go_wp2
  go_ret
  exact ⟨rfl, rfl⟩

set_option maxHeartbeats 1000000 in
theorem compare_any (w : World) (x y : Int) : Calls Tryz.prog 79 #[.int .i64 x, .int .i64 y] w fun e w' => e = .returned (.int .i64 (zcmp x y)) ∧ w = w' := by
  rcases Int.lt_trichotomy x y with h | h | h
  · have hz := Lib.hid (zcmp_lt h)
    go_enter Tryz.func79, Tryz.ntmps79
    go_wp2_with fail
    refine (isnan_any _ _).mono ?_
    rintro e w' ⟨rfl, rfl⟩
    go_wp2_with fail
    refine (isnan_any _ _).mono ?_
    rintro e w' ⟨rfl, rfl⟩
    go_wp2_with fail
    go_ret
    exact ⟨by rw [hz.out]; rfl, rfl⟩
  · subst h
    have hz := Lib.hid (zcmp_eq x)
    have h1 : ¬ x < x := by omega
    go_enter Tryz.func79, Tryz.ntmps79
    go_wp2_with fail
    refine (isnan_any _ _).mono ?_
    rintro e w' ⟨rfl, rfl⟩
    go_wp2_with fail
    refine (isnan_any _ _).mono ?_
    rintro e w' ⟨rfl, rfl⟩
    go_wp2_with fail
    go_ret
    exact ⟨by rw [hz.out]; rfl, rfl⟩
  · have hz := Lib.hid (zcmp_gt h)
    have h1 : ¬ x < y := by omega
    go_enter Tryz.func79, Tryz.ntmps79
    go_wp2_with fail
    refine (isnan_any _ _).mono ?_
    rintro e w' ⟨rfl, rfl⟩
    go_wp2_with fail
    refine (isnan_any _ _).mono ?_
    rintro e w' ⟨rfl, rfl⟩
    go_wp2_with fail
    go_ret
    exact ⟨by rw [hz.out]; rfl, rfl⟩

theorem zcmp_sign {y z : Int} (h : y.sign ≠ z.sign) : zcmp y.sign z.sign = zcmp y z := by
  rcases Int.lt_trichotomy y 0 with h1 | h1 | h1 <;> rcases Int.lt_trichotomy z 0 with h2 | h2 | h2
  all_goals
    first
      | rw [Int.sign_eq_neg_one_of_neg h1] at h ⊢
      | rw [Int.sign_eq_one_of_pos h1] at h ⊢
      | rw [h1] at h ⊢
    first
      | rw [Int.sign_eq_neg_one_of_neg h2] at h ⊢
      | rw [Int.sign_eq_one_of_pos h2] at h ⊢
      | rw [h2] at h ⊢
  all_goals first | exact absurd rfl h | skip
  all_goals unfold zcmp
  all_goals simp
  all_goals omega

theorem zcmp_size {s t : Bool} {a b : Nat} (h : (zv s a).sign = (zv t b).sign) : (zv s a).sign * cmpv a b = zcmp (zv s a) (zv t b) := by
  rcases Nat.eq_zero_or_pos a with ha | ha
  · subst ha
    rw [zv_zero] at h ⊢
    have hb : zv t b = 0 := Int.sign_eq_zero_iff_zero.1 h.symm
    rw [hb, zcmp_eq]
    exact Int.zero_mul _
  · have e1 : (zv true a).sign = -1 := Int.sign_eq_neg_one_of_neg (by simp only [zv, if_true]; omega)
    have e2 : (zv false a).sign = 1 := Int.sign_eq_one_of_pos (by simp only [zv]; rw [if_neg (by simp)]; omega)
    have hb : 0 < b := by
      rcases Nat.eq_zero_or_pos b with hb | hb
      · subst hb
        rw [zv_zero t] at h
        cases s
        · rw [e2] at h; exact absurd h (by decide)
        · rw [e1] at h; exact absurd h (by decide)
      · exact hb
    have e3 : (zv true b).sign = -1 := Int.sign_eq_neg_one_of_neg (by simp only [zv, if_true]; omega)
    have e4 : (zv false b).sign = 1 := Int.sign_eq_one_of_pos (by simp only [zv]; rw [if_neg (by simp)]; omega)
    cases s <;> cases t <;> simp only [e1, e2, e3, e4] at h ⊢
    · unfold cmpv zcmp zv
      simp only [Bool.false_eq_true, if_false]
      repeat' split
      all_goals omega
    · exact absurd h (by decide)
    · exact absurd h (by decide)
    · unfold cmpv zcmp zv
      simp only [if_true]
      repeat' split
      all_goals omega
theorem cmpv_bound (a b : Nat) : -1 ≤ cmpv a b ∧ cmpv a b ≤ 1 := by unfold cmpv; repeat' split
                                                                    all_goals omega
theorem zcmp_bound (y z : Int) : -1 ≤ zcmp y z ∧ zcmp y z ≤ 1 := by
  unfold zcmp; repeat' split
  all_goals omega

set_option maxHeartbeats 2000000 in
theorem zcmp_any (w : World) (s t : Bool) (A B : Option Addr) (c d : Nat) (xs ys : List Nat) (y z : Int) (ha : Num w A xs) (hb : Num w B ys) (hx : zv s (val xs) = y) (hy : zv t (val ys) = z) (hn : xs.length ≤ 400000) (hm : ys.length ≤ 400000) (hc : xs.length ≤ c) (hd : ys.length ≤ d) :
    Calls Tryz.prog 83 #[.agg #[.bool s, .slice A xs.length c], .agg #[.bool t, .slice B ys.length d]] w (RetI w (zcmp y z)) := by
  have HA := Lib.hid ha
  have HB := Lib.hid hb
  have HX := Lib.hid hx
  have HY := Lib.hid hy
  by_cases hs : y.sign = z.sign
  · have hw : IntKind.i64.wrap (y.sign * cmpv (val xs) (val ys)) = zcmp y z := by
      have h1 : y.sign * cmpv (val xs) (val ys) = zcmp y z := by rw [← hx, ← hy] at hs ⊢; exact zcmp_size hs
      rw [h1]
      have := zcmp_bound y z
      exact IntWalk.i64_in _ (by omega)
    have hb0 : (y.sign != z.sign) = false := by simp [hs]
    clear ha hb hx hy hs
    go_enter Tryz.func83, Tryz.ntmps83
    go_wp2_with fail
    go_region_held3 (fun W => W.cell? ⟨w.heap.size, 0, none⟩ = some (.bool s) ∧ W.cell? ⟨w.heap.size, 1, none⟩ = some (.slice A xs.length c) ∧ W.cell? ⟨w.heap.size + 1, 0, none⟩ = some (.bool t) ∧ W.cell? ⟨w.heap.size + 1, 1, none⟩ = some (.slice B ys.length d))
     (first | exact C4.below hb2 (by assumption) | exact C4.below hb1 (by assumption) | exact C4.drew (C4.base _ _ _ _ _ _ _) | assumption)
     (first
      | (go_at_call_of 20 (Value.slice A xs.length c); refine (zsign_any _ s A c xs y ?_ HX.out (by omega) hc).mono ?_; (repeat (first | exact HA.out | (with_reducible refine Num.drew ?_) | (with_reducible refine Num.alloc ?_ _))); rintro e w1 ⟨rfl, hb1⟩)
      | (go_at_call_of 20 (Value.slice B ys.length d); refine (zsign_any _ t B d ys z ?_ HY.out (by omega) hd).mono ?_; (refine Num.below ?_ hb1); (repeat (first | exact HB.out | (with_reducible refine Num.drew ?_) | (with_reducible refine Num.alloc ?_ _))); rintro e w2 ⟨rfl, hb2⟩))
    have W2 : Below w.heap.size w w2 := Below.trans (Below.trans (Below.drew (Below.alloc (Below.alloc (Below.refl _ _) (Nat.le_refl _) _) (by simp) _)) (hb1.mono (by simp; omega))) (hb2.mono (Nat.le_trans (by simp; omega) hb1.size))
    obtain ⟨k0, k1, k2, k3⟩ : C4 w.heap.size (.bool s) (.slice A xs.length c) (.bool t) (.slice B ys.length d) w2 := C4.below hb2 (C4.below hb1 (C4.drew (C4.base _ _ _ _ _ _ _)))
    have hwb := Lib.hid W2
    clear W2
    have HC := Lib.hid (cmp_v w2 A B c d xs ys _ _ (by (refine Num.below ?_ hb2); (refine Num.below ?_ hb1); (repeat (first | exact HA.out | (with_reducible refine Num.drew ?_) | (with_reducible refine Num.alloc ?_ _)))) (by (refine Num.below ?_ hb2); (refine Num.below ?_ hb1); (repeat (first | exact HB.out | (with_reducible refine Num.drew ?_) | (with_reducible refine Num.alloc ?_ _)))) rfl rfl (by omega) (by omega) hc hd)
    clear hb1 hb2
    go_wp2_with fail
    refine HC.out.mono ?_
    rintro e w3 ⟨rfl, hb3⟩
    go_wp2_with fail
    go_ret
    exact ⟨rfl, hwb.out.trans (hb3.mono hwb.out.size)⟩
  · have hb0 : (y.sign != z.sign) = true := by simp [hs]
    have hz := Lib.hid (zcmp_sign hs)
    clear ha hb hx hy hs
    go_enter Tryz.func83, Tryz.ntmps83
    go_wp2_with fail
    go_region_held3 (fun W => W.cell? ⟨w.heap.size, 0, none⟩ = some (.bool s) ∧ W.cell? ⟨w.heap.size, 1, none⟩ = some (.slice A xs.length c) ∧ W.cell? ⟨w.heap.size + 1, 0, none⟩ = some (.bool t) ∧ W.cell? ⟨w.heap.size + 1, 1, none⟩ = some (.slice B ys.length d))
     (first | exact C4.below hb2 (by assumption) | exact C4.below hb1 (by assumption) | exact C4.drew (C4.base _ _ _ _ _ _ _) | assumption)
     (first
      | (go_at_call_of 20 (Value.slice A xs.length c); refine (zsign_any _ s A c xs y ?_ HX.out (by omega) hc).mono ?_; (repeat (first | exact HA.out | (with_reducible refine Num.drew ?_) | (with_reducible refine Num.alloc ?_ _))); rintro e w1 ⟨rfl, hb1⟩)
      | (go_at_call_of 20 (Value.slice B ys.length d); refine (zsign_any _ t B d ys z ?_ HY.out (by omega) hd).mono ?_; (refine Num.below ?_ hb1); (repeat (first | exact HB.out | (with_reducible refine Num.drew ?_) | (with_reducible refine Num.alloc ?_ _))); rintro e w2 ⟨rfl, hb2⟩))
    have W2 : Below w.heap.size w w2 := Below.trans (Below.trans (Below.drew (Below.alloc (Below.alloc (Below.refl _ _) (Nat.le_refl _) _) (by simp) _)) (hb1.mono (by simp; omega))) (hb2.mono (Nat.le_trans (by simp; omega) hb1.size))
    obtain ⟨k0, k1, k2, k3⟩ : C4 w.heap.size (.bool s) (.slice A xs.length c) (.bool t) (.slice B ys.length d) w2 := C4.below hb2 (C4.below hb1 (C4.drew (C4.base _ _ _ _ _ _ _)))
    have hwb := Lib.hid W2
    clear W2
    clear hb1 hb2
    go_wp2_with fail
    refine (compare_any _ _ _).mono ?_
    rintro e w3 ⟨rfl, rfl⟩
    go_wp2_with fail
    go_ret
    rw [hz.out]
    exact ⟨rfl, hwb.out⟩
end Go.Proofs.YtmbnlhedbedcdaaGreatDoor

/- whole: Of, Small. -/
namespace Go.Proofs.YtmbnlhedbedcdaaGreatDoor
open Go.RowKit

theorem u64_neg_wrap {n : Int} (h1 : -9223372036854775808 ≤ n) (h2 : n < 0) : IntKind.u64.wrap (-IntKind.u64.wrap n) = ((n.natAbs : Nat) : Int) := by
  rw [IntKind.wrap_u64, IntKind.wrap_u64]; omega
theorem u64_wrap_nonneg {n : Int} (h1 : n ≤ 9223372036854775807) (h2 : 0 ≤ n) : IntKind.u64.wrap n = ((n.natAbs : Nat) : Int) := by
  rw [IntKind.wrap_u64]; omega

theorem Blk.lit1' (w : World) (x : Nat) : Blk (w.alloc (.cells #[.int .u64 (x : Int)] 36)) w.heap.size [x] := Blk.lit w [x]

theorem of_tail (W1 : World) (p : Nat) (z : Int) (hp : p = W1.heap.size) (hlt : z.natAbs < B64) :
    Calls Tryz.prog 52 #[.slice (some ⟨p, 0, none⟩) 1 1] (W1.alloc (.cells #[.int .u64 ((z.natAbs : Nat) : Int)] 36))
      fun e w3 => ∃ A3 c3, e = .returned (.slice A3 (dig z.natAbs).length c3) ∧ (dig z.natAbs).length ≤ c3 ∧ (dig z.natAbs).length ≤ 1 ∧ Num w3 A3 (dig z.natAbs) ∧ Below (W1.alloc (.cells #[.int .u64 ((z.natAbs : Nat) : Int)] 36)).heap.size (W1.alloc (.cells #[.int .u64 ((z.natAbs : Nat) : Int)] 36)) w3 := by
  subst hp
  have hd : Digs [z.natAbs] := Digs.cons hlt Digs.nil
  have h := trim_v (W1.alloc (.cells #[.int .u64 ((z.natAbs : Nat) : Int)] 36)) (some ⟨W1.heap.size, 0, none⟩) 1 [z.natAbs] z.natAbs ((Blk.lit1' W1 z.natAbs).num hd) (by rw [val_cons, val_nil]; omega) (by simp) (by simp)
  refine h.mono ?_
  rintro e w3 ⟨A3, c3, rfl, hc3, h3, hb3⟩
  exact ⟨A3, c3, rfl, hc3, dig_length_le (by rw [Nat.pow_one]; exact hlt), h3, hb3⟩

set_option maxHeartbeats 2000000 in
theorem of_any (w : World) (z : Int) (h1 : -9223372036854775808 ≤ z) (h2 : z ≤ 9223372036854775807) :
    Calls Tryz.prog 29 #[.int .i64 z] w (RetZ w z) := by
  have hlt : z.natAbs < B64 := by rw [B64_eq]; omega
  have HLT := Lib.hid hlt
  clear hlt
  by_cases hs : z < 0
  · have hw1 := u64_neg_wrap h1 hs
    have HZ : Hid (zv true z.natAbs = z) := by show _ = _; simp only [zv, if_true]; omega
    go_enter Tryz.func29, Tryz.ntmps29
    go_wp2_with fail
    refine (signOf_any _ _).mono ?_
    rintro e w1 ⟨rfl, rfl⟩
    have S1 : Sbx ((w.alloc (.cells #[.bool false, .slice none 0 0] 24)).alloc (.cells #[.bool true] 4)) (w.heap.size + 1) true := Sbx.new' _ _ _ (by simp)
    have I1 : Ibx ((w.alloc (.cells #[.bool false, .slice none 0 0] 24)).alloc (.cells #[.bool true] 4)) w.heap.size false none 0 0 := (Ibx.new' _ _ _ _ _ _ rfl).alloc _
    have W1 : Below w.heap.size w ((w.alloc (.cells #[.bool false, .slice none 0 0] 24)).alloc (.cells #[.bool true] 4)) := ((Below.refl _ _).alloc (Nat.le_refl _) _).alloc (by simp) _
    have HS := Lib.hid S1
    have HI := Lib.hid I1
    have HW := Lib.hid W1
    have HT := Lib.hid (of_tail ((w.alloc (.cells #[.bool false, .slice none 0 0] 24)).alloc (.cells #[.bool true] 4)) (w.heap.size + 1 + 1) z (by simp) HLT.out)
    clear S1 I1 W1
    go_wp2_with fail
    refine HT.out.mono ?_
    rintro e w3 ⟨A3, c3, rfl, hc3, hl3, ha3, hb3⟩
    have HN := Lib.hid (number_at w _ w3 (w.heap.size + 1) w.heap.size c3 z.natAbs true false A3 none 0 0 (HS.out.alloc _) (HI.out.alloc _) (HW.out.alloc HW.out.size _) hb3 ha3 (by omega) hc3)
    clear hb3 HS HI HW HT ha3
    go_wp2_with fail
    refine HN.out.mono ?_
    rintro e w4 ⟨rfl, n4, I4, hb4, -⟩
    have c0 := I4.c0
    have c1 := I4.c1
    have f0 := I4.f 0
    have f1 := I4.f 1
    have N4 := Lib.hid n4
    have J4 := Lib.hid I4
    have B4 := Lib.hid hb4
    clear n4 I4 hb4 HN
    go_wp2_with fail
    refine bodyPost_ret (v := .agg #[.bool (zneg (zv true z.natAbs)), .slice A3 (dig z.natAbs).length c3]) (by simp [results, Tryz.results29, go_sem, c0, c1]) rfl ?_
    exact retz_of HZ.out hc3 N4.out J4.out (Nat.le_refl _) B4.out _ _ rfl
  · have hw1 := u64_wrap_nonneg h2 (by omega)
    have HZ : Hid (zv false z.natAbs = z) := by show _ = _; simp only [zv]; rw [if_neg (by simp)]; omega
    go_enter Tryz.func29, Tryz.ntmps29
    go_wp2_with fail
    refine (signOf_any _ _).mono ?_
    rintro e w1 ⟨rfl, rfl⟩
    have S1 : Sbx ((w.alloc (.cells #[.bool false, .slice none 0 0] 24)).alloc (.cells #[.bool false] 4)) (w.heap.size + 1) false := Sbx.new' _ _ _ (by simp)
    have I1 : Ibx ((w.alloc (.cells #[.bool false, .slice none 0 0] 24)).alloc (.cells #[.bool false] 4)) w.heap.size false none 0 0 := (Ibx.new' _ _ _ _ _ _ rfl).alloc _
    have W1 : Below w.heap.size w ((w.alloc (.cells #[.bool false, .slice none 0 0] 24)).alloc (.cells #[.bool false] 4)) := ((Below.refl _ _).alloc (Nat.le_refl _) _).alloc (by simp) _
    have HS := Lib.hid S1
    have HI := Lib.hid I1
    have HW := Lib.hid W1
    have HT := Lib.hid (of_tail ((w.alloc (.cells #[.bool false, .slice none 0 0] 24)).alloc (.cells #[.bool false] 4)) (w.heap.size + 1 + 1) z (by simp) HLT.out)
    clear S1 I1 W1
    go_wp2_with fail
    refine HT.out.mono ?_
    rintro e w3 ⟨A3, c3, rfl, hc3, hl3, ha3, hb3⟩
    have HN := Lib.hid (number_at w _ w3 (w.heap.size + 1) w.heap.size c3 z.natAbs false false A3 none 0 0 (HS.out.alloc _) (HI.out.alloc _) (HW.out.alloc HW.out.size _) hb3 ha3 (by omega) hc3)
    clear hb3 HS HI HW HT ha3
    go_wp2_with fail
    refine HN.out.mono ?_
    rintro e w4 ⟨rfl, n4, I4, hb4, -⟩
    have c0 := I4.c0
    have c1 := I4.c1
    have f0 := I4.f 0
    have f1 := I4.f 1
    have N4 := Lib.hid n4
    have J4 := Lib.hid I4
    have B4 := Lib.hid hb4
    clear n4 I4 hb4 HN
    go_wp2_with fail
    refine bodyPost_ret (v := .agg #[.bool (zneg (zv false z.natAbs)), .slice A3 (dig z.natAbs).length c3]) (by simp [results, Tryz.results29, go_sem, c0, c1]) rfl ?_
    exact retz_of HZ.out hc3 N4.out J4.out (Nat.le_refl _) B4.out _ _ rfl

/-- What Small tells. -/
def smallv (z : Int) : Int := if -9223372036854775808 ≤ z ∧ z ≤ 9223372036854775807 then z else 0
def smallb (z : Int) : Bool := decide (-9223372036854775808 ≤ z ∧ z ≤ 9223372036854775807)

theorem one_digit {xs : List Nat} (hd : Digs xs) (h : val xs < B64) (hp : 0 < xs.length) : val xs = dg xs 0 := by
  cases xs with
  | nil => simp at hp
  | cons x r =>
    rw [val_cons] at h ⊢
    have h1 : val r = 0 := by
      rcases Nat.eq_zero_or_pos (val r) with h2 | h2
      · exact h2
      · have := Nat.mul_le_mul_left B64 h2
        omega
    rw [h1]; rfl
theorem blen_small {m : Nat} : blen m ≤ 64 ↔ m < B64 := by
  constructor
  · intro h
    have h1 := blen_lt m
    have h2 : 2 ^ blen m ≤ 2 ^ 64 := Nat.pow_le_pow_right (by omega) h
    rw [B64_pow]; omega
  · intro h
    exact blen_le_of_lt (by rw [← B64_pow]; exact h)

set_option maxHeartbeats 2000000 in
theorem small_any (w : World) (s : Bool) (A : Option Addr) (c : Nat) (xs : List Nat) (z : Int) (ha : Num w A xs) (hx : zv s (val xs) = z) (hn : xs.length ≤ 1000000) (hc : xs.length ≤ c) :
    Calls Tryz.prog 87 #[.agg #[.bool s, .slice A xs.length c]] w fun e w' => e = .returned (.tuple #[.int .i64 (smallv z), .bool (smallb z)]) ∧ Below w.heap.size w w' := by
  have HB := Lib.hid (fun o => bits_any (w.alloc o) A c xs (ha.alloc o) (by omega) hc)
  have HW : Hid (Below w.heap.size w (w.alloc (.cells #[.bool s, .slice A xs.length c] 24))) := (Below.refl _ _).alloc (Nat.le_refl _) _
  have hdl := dig_length_val ha.1
  obtain ⟨m, hm⟩ : ∃ m, val xs = m := ⟨_, rfl⟩
  rw [hm] at hx hdl HB
  by_cases h0 : m = 0
  · have hz : (((blen m : Nat) : Int) == 0) = true := by rw [h0, blen_zero]; rfl
    have HZ : Hid (z = 0) := by show _ = _; rw [← hx, h0, zv_zero]
    clear ha hx hm h0
    go_enter Tryz.func87, Tryz.ntmps87
    go_wp2_with fail
    refine (HB.out _).mono ?_
    rintro e w' ⟨rfl, rfl⟩
    go_wp2_with fail
    go_ret2
    rw [HZ.out]
    exact ⟨rfl, HW.out⟩
  · have hz : (((blen m : Nat) : Int) == 0) = false := by rw [beq_eq_false_iff_ne]; have := blen_pos h0; omega
    have hxp : 0 < xs.length := by
      rcases Nat.eq_zero_or_pos xs.length with h | h
      · rw [List.length_eq_zero_iff.1 h] at hm; exact absurd hm.symm h0
      · exact h
    have hxp' : (0 : Int) < (xs.length : Int) := by omega
    obtain ⟨b1, o1, rfl, hb1, hcell⟩ := ha.at_ hxp
    have hx0 := hcell 0 hxp
    rw [Nat.add_zero] at hx0
    have hx1 : (w.alloc (.cells #[.bool s, .slice (some ⟨b1, o1, none⟩) xs.length c] 24)).cell? ⟨b1, o1, none⟩ = some (.int .u64 ((dg xs 0 : Nat) : Int)) := (World.cell?_alloc_lt w _ _ hb1).trans hx0
    have hdg := dg_lt ha.1 0
    have h64 : m < B64 → m = dg xs 0 := fun h => hm ▸ one_digit ha.1 (hm ▸ h) hxp
    by_cases hbig : m < B64
    · have hbl := blen_small.2 hbig
      have hbl' : ¬ (64 : Int) < ((blen m : Nat) : Int) := by omega
      have hbd : decide ((64 : Int) < ((blen m : Nat) : Int)) = false := decide_eq_false hbl'
      have hmx := h64 hbig
      rw [← hmx] at hx1
      cases s with
      | false =>
        have hzm : z = (m : Int) := by rw [← hx]; simp [zv]
        by_cases hf : m ≤ 9223372036854775807
        · have g1 : ¬ (9223372036854775807 : Int) < (m : Int) := by omega
          have gd : decide ((9223372036854775807 : Int) < (m : Int)) = false := decide_eq_false g1
          have HV : Hid (smallv z = (m : Int)) := by show _ = _; unfold smallv; rw [if_pos (by omega)]; exact hzm
          have HF : Hid (smallb z = true) := by show _ = _; unfold smallb; exact decide_eq_true (by omega)
          have hwr : IntKind.i64.wrap (m : Int) = (m : Int) := IntWalk.i64_in _ (by omega)
          clear ha hx hm h0 hx0 hcell h64 hmx hzm hbig hdg
          go_enter Tryz.func87, Tryz.ntmps87
          go_wp2_with fail
          refine (HB.out _).mono ?_
          rintro e w' ⟨rfl, rfl⟩
          go_wp2_with fail
          go_ret2
          rw [HV.out, HF.out]
          exact ⟨rfl, HW.out⟩
        · have g1 : (9223372036854775807 : Int) < (m : Int) := by omega
          have gd : decide ((9223372036854775807 : Int) < (m : Int)) = true := decide_eq_true g1
          have HV : Hid (smallv z = 0) := by show _ = _; unfold smallv; rw [if_neg (by omega)]
          have HF : Hid (smallb z = false) := by show _ = _; unfold smallb; exact decide_eq_false (by omega)
          clear ha hx hm h0 hx0 hcell h64 hmx hzm hbig hdg
          go_enter Tryz.func87, Tryz.ntmps87
          go_wp2_with fail
          refine (HB.out _).mono ?_
          rintro e w' ⟨rfl, rfl⟩
          go_wp2_with fail
          go_ret2
          rw [HV.out, HF.out]
          exact ⟨rfl, HW.out⟩
      | true =>
        have hzm : z = -(m : Int) := by rw [← hx]; simp [zv]
        have hw2 : IntKind.u64.wrap ((9223372036854775807 : Int) + 1) = 9223372036854775808 := by rw [IntKind.wrap_u64]; rfl
        by_cases hf : m ≤ 9223372036854775808
        · have g1 : ¬ (9223372036854775808 : Int) < (m : Int) := by omega
          have gd : decide ((9223372036854775808 : Int) < (m : Int)) = false := decide_eq_false g1
          have HV : Hid (smallv z = -(m : Int)) := by show _ = _; unfold smallv; rw [if_pos (by omega)]; exact hzm
          have HF : Hid (smallb z = true) := by show _ = _; unfold smallb; exact decide_eq_true (by omega)
          have hwr : IntKind.i64.wrap (IntKind.u64.wrap (-(m : Int))) = -(m : Int) := by rw [IntKind.wrap_u64, IntKind.wrap_i64]; omega
          clear ha hx hm h0 hx0 hcell h64 hmx hzm hbig hdg
          go_enter Tryz.func87, Tryz.ntmps87
          go_wp2_with fail
          refine (HB.out _).mono ?_
          rintro e w' ⟨rfl, rfl⟩
          go_wp2_with fail
          go_ret2
          rw [HV.out, HF.out]
          exact ⟨rfl, HW.out⟩
        · have g1 : (9223372036854775808 : Int) < (m : Int) := by omega
          have gd : decide ((9223372036854775808 : Int) < (m : Int)) = true := decide_eq_true g1
          have HV : Hid (smallv z = 0) := by show _ = _; unfold smallv; rw [if_neg (by omega)]
          have HF : Hid (smallb z = false) := by show _ = _; unfold smallb; exact decide_eq_false (by omega)
          clear ha hx hm h0 hx0 hcell h64 hmx hzm hbig hdg
          go_enter Tryz.func87, Tryz.ntmps87
          go_wp2_with fail
          refine (HB.out _).mono ?_
          rintro e w' ⟨rfl, rfl⟩
          go_wp2_with fail
          go_ret2
          rw [HV.out, HF.out]
          exact ⟨rfl, HW.out⟩
    · have hbl' : (64 : Int) < ((blen m : Nat) : Int) := by
        have : ¬ blen m ≤ 64 := fun h => hbig (blen_small.1 h)
        omega
      have hbd : decide ((64 : Int) < ((blen m : Nat) : Int)) = true := decide_eq_true hbl'
      have hzm : z < -9223372036854775808 ∨ 9223372036854775807 < z := by
        rw [B64_eq] at hbig
        rw [← hx]
        cases s <;> simp only [zv, if_true, Bool.false_eq_true, if_false] <;> omega
      have HV : Hid (smallv z = 0) := by show _ = _; unfold smallv; rw [if_neg (by omega)]
      have HF : Hid (smallb z = false) := by show _ = _; unfold smallb; exact decide_eq_false (by omega)
      clear ha hx hm h0 hx0 hcell h64 hzm hbig hdg
      cases s with
      | true =>
        have hw2 : IntKind.u64.wrap ((9223372036854775807 : Int) + 1) = 9223372036854775808 := by rw [IntKind.wrap_u64]; rfl
        go_enter Tryz.func87, Tryz.ntmps87
        go_wp2_with fail
        refine (HB.out _).mono ?_
        rintro e w' ⟨rfl, rfl⟩
        go_wp2_with fail
        go_ret2
        rw [HV.out, HF.out]
        exact ⟨rfl, HW.out⟩
      | false =>
        go_enter Tryz.func87, Tryz.ntmps87
        go_wp2_with fail
        refine (HB.out _).mono ?_
        rintro e w' ⟨rfl, rfl⟩
        go_wp2_with fail
        go_ret2
        rw [HV.out, HF.out]
        exact ⟨rfl, HW.out⟩
end Go.Proofs.YtmbnlhedbedcdaaGreatDoor

/- whole: Add, Sub. -/
namespace Go.Proofs.YtmbnlhedbedcdaaGreatDoor
open Go.RowKit

/-- What stands behind Add's first region: two signs, the structs, the result's. -/
structure AddAt (w : World) (s t : Bool) (A B : Option Addr) (n m c d p q : Nat) (W : World) : Prop where
  c4 : C4 w.heap.size (.bool s) (.slice A n c) (.bool t) (.slice B m d) W
  sp : Sbx W p s
  sq : Sbx W q t
  res : Ibx W (w.heap.size + 1 + 1) false none 0 0
  bel : Below w.heap.size w W

theorem zadd_same {s : Bool} {a b : Nat} : zv s (a + b) = zv s a + zv s b := by cases s <;> simp [zv] <;> omega
theorem zadd_less {s t : Bool} {a b : Nat} (h : s ≠ t) (hl : a ≤ b) : zv t (b - a) = zv s a + zv t b := by
  cases s <;> cases t <;> first | exact absurd rfl h | (simp [zv]; omega)
theorem zadd_more {s t : Bool} {a b : Nat} (h : s ≠ t) (hl : b ≤ a) : zv s (a - b) = zv s a + zv t b := by
  cases s <;> cases t <;> first | exact absurd rfl h | (simp [zv]; omega)

/-- The last region of Add, by whichever way: a call that tells the size, number, the store. -/
theorem add_last (w W W3 : World) (s t : Bool) (A B : Option Addr) (n k c d p q : Nat) (sg : Bool) (r c3 m : Nat) (A3 : Option Addr) (h : AddAt w s t A B n k c d p q W) (hr : Sbx W r sg) (hb : Below W.heap.size W W3) (hA3 : Num W3 A3 (dig m)) (hn : (dig m).length ≤ 8589934592) (hc3 : (dig m).length ≤ c3) :
    Calls Tryz.prog 51 #[.func (.func 72) #[] #[.pointer (some ⟨r, 0, none⟩)], .slice A3 (dig m).length c3] W3
      fun e w4 => e = .returned (.agg #[.bool (zneg (zv sg m)), .slice A3 (dig m).length c3]) ∧ Num w4 A3 (dig m) ∧ Ibx w4 (w.heap.size + 1 + 1) false none 0 0 ∧ Below w.heap.size w w4 ∧ Below W3.heap.size W3 w4 :=
  number_at w W W3 r (w.heap.size + 1 + 1) c3 m sg false A3 none 0 0 hr h.res h.bel hb hA3 hn hc3

set_option maxHeartbeats 4000000 in
theorem zadd_any (w : World) (s t : Bool) (A B : Option Addr) (c d : Nat) (xs ys : List Nat) (y z : Int) (ha : Num w A xs) (hb : Num w B ys) (hx : zv s (val xs) = y) (hy : zv t (val ys) = z) (hn : xs.length ≤ 400000) (hm : ys.length ≤ 400000) (hc : xs.length ≤ c) (hd : ys.length ≤ d) :
    Calls Tryz.prog 76 #[.agg #[.bool s, .slice A xs.length c], .agg #[.bool t, .slice B ys.length d]] w (RetZ w (y + z)) := by
  have hd1 := dig_length_val ha.1
  have hd2 := dig_length_val hb.1
  have HA := Lib.hid ha
  have HB := Lib.hid hb
  obtain ⟨a, hva⟩ : ∃ a, val xs = a := ⟨_, rfl⟩
  obtain ⟨b, hvb⟩ : ∃ b, val ys = b := ⟨_, rfl⟩
  rw [hva] at hd1 hx
  rw [hvb] at hd2 hy
  have HX := Lib.hid hx
  have HY := Lib.hid hy
  have HVA := Lib.hid hva
  have HVB := Lib.hid hvb
  clear ha hb hx hy hva hvb
  go_enter Tryz.func76, Tryz.ntmps76
  go_upto_region 1 with fail
  go_cut [5, 6] (fun s5 s6 wx => ∃ p q : Nat, s5 = .func (.func 72) #[] #[.pointer (some ⟨p, 0, none⟩)] ∧ s6 = .func (.func 72) #[] #[.pointer (some ⟨q, 0, none⟩)] ∧ AddAt w s t A B xs.length ys.length c d p q wx)
  case first =>
    go_region_held3 (fun W => W.cell? ⟨w.heap.size, 0, none⟩ = some (.bool s) ∧ W.cell? ⟨w.heap.size, 1, none⟩ = some (.slice A xs.length c) ∧ W.cell? ⟨w.heap.size + 1, 0, none⟩ = some (.bool t) ∧ W.cell? ⟨w.heap.size + 1, 1, none⟩ = some (.slice B ys.length d))
     (first | exact C4.alloc (by assumption) _ | exact C4.drew ((C4.base _ _ _ _ _ _ _).alloc _) | assumption)
     (first | (go_at_call 45; (with_reducible refine (signOf_any _ _).mono ?_); rintro e w1 ⟨rfl, rfl⟩))
    all_goals
      go_wp2_with fail
      go_meet
      case rel =>
        refine ⟨_, _, rfl, rfl, ⟨?_, ?_, ?_, ?_, ?_⟩⟩
        · exact ((C4.drew ((C4.base _ _ _ _ _ _ _).alloc _)).alloc _).alloc _
        · repeat (first | exact Sbx.new' _ _ _ (by simp) | (with_reducible refine Sbx.drew ?_) | (with_reducible refine Sbx.alloc ?_ _))
        · repeat (first | exact Sbx.new' _ _ _ (by simp) | (with_reducible refine Sbx.drew ?_) | (with_reducible refine Sbx.alloc ?_ _))
        · repeat (first | exact Ibx.new' _ _ _ _ _ _ (by simp) | (with_reducible refine Ibx.drew ?_) | (with_reducible refine Ibx.alloc ?_ _))
        · repeat (first | exact Below.refl _ _ | (with_reducible refine Below.drew ?_) | (with_reducible refine Below.alloc ?_ (by first | exact Nat.le_refl _ | (simp; done) | (simp; omega)) _))
  case rest =>
    obtain ⟨p, q, rfl, rfl, hW⟩ := hcut
    have HW := Lib.hid hW
    obtain ⟨k0, k1, k2, k3⟩ := hW.c4
    have HNA := Lib.hid (HA.out.below hW.bel)
    have HNB := Lib.hid (HB.out.below hW.bel)
    clear hW
    by_cases hst : s = t
    · subst hst
      have hda := dl_add a b
      have HADD := Lib.hid (add_v wc A B c d xs ys a b HNA.out HNB.out HVA.out HVB.out (by omega) (by omega) hc hd)
      have HZ : Hid (zv s (a + b) = y + z) := by show _ = _; rw [← HX.out, ← HY.out]; exact zadd_same
      have hss : (s == s) = true := by simp
      go_wp2_with fail
      refine HADD.out.mono ?_
      rintro e w3 ⟨A3, c3, rfl, hc3, h3, hb3⟩
      have HN := Lib.hid (add_last w wc w3 s s A B _ _ c d p q s p c3 (a + b) A3 HW.out HW.out.sp hb3 h3 (by omega) hc3)
      clear h3 hb3
      go_wp2_with fail
      refine HN.out.mono ?_
      rintro e w4 ⟨rfl, n4, I4, hb4, -⟩
      have c0 := I4.c0
      have c1 := I4.c1
      have f0 := I4.f 0
      have f1 := I4.f 1
      have N4 := Lib.hid n4
      have J4 := Lib.hid I4
      have B4 := Lib.hid hb4
      clear n4 I4 hb4 HN
      go_wp2_with fail
      refine bodyPost_ret (v := .agg #[.bool (zneg (zv s (a + b))), .slice A3 (dig (a + b)).length c3]) (by simp [results, Tryz.results76, go_sem, c0, c1]) rfl ?_
      exact retz_of HZ.out hc3 N4.out J4.out (by omega) B4.out _ _ rfl
    · have hss : (s == t) = false := by simp [hst]
      rcases Nat.lt_or_ge a b with hab | hab
      · have hcv := cmpv_lt hab
        have HCMP := cmp_v wc A B c d xs ys a b HNA.out HNB.out HVA.out HVB.out (by omega) (by omega) hc hd
        rw [hcv] at HCMP
        have HC := Lib.hid HCMP
        have HZ : Hid (zv t (b - a) = y + z) := by show _ = _; rw [← HX.out, ← HY.out]; exact zadd_less hst (Nat.le_of_lt hab)
        have hdl : (dig (b - a)).length ≤ max xs.length ys.length := by
          have h1 : (dig (b - a)).length ≤ (dig (max a b)).length := dl_le (by omega)
          rcases Nat.le_total a b with h2 | h2
          · rw [Nat.max_eq_right h2] at h1; omega
          · rw [Nat.max_eq_left h2] at h1; omega
        clear HCMP hcv
        go_wp2_with fail
        refine HC.out.mono ?_
        rintro e w2 ⟨rfl, hb2⟩
        have HB2 := Lib.hid hb2
        have k1' : w2.cell? ⟨w.heap.size, 1, none⟩ = some (.slice A xs.length c) := (hb2.cell (block_lt_of_cell k1)).trans k1
        have k3' : w2.cell? ⟨w.heap.size + 1, 1, none⟩ = some (.slice B ys.length d) := (hb2.cell (block_lt_of_cell k3)).trans k3
        have HSUB := Lib.hid (sub_v w2 B A d c ys xs b a (HNB.out.below HB2.out) (HNA.out.below HB2.out) HVB.out HVA.out (by omega) (by omega) hd hc)
        clear hb2
        go_wp2_with fail
        refine HSUB.out.mono ?_
        rintro e w3 ⟨A3, c3, rfl, hc3, h3, hb3⟩
        have HN := Lib.hid (add_last w wc w3 s t A B _ _ c d p q t q c3 (b - a) A3 HW.out HW.out.sq (HB2.out.trans (hb3.mono HB2.out.size)) h3 (by omega) hc3)
        clear h3 hb3
        go_wp2_with fail
        refine HN.out.mono ?_
        rintro e w4 ⟨rfl, n4, I4, hb4, -⟩
        have c0 := I4.c0
        have c1 := I4.c1
        have f0 := I4.f 0
        have f1 := I4.f 1
        have N4 := Lib.hid n4
        have J4 := Lib.hid I4
        have B4 := Lib.hid hb4
        clear n4 I4 hb4 HN
        go_wp2_with fail
        refine bodyPost_ret (v := .agg #[.bool (zneg (zv t (b - a))), .slice A3 (dig (b - a)).length c3]) (by simp [results, Tryz.results76, go_sem, c0, c1]) rfl ?_
        exact retz_of HZ.out hc3 N4.out J4.out (by omega) B4.out _ _ rfl
      · obtain ⟨v, hcv, hv0⟩ : ∃ v : Int, cmpv a b = v ∧ ¬ v < 0 := by
          rcases Nat.lt_or_ge b a with h | h
          · exact ⟨1, cmpv_gt h, by omega⟩
          · exact ⟨0, cmpv_eq (by omega), by omega⟩
        have HCMP := cmp_v wc A B c d xs ys a b HNA.out HNB.out HVA.out HVB.out (by omega) (by omega) hc hd
        rw [hcv] at HCMP
        have HC := Lib.hid HCMP
        have HZ : Hid (zv s (a - b) = y + z) := by show _ = _; rw [← HX.out, ← HY.out]; exact zadd_more hst hab
        have hdl : (dig (a - b)).length ≤ max xs.length ys.length := by
          have h1 : (dig (a - b)).length ≤ (dig (max a b)).length := dl_le (by omega)
          rcases Nat.le_total a b with h2 | h2
          · rw [Nat.max_eq_right h2] at h1; omega
          · rw [Nat.max_eq_left h2] at h1; omega
        clear HCMP hcv
        go_wp2_with fail
        refine HC.out.mono ?_
        rintro e w2 ⟨rfl, hb2⟩
        have HB2 := Lib.hid hb2
        have k1' : w2.cell? ⟨w.heap.size, 1, none⟩ = some (.slice A xs.length c) := (hb2.cell (block_lt_of_cell k1)).trans k1
        have k3' : w2.cell? ⟨w.heap.size + 1, 1, none⟩ = some (.slice B ys.length d) := (hb2.cell (block_lt_of_cell k3)).trans k3
        have HSUB := Lib.hid (sub_v w2 A B c d xs ys a b (HNA.out.below HB2.out) (HNB.out.below HB2.out) HVA.out HVB.out (by omega) (by omega) hc hd)
        clear hb2
        go_wp2_with fail
        refine HSUB.out.mono ?_
        rintro e w3 ⟨A3, c3, rfl, hc3, h3, hb3⟩
        have HN := Lib.hid (add_last w wc w3 s t A B _ _ c d p q s p c3 (a - b) A3 HW.out HW.out.sp (HB2.out.trans (hb3.mono HB2.out.size)) h3 (by omega) hc3)
        clear h3 hb3
        go_wp2_with fail
        refine HN.out.mono ?_
        rintro e w4 ⟨rfl, n4, I4, hb4, -⟩
        have c0 := I4.c0
        have c1 := I4.c1
        have f0 := I4.f 0
        have f1 := I4.f 1
        have N4 := Lib.hid n4
        have J4 := Lib.hid I4
        have B4 := Lib.hid hb4
        clear n4 I4 hb4 HN
        go_wp2_with fail
        refine bodyPost_ret (v := .agg #[.bool (zneg (zv s (a - b))), .slice A3 (dig (a - b)).length c3]) (by simp [results, Tryz.results76, go_sem, c0, c1]) rfl ?_
        exact retz_of HZ.out hc3 N4.out J4.out (by omega) B4.out _ _ rfl

end Go.Proofs.YtmbnlhedbedcdaaGreatDoor

/- whole: DivMod. -/
namespace Go.Proofs.YtmbnlhedbedcdaaGreatDoor
open Go.RowKit

/-- Two whole numbers in the one form. -/
def RetZZ (w : World) (q r : Int) (e : Ending) (w' : World) : Prop :=
  ∃ A c B d, e = .returned (.tuple #[.agg #[.bool (zneg q), .slice A (dig q.natAbs).length c], .agg #[.bool (zneg r), .slice B (dig r.natAbs).length d]]) ∧
    (dig q.natAbs).length ≤ c ∧ (dig r.natAbs).length ≤ d ∧ Num w' A (dig q.natAbs) ∧ Num w' B (dig r.natAbs) ∧ Below w.heap.size w w'

/-- The rest, 0 by 0. -/
def zrem (y z : Int) : Int := if z = 0 then 0 else y % z

theorem zdm_uniq {y q r : Int} {b : Nat} (hb : 0 < b) (h : r + (b : Int) * q = y) (h0 : 0 ≤ r) (h1 : r < (b : Int)) : y / (b : Int) = q ∧ y % (b : Int) = r :=
  (Int.ediv_emod_unique (by omega)).2 ⟨h, h0, h1⟩

/-- The sizes' quotient and rest, put right. -/
def dq (s : Bool) (a b : Nat) : Nat := if s = true ∧ 0 < dmr a b then dmq a b + 1 else dmq a b
def dr (s : Bool) (a b : Nat) : Nat := if s = true ∧ 0 < dmr a b then b - dmr a b else dmr a b

theorem zdm_eq (s t : Bool) (a b : Nat) : zv (s != t) (dq s a b) = zv s a / zv t b ∧ zv false (dr s a b) = zrem (zv s a) (zv t b) := by
  rcases Nat.eq_zero_or_pos b with hb | hb
  · subst hb
    have e1 : dmr a 0 = 0 := by unfold dmr; rw [if_pos rfl]
    have e2 : dmq a 0 = 0 := Nat.div_zero a
    unfold dq dr zrem
    rw [e1, e2, if_neg (by omega), if_neg (by omega), zv_zero, zv_zero, zv_zero, Int.ediv_zero, if_pos rfl]
    exact ⟨rfl, rfl⟩
  · have e1 : dmr a b = a % b := by unfold dmr; rw [if_neg (by omega)]
    have e2 : dmq a b = a / b := rfl
    have hml := Nat.mod_lt a hb
    have hdm := Nat.div_add_mod a b
    obtain ⟨q, hq⟩ : ∃ q, q = a / b := ⟨_, rfl⟩
    obtain ⟨r, hr⟩ : ∃ r, r = a % b := ⟨_, rfl⟩
    rw [← hq, ← hr] at hdm
    rw [← hr] at hml e1
    rw [← hq] at e2
    have hzt : zv t b ≠ 0 := by cases t <;> simp [zv] <;> omega
    -- the positive divisor
    have key : zv s (dq s a b) = zv s a / (b : Int) ∧ zv false (dr s a b) = zv s a % (b : Int) := by
      have hdi : (b : Int) * (q : Int) + (r : Int) = (a : Int) := by exact_mod_cast hdm
      cases s with
      | false =>
        have h := zdm_uniq (y := (a : Int)) (q := (q : Int)) (r := (r : Int)) hb (by omega) (by omega) (by omega)
        unfold dq dr
        rw [if_neg (by simp), if_neg (by simp), e1, e2]
        simp only [zv, Bool.false_eq_true, if_false]
        exact ⟨h.1.symm, h.2.symm⟩
      | true =>
        by_cases h0 : 0 < r
        · have h := zdm_uniq (y := -(a : Int)) (q := -((q : Int) + 1)) (r := (b : Int) - (r : Int)) hb (by rw [Int.mul_neg, Int.mul_add, Int.mul_one]; omega) (by omega) (by omega)
          unfold dq dr
          rw [e1, e2, if_pos ⟨rfl, h0⟩, if_pos ⟨rfl, h0⟩]
          simp only [zv, Bool.false_eq_true, if_false, if_true]
          rw [h.1, h.2]
          constructor <;> omega
        · have h := zdm_uniq (y := -(a : Int)) (q := -(q : Int)) (r := (r : Int)) hb (by rw [Int.mul_neg]; omega) (by omega) (by omega)
          unfold dq dr
          rw [e1, e2, if_neg (by omega), if_neg (by omega)]
          simp only [zv, Bool.false_eq_true, if_false, if_true]
          exact ⟨h.1.symm, h.2.symm⟩
    unfold zrem
    rw [if_neg hzt]
    cases t with
    | false =>
      rw [Bool.bne_false]
      have e : zv false b = (b : Int) := by simp [zv]
      rw [e]
      exact key
    | true =>
      have e : zv true b = -(b : Int) := by simp [zv]
      rw [e, Int.ediv_neg, Int.emod_neg, ← key.1]
      refine ⟨?_, key.2⟩
      cases s <;> simp [zv]

theorem dq_len (s : Bool) (a b : Nat) : (dig (dq s a b)).length ≤ (dig a).length + 2 := by
  have h : dq s a b ≤ a + 1 := by unfold dq; have := Nat.div_le_self a b; have e : dmq a b = a / b := rfl; split <;> omega
  have h2 := dl_add a 1
  have h3 : (dig 1).length ≤ 1 := dig_length_le (by rw [B64_eq]; omega)
  have h4 := dl_le h
  omega
theorem dr_len (s : Bool) (a b : Nat) : (dig (dr s a b)).length ≤ max (dig a).length (dig b).length := by
  have h : dr s a b ≤ max a b := by
    unfold dr dmr
    have := Nat.mod_le a b
    split <;> split <;> omega
  have h4 := dl_le h
  rcases Nat.le_total a b with h2 | h2
  · rw [Nat.max_eq_right h2] at h4; omega
  · rw [Nat.max_eq_left h2] at h4; omega

/-- What stands ahead of DivMod's last statement. -/
structure DivAt (w : World) (s t : Bool) (A B : Option Addr) (n m c d : Nat) (A1 A2 : Option Addr) (q r : Nat) (W : World) : Prop where
  c4 : C4 w.heap.size (.bool s) (.slice A n c) (.bool t) (.slice B m d) W
  g1 : Ibx W (w.heap.size + 1 + 1) false none 0 0
  g2 : Ibx W (w.heap.size + 1 + 1 + 1) false none 0 0
  q : Num W A1 (dig q)
  r : Num W A2 (dig r)
  bel : Below w.heap.size w W

theorem retzz_of {w w8 : World} {sq : Bool} {q r c1 c2 : Nat} {y z : Int} {A1 A2 : Option Addr} (hy : zv sq q = y) (hz : zv false r = z) (hc1 : (dig q).length ≤ c1) (hc2 : (dig r).length ≤ c2) (h1 : Num w8 A1 (dig q)) (h2 : Num w8 A2 (dig r)) {g1 g2 : Nat} {s1 s2 : Bool} {B1 B2 : Option Addr} {n1 n2 d1 d2 : Nat}
    (hg1 : Ibx w8 g1 s1 B1 n1 d1) (hg2 : Ibx w8 g2 s2 B2 n2 d2) (hne : g1 ≠ g2) (hw1 : w.heap.size ≤ g1) (hw2 : w.heap.size ≤ g2) (hb : Below w.heap.size w w8) (v0 v1 v2 v3 : Value) :
    RetZZ w y z (.returned (.tuple #[.agg #[.bool (zneg (zv sq q)), .slice A1 (dig q).length c1], .agg #[.bool (zneg (zv false r)), .slice A2 (dig r).length c2]])) ((((w8.setCell ⟨g1, 0, none⟩ v0).setCell ⟨g1, 1, none⟩ v1).setCell ⟨g2, 0, none⟩ v2).setCell ⟨g2, 1, none⟩ v3) := by
  subst hy; subst hz
  have hg2' : Ibx ((w8.setCell ⟨g1, 0, none⟩ v0).setCell ⟨g1, 1, none⟩ v1) g2 s2 B2 n2 d2 := (hg2.far (fun e => hne e.symm) v0).far (fun e => hne e.symm) v1
  refine ⟨A1, c1, A2, c2, by rw [zv_natAbs, zv_natAbs], by rw [zv_natAbs]; exact hc1, by rw [zv_natAbs]; exact hc2, by rw [zv_natAbs]; exact (h1.two hg1 v0 v1).two hg2' v2 v3, by rw [zv_natAbs]; exact (h2.two hg1 v0 v1).two hg2' v2 v3, ?_⟩
  exact (((hb.setCell hw1 _).setCell hw1 _).setCell hw2 _).setCell hw2 _
end Go.Proofs.YtmbnlhedbedcdaaGreatDoor

/- whole: DivMod, walked. -/
namespace Go.Proofs.YtmbnlhedbedcdaaGreatDoor
open Go.RowKit

set_option maxRecDepth 10000 in
set_option maxHeartbeats 4000000 in
theorem zdivmod_any (w : World) (s t : Bool) (A B : Option Addr) (c d : Nat) (xs ys : List Nat) (y z : Int) (ha : Num w A xs) (hb : Num w B ys) (hx : zv s (val xs) = y) (hy : zv t (val ys) = z) (hn : xs.length ≤ 400000) (hm : ys.length ≤ 400000) (hc : xs.length ≤ c) (hd : ys.length ≤ d) :
    Calls Tryz.prog 86 #[.agg #[.bool s, .slice A xs.length c], .agg #[.bool t, .slice B ys.length d]] w (RetZZ w (y / z) (zrem y z)) := by
  have hd1 := dig_length_val ha.1
  have hd2 := dig_length_val hb.1
  obtain ⟨a, hva⟩ : ∃ a, val xs = a := ⟨_, rfl⟩
  obtain ⟨b, hvb⟩ : ∃ b, val ys = b := ⟨_, rfl⟩
  rw [hva] at hd1 hx
  rw [hvb] at hd2 hy
  have HA := Lib.hid ha
  have HB := Lib.hid hb
  have HVA := Lib.hid hva
  have HVB := Lib.hid hvb
  obtain ⟨hzq, hzr⟩ := zdm_eq s t a b
  rw [hx, hy] at hzq hzr
  have HZQ := Lib.hid hzq
  have HZR := Lib.hid hzr
  have hqlen := dq_len s a b
  have hrlen := dr_len s a b
  have hql : (dig (dq s a b)).length ≤ 8589934592 := by omega
  have hrl : (dig (dr s a b)).length ≤ 8589934592 := by omega
  have hml : (dig (dmr a b)).length ≤ 1000000 := by
    have h : dmr a b ≤ a := by unfold dmr; have := Nat.mod_le a b; split <;> omega
    have := dl_le h
    omega
  have hmq : (dig (dmq a b)).length ≤ 1000000 := by
    have := dl_le (show dmq a b ≤ a from Nat.div_le_self a b)
    omega
  clear ha hb hx hy hva hvb hzq hzr hqlen hrlen
  go_enter Tryz.func86, Tryz.ntmps86
  go_wp2_with fail
  have HW := Lib.hid (show Below w.heap.size w ((((w.alloc (.cells #[.bool s, .slice A xs.length c] 24)).alloc (.cells #[.bool t, .slice B ys.length d] 24)).alloc (.cells #[.bool false, .slice none 0 0] 24)).alloc (.cells #[.bool false, .slice none 0 0] 24)) from
    ((((Below.refl _ _).alloc (Nat.le_refl _) _).alloc (by simp) _).alloc (by simp; omega) _).alloc (by simp; omega) _)
  have HC4 := Lib.hid (((C4.base w (.bool s) (.slice A xs.length c) (.bool t) (.slice B ys.length d) 24 24).alloc (.cells #[.bool false, .slice none 0 0] 24)).alloc (.cells #[.bool false, .slice none 0 0] 24))
  have HG1 := Lib.hid (show Ibx ((((w.alloc (.cells #[.bool s, .slice A xs.length c] 24)).alloc (.cells #[.bool t, .slice B ys.length d] 24)).alloc (.cells #[.bool false, .slice none 0 0] 24)).alloc (.cells #[.bool false, .slice none 0 0] 24)) (w.heap.size + 1 + 1) false none 0 0 from (Ibx.new' _ _ _ _ _ _ (by simp)).alloc _)
  have HG2 := Lib.hid (show Ibx ((((w.alloc (.cells #[.bool s, .slice A xs.length c] 24)).alloc (.cells #[.bool t, .slice B ys.length d] 24)).alloc (.cells #[.bool false, .slice none 0 0] 24)).alloc (.cells #[.bool false, .slice none 0 0] 24)) (w.heap.size + 1 + 1 + 1) false none 0 0 from Ibx.new' _ _ _ _ _ _ (by simp))
  have HDM := Lib.hid (dm_v ((((w.alloc (.cells #[.bool s, .slice A xs.length c] 24)).alloc (.cells #[.bool t, .slice B ys.length d] 24)).alloc (.cells #[.bool false, .slice none 0 0] 24)).alloc (.cells #[.bool false, .slice none 0 0] 24)) A B c d xs ys a b ((((HA.out.alloc _).alloc _).alloc _).alloc _) ((((HB.out.alloc _).alloc _).alloc _).alloc _) HVA.out HVB.out (by omega) (by omega) hc hd)
  refine HDM.out.mono ?_
  rintro e w1 ⟨Aq, cq, Ar, cr, rfl, hcq, hcr, hq, hr, hb1⟩
  have HC1 := Lib.hid (C4.below hb1 HC4.out)
  have G11 := Lib.hid (HG1.out.below hb1)
  have G21 := Lib.hid (HG2.out.below hb1)
  have HW1 := Lib.hid (HW.out.trans (hb1.mono HW.out.size))
  have HQ := Lib.hid hq
  have HR := Lib.hid hr
  have HNB := Lib.hid (((((HB.out.alloc _).alloc _).alloc _).alloc _ : Num ((((w.alloc (.cells #[.bool s, .slice A xs.length c] 24)).alloc (.cells #[.bool t, .slice B ys.length d] 24)).alloc (.cells #[.bool false, .slice none 0 0] 24)).alloc (.cells #[.bool false, .slice none 0 0] 24)) B ys).below hb1)
  clear hb1 hq hr HDM HW HC4 HG1 HG2
  have HBI := Lib.hid (bits_any w1 Ar cr (dig (dmr a b)) HR.out (by omega) hcr)
  rw [val_dig] at HBI
  go_upto_region 2 with fail
  obtain ⟨k0, k1, k2, k3⟩ := HC1.out
  by_cases hs : s = true ∧ 0 < dmr a b
  · obtain ⟨hs1, hs2⟩ := hs
    have hdq : dmq a b + 1 = dq s a b := by unfold dq; rw [if_pos ⟨hs1, hs2⟩]
    have hdr : b - dmr a b = dr s a b := by unfold dr; rw [if_pos ⟨hs1, hs2⟩]
    have hbp := blen_pos (Nat.pos_iff_ne_zero.1 hs2)
    have hbd : decide ((0 : Int) < ((blen (dmr a b) : Nat) : Int)) = true := decide_eq_true (by omega)
    have hbp' : (0 : Int) < ((blen (dmr a b) : Nat) : Int) := by omega
    have HDQ := Lib.hid hdq
    have HDR := Lib.hid hdr
    clear hdq hdr hs2 hbp
    subst hs1
    rw [Bool.true_bne] at HZQ
    go_wp2_with fail
    refine HBI.out.mono ?_
    rintro e w' ⟨rfl, rfl⟩
    have HL1 : Hid (Num (w1.alloc (.cells #[.int .u64 1] 36)) (some ⟨w1.heap.size, 0, none⟩) [1]) := (Blk.lit1' w1 1).num (Digs.cons (by rw [B64_eq]; omega) Digs.nil)
    go_upto_region 3 with fail
    go_region_held3 (fun W => W.cell? ⟨w.heap.size, 0, none⟩ = some (.bool true) ∧ W.cell? ⟨w.heap.size, 1, none⟩ = some (.slice A xs.length c) ∧ W.cell? ⟨w.heap.size + 1, 0, none⟩ = some (.bool t) ∧ W.cell? ⟨w.heap.size + 1, 1, none⟩ = some (.slice B ys.length d))
     (first | exact C4.below hb4 (by assumption) | exact C4.below hb3 (by assumption) | exact C4.alloc (by assumption) _ | exact C4.drew HC1.out | assumption)
     (first
      | (go_at_call 98; refine (add_v _ Aq (some ⟨w1.heap.size, 0, none⟩) cq 1 (dig (dmq a b)) [1] (dmq a b) 1 ?_ ?_ (val_dig _) (by rw [val_cons, val_nil, Nat.mul_zero]) (by omega) (by simp) hcq (by simp)).mono ?_; (focus (repeat (first | exact HQ.out | (with_reducible refine Num.drew ?_) | (with_reducible refine Num.alloc ?_ _)))); (repeat (first | exact HL1.out | (with_reducible refine Num.drew ?_))); rintro e w3 ⟨A3, c3, rfl, hc3, h3, hb3⟩)
      | (go_at_call 99; refine (sub_v w3 B Ar d cr ys (dig (dmr a b)) b (dmr a b) ?_ ?_ HVB.out (val_dig _) (by omega) (by omega) hd hcr).mono ?_; (refine Num.below ?_ hb3); (repeat (first | exact HNB.out | (with_reducible refine Num.drew ?_) | (with_reducible refine Num.alloc ?_ _))); (refine Num.below ?_ hb3); (repeat (first | exact HR.out | (with_reducible refine Num.drew ?_) | (with_reducible refine Num.alloc ?_ _))); rintro e w4 ⟨A4, c4, rfl, hc4, h4, hb4⟩))
    all_goals
      rw [HDQ.out] at hc3 h3
      rw [HDR.out] at hc4 h4
      have hqc := hc3
      have hrc := hc4
      have hL : DivAt w true t A B xs.length ys.length c d A3 A4 (dq true a b) (dr true a b) w4 := by
        have b1 : Below w1.heap.size w1 (w1.alloc (.cells #[.int .u64 1] 36)).drew := ((Below.refl _ _).alloc (Nat.le_refl _) _).drew
        have b3 := b1.trans (hb3.mono (Nat.le_trans b1.size (Nat.le_refl _)))
        have b4 := b3.trans (hb4.mono b3.size)
        exact ⟨C4.below b4 HC1.out, G11.out.below b4, G21.out.below b4, h3.below hb4, h4, HW1.out.trans (b4.mono HW1.out.size)⟩
      rw [HDQ.out, HDR.out]
      clear hc3 h3 hc4 h4 hb3 hb4
      have HL := Lib.hid hL
      obtain ⟨k0, k1, k2, k3⟩ := hL.c4
      clear hL
      go_wp2_with fail
      refine (signOf_any _ _).mono ?_
      rintro e w5 ⟨rfl, hw5⟩
      have hp5 : w4.heap.size < w5.heap.size := by rw [hw5]; simp
      have S5 : Sbx w5 w4.heap.size (!t) := by rw [hw5]; exact Sbx.new' _ _ _ rfl
      have B5 : Below w4.heap.size w4 w5 := by rw [hw5]; exact (Below.refl _ _).alloc (Nat.le_refl _) _
      clear hw5
      have N5 := Lib.hid (number_at w w5 w5 w4.heap.size (w.heap.size + 1 + 1) c3 (dq true a b) (!t) false A3 none 0 0 S5 (HL.out.g1.below B5) (HL.out.bel.trans (B5.mono HL.out.bel.size)) (Below.refl _ _) (HL.out.q.below B5) hql hqc)
      have R5 := Lib.hid (HL.out.r.below B5)
      have G5 := Lib.hid (HL.out.g2.below B5)
      clear S5 B5
      go_wp2_with fail
      refine N5.out.mono ?_
      rintro e w6 ⟨rfl, n6, I6, hb6, hb56⟩
      have N6 := Lib.hid n6
      have G6 := Lib.hid I6
      have B6 := Lib.hid hb6
      have R6 := Lib.hid (R5.out.below hb56)
      have H6 := Lib.hid (G5.out.below hb56)
      clear n6 I6 hb6 hb56 N5 R5 G5 HL
      go_wp2_with fail
      refine (signOf_any _ _).mono ?_
      rintro e w7 ⟨rfl, hw7⟩
      have S7 : Sbx w7 w6.heap.size false := by rw [hw7]; exact Sbx.new' _ _ _ rfl
      have B7 : Below w6.heap.size w6 w7 := by rw [hw7]; exact (Below.refl _ _).alloc (Nat.le_refl _) _
      clear hw7
      have N7 := Lib.hid (number_at w w7 w7 w6.heap.size (w.heap.size + 1 + 1 + 1) c4 (dr true a b) false false A4 none 0 0 S7 (H6.out.below B7) (B6.out.trans (B7.mono B6.out.size)) (Below.refl _ _) (R6.out.below B7) hrl hrc)
      have Q7 := Lib.hid (N6.out.below B7)
      have F7 := Lib.hid (G6.out.below B7)
      clear S7 B7
      go_wp2_with fail
      refine N7.out.mono ?_
      rintro e w8 ⟨rfl, n8, I8, hb8, hb78⟩
      have J8 := F7.out.below hb78
      have c0 := I8.c0
      have c3' := I8.c1
      have f0 := I8.f 0
      have f1 := I8.f 1
      have e0 := J8.c0
      have e1 := J8.c1
      have h0 := J8.f 0
      have h1 := J8.f 1
      have Q8 := Lib.hid (Q7.out.below hb78)
      have N8 := Lib.hid n8
      have G8 := Lib.hid I8
      have K8 := Lib.hid J8
      have B8 := Lib.hid hb8
      clear n8 I8 J8 hb8 hb78 N7 Q7 F7 N6 G6 R6 H6 B6
      go_wp2_with fail
      refine bodyPost_ret (v := .tuple #[.agg #[.bool (zneg (zv (!t) (dq true a b))), .slice A3 (dig (dq true a b)).length c3], .agg #[.bool (zneg (zv false (dr true a b))), .slice A4 (dig (dr true a b)).length c4]]) (by simp [results, Tryz.results86, go_sem, c0, c3', e0, e1]) rfl ?_
      exact retzz_of HZQ.out HZR.out hqc hrc Q8.out N8.out K8.out G8.out (by omega) (by omega) (by omega) B8.out _ _ _ _
  · have hdq : dmq a b = dq s a b := by unfold dq; rw [if_neg hs]
    have hdr : dmr a b = dr s a b := by unfold dr; rw [if_neg hs]
    rw [hdq]
    rw [hdr]
    rw [hdq] at HQ hcq hmq
    rw [hdr] at HR hcr hml HBI hs
    have hqc := hcq
    have hrc := hcr
    have hL : DivAt w s t A B xs.length ys.length c d Aq Ar (dq s a b) (dr s a b) w1 := ⟨HC1.out, G11.out, G21.out, HQ.out, HR.out, HW1.out⟩
    clear hdq hdr
    cases s with
    | false =>
      rw [Bool.false_bne] at HZQ
      clear hs
      have HL := Lib.hid hL
      obtain ⟨k0, k1, k2, k3⟩ := hL.c4
      clear hL
      go_wp2_with fail
      refine (signOf_any _ _).mono ?_
      rintro e w5 ⟨rfl, hw5⟩
      have hp5 : w1.heap.size < w5.heap.size := by rw [hw5]; simp
      have S5 : Sbx w5 w1.heap.size t := by rw [hw5]; exact Sbx.new' _ _ _ rfl
      have B5 : Below w1.heap.size w1 w5 := by rw [hw5]; exact (Below.refl _ _).alloc (Nat.le_refl _) _
      clear hw5
      have N5 := Lib.hid (number_at w w5 w5 w1.heap.size (w.heap.size + 1 + 1) cq (dq false a b) t false Aq none 0 0 S5 (HL.out.g1.below B5) (HL.out.bel.trans (B5.mono HL.out.bel.size)) (Below.refl _ _) (HL.out.q.below B5) hql hqc)
      have R5 := Lib.hid (HL.out.r.below B5)
      have G5 := Lib.hid (HL.out.g2.below B5)
      clear S5 B5
      go_wp2_with fail
      refine N5.out.mono ?_
      rintro e w6 ⟨rfl, n6, I6, hb6, hb56⟩
      have N6 := Lib.hid n6
      have G6 := Lib.hid I6
      have B6 := Lib.hid hb6
      have R6 := Lib.hid (R5.out.below hb56)
      have H6 := Lib.hid (G5.out.below hb56)
      clear n6 I6 hb6 hb56 N5 R5 G5 HL
      go_wp2_with fail
      refine (signOf_any _ _).mono ?_
      rintro e w7 ⟨rfl, hw7⟩
      have S7 : Sbx w7 w6.heap.size false := by rw [hw7]; exact Sbx.new' _ _ _ rfl
      have B7 : Below w6.heap.size w6 w7 := by rw [hw7]; exact (Below.refl _ _).alloc (Nat.le_refl _) _
      clear hw7
      have N7 := Lib.hid (number_at w w7 w7 w6.heap.size (w.heap.size + 1 + 1 + 1) cr (dr false a b) false false Ar none 0 0 S7 (H6.out.below B7) (B6.out.trans (B7.mono B6.out.size)) (Below.refl _ _) (R6.out.below B7) hrl hrc)
      have Q7 := Lib.hid (N6.out.below B7)
      have F7 := Lib.hid (G6.out.below B7)
      clear S7 B7
      go_wp2_with fail
      refine N7.out.mono ?_
      rintro e w8 ⟨rfl, n8, I8, hb8, hb78⟩
      have J8 := F7.out.below hb78
      have c0 := I8.c0
      have cq' := I8.c1
      have f0 := I8.f 0
      have f1 := I8.f 1
      have e0 := J8.c0
      have e1 := J8.c1
      have h0 := J8.f 0
      have h1 := J8.f 1
      have Q8 := Lib.hid (Q7.out.below hb78)
      have N8 := Lib.hid n8
      have G8 := Lib.hid I8
      have K8 := Lib.hid J8
      have B8 := Lib.hid hb8
      clear n8 I8 J8 hb8 hb78 N7 Q7 F7 N6 G6 R6 H6 B6
      go_wp2_with fail
      refine bodyPost_ret (v := .tuple #[.agg #[.bool (zneg (zv t (dq false a b))), .slice Aq (dig (dq false a b)).length cq], .agg #[.bool (zneg (zv false (dr false a b))), .slice Ar (dig (dr false a b)).length cr]]) (by simp [results, Tryz.results86, go_sem, c0, cq', e0, e1]) rfl ?_
      exact retzz_of HZQ.out HZR.out hqc hrc Q8.out N8.out K8.out G8.out (by omega) (by omega) (by omega) B8.out _ _ _ _
    | true =>
      rw [Bool.true_bne] at HZQ
      have h0 : dr true a b = 0 := Nat.eq_zero_of_not_pos fun h => hs ⟨rfl, h⟩
      have hbl0 : blen (dr true a b) = 0 := by rw [h0, blen_zero]
      rw [hbl0] at HBI
      clear hs h0 hbl0
      go_wp2_with fail
      refine HBI.out.mono ?_
      rintro e w' ⟨rfl, rfl⟩
      have HL := Lib.hid hL
      obtain ⟨k0, k1, k2, k3⟩ := hL.c4
      clear hL
      go_wp2_with fail
      refine (signOf_any _ _).mono ?_
      rintro e w5 ⟨rfl, hw5⟩
      have hp5 : w1.heap.size < w5.heap.size := by rw [hw5]; simp
      have S5 : Sbx w5 w1.heap.size (!t) := by rw [hw5]; exact Sbx.new' _ _ _ rfl
      have B5 : Below w1.heap.size w1 w5 := by rw [hw5]; exact (Below.refl _ _).alloc (Nat.le_refl _) _
      clear hw5
      have N5 := Lib.hid (number_at w w5 w5 w1.heap.size (w.heap.size + 1 + 1) cq (dq true a b) (!t) false Aq none 0 0 S5 (HL.out.g1.below B5) (HL.out.bel.trans (B5.mono HL.out.bel.size)) (Below.refl _ _) (HL.out.q.below B5) hql hqc)
      have R5 := Lib.hid (HL.out.r.below B5)
      have G5 := Lib.hid (HL.out.g2.below B5)
      clear S5 B5
      go_wp2_with fail
      refine N5.out.mono ?_
      rintro e w6 ⟨rfl, n6, I6, hb6, hb56⟩
      have N6 := Lib.hid n6
      have G6 := Lib.hid I6
      have B6 := Lib.hid hb6
      have R6 := Lib.hid (R5.out.below hb56)
      have H6 := Lib.hid (G5.out.below hb56)
      clear n6 I6 hb6 hb56 N5 R5 G5 HL
      go_wp2_with fail
      refine (signOf_any _ _).mono ?_
      rintro e w7 ⟨rfl, hw7⟩
      have S7 : Sbx w7 w6.heap.size false := by rw [hw7]; exact Sbx.new' _ _ _ rfl
      have B7 : Below w6.heap.size w6 w7 := by rw [hw7]; exact (Below.refl _ _).alloc (Nat.le_refl _) _
      clear hw7
      have N7 := Lib.hid (number_at w w7 w7 w6.heap.size (w.heap.size + 1 + 1 + 1) cr (dr true a b) false false Ar none 0 0 S7 (H6.out.below B7) (B6.out.trans (B7.mono B6.out.size)) (Below.refl _ _) (R6.out.below B7) hrl hrc)
      have Q7 := Lib.hid (N6.out.below B7)
      have F7 := Lib.hid (G6.out.below B7)
      clear S7 B7
      go_wp2_with fail
      refine N7.out.mono ?_
      rintro e w8 ⟨rfl, n8, I8, hb8, hb78⟩
      have J8 := F7.out.below hb78
      have c0 := I8.c0
      have cq' := I8.c1
      have f0 := I8.f 0
      have f1 := I8.f 1
      have e0 := J8.c0
      have e1 := J8.c1
      have h0 := J8.f 0
      have h1 := J8.f 1
      have Q8 := Lib.hid (Q7.out.below hb78)
      have N8 := Lib.hid n8
      have G8 := Lib.hid I8
      have K8 := Lib.hid J8
      have B8 := Lib.hid hb8
      clear n8 I8 J8 hb8 hb78 N7 Q7 F7 N6 G6 R6 H6 B6
      go_wp2_with fail
      refine bodyPost_ret (v := .tuple #[.agg #[.bool (zneg (zv (!t) (dq true a b))), .slice Aq (dig (dq true a b)).length cq], .agg #[.bool (zneg (zv false (dr true a b))), .slice Ar (dig (dr true a b)).length cr]]) (by simp [results, Tryz.results86, go_sem, c0, cq', e0, e1]) rfl ?_
      exact retzz_of HZQ.out HZR.out hqc hrc Q8.out N8.out K8.out G8.out (by omega) (by omega) (by omega) B8.out _ _ _ _
end Go.Proofs.YtmbnlhedbedcdaaGreatDoor

/- whole.Gcd. -/
namespace Go.Proofs.YtmbnlhedbedcdaaGreatDoor
open Go.RowKit

set_option maxHeartbeats 4000000 in
theorem zgcd_any (w : World) (s t : Bool) (A B : Option Addr) (c d : Nat) (xs ys : List Nat) (y z : Int) (ha : Num w A xs) (hb : Num w B ys) (hx : zv s (val xs) = y) (hy : zv t (val ys) = z) (hn : xs.length ≤ 400000) (hm : ys.length ≤ 400000) (hc : xs.length ≤ c) (hd : ys.length ≤ d)
    (HG : Hid (∀ W, Num W A xs → Num W B ys → Calls Tryz.prog 85 #[.slice A xs.length c, .slice B ys.length d] W (RetN W (Nat.gcd (val xs) (val ys))))) :
    Calls Tryz.prog 61 #[.agg #[.bool s, .slice A xs.length c], .agg #[.bool t, .slice B ys.length d]] w (RetZ w (((Nat.gcd y.natAbs z.natAbs : Nat) : Int))) := by
  have hd1 := dig_length_val ha.1
  have hd2 := dig_length_val hb.1
  have HA := Lib.hid ha
  have HB := Lib.hid hb
  obtain ⟨a, hva⟩ : ∃ a, val xs = a := ⟨_, rfl⟩
  obtain ⟨b, hvb⟩ : ∃ b, val ys = b := ⟨_, rfl⟩
  rw [hva] at hd1 hx
  rw [hvb] at hd2 hy
  obtain ⟨m, hmm⟩ : ∃ m, m = Nat.gcd a b := ⟨_, rfl⟩
  have hdm : (dig m).length ≤ 8589934592 := by
    have h0 : (dig m).length ≤ max (dig a).length (dig b).length := by
      rw [hmm]
      rcases Nat.eq_zero_or_pos a with h | h
      · rw [h, Nat.gcd_zero_left]; exact Nat.le_max_right _ _
      · exact Nat.le_trans (dl_le (Nat.gcd_le_left b h)) (Nat.le_max_left _ _)
    omega
  have HX : Hid (zv false m = ((Nat.gcd y.natAbs z.natAbs : Nat) : Int)) := by
    show _ = _
    rw [hmm, ← hx, ← hy]
    rw [zv_natAbs, zv_natAbs]; simp [zv]
  have HMM := Lib.hid hmm
  have HVA := Lib.hid hva
  have HVB := Lib.hid hvb
  clear ha hb hx hy hva hvb hmm
  go_enter Tryz.func61, Tryz.ntmps61
  go_wp2_with fail
  go_region_held3 (fun W => W.cell? ⟨w.heap.size, 0, none⟩ = some (.bool s) ∧ W.cell? ⟨w.heap.size, 1, none⟩ = some (.slice A xs.length c) ∧ W.cell? ⟨w.heap.size + 1, 0, none⟩ = some (.bool t) ∧ W.cell? ⟨w.heap.size + 1, 1, none⟩ = some (.slice B ys.length d))
   (first | exact C4.alloc (by assumption) _ | exact C4.below hb34 (by assumption) | exact C4.below hb3 (by assumption) | exact C4.drew ((C4.base _ _ _ _ _ _ _).alloc _) | exact C4.far (C4.far (by assumption) (by first | (simp; done) | (simp; omega)) (by first | (simp; done) | (simp; omega)) _) (by first | (simp; done) | (simp; omega)) (by first | (simp; done) | (simp; omega)) _)
   (first
    | (go_at_call 45; (with_reducible refine (signOf_any _ _).mono ?_); rintro e w1 ⟨rfl, rfl⟩)
    | (go_at_call 85; (have h0 := hc; have h1 := hd; refine (HG.out _ ?_ ?_).mono ?_); (repeat (first | exact HA.out | (with_reducible refine Num.drew ?_) | (with_reducible refine Num.alloc ?_ _))); (repeat (first | exact HB.out | (with_reducible refine Num.drew ?_) | (with_reducible refine Num.alloc ?_ _))); (rw [HVA.out, HVB.out, ← HMM.out]); rintro e w3 ⟨A3, c3, rfl, hc3, ha3, hb3⟩)
    | (go_at_call 51; refine (number_at w _ w3 _ (w.heap.size + 1 + 1) c3 m false false A3 none 0 0 ?_ ?_ ?_ hb3 ha3 (by omega) hc3).mono ?_; (repeat (first | exact Sbx.new' _ _ _ (by simp) | (with_reducible refine Sbx.drew ?_) | (with_reducible refine Sbx.alloc ?_ _))); (repeat (first | exact Ibx.new' _ _ _ _ _ _ (by simp) | (with_reducible refine Ibx.drew ?_) | (with_reducible refine Ibx.alloc ?_ _))); (repeat (first | exact Below.refl _ _ | (with_reducible refine Below.drew ?_) | (with_reducible refine Below.alloc ?_ (by first | exact Nat.le_refl _ | (simp; done) | (simp; omega)) _))); rintro e w4 ⟨rfl, n4, I4, hb4, hb34⟩; have c0 := I4.c0; have c1 := I4.c1; have f0 := I4.f 0; have f1 := I4.f 1))
  all_goals
    go_wp2_with fail
    refine bodyPost_ret (v := .agg #[.bool (zneg (zv false m)), .slice A3 (dig m).length c3]) (by simp [results, Tryz.results61, go_sem, c0, c1]) rfl ?_
    exact retz_of HX.out hc3 n4 I4 (by omega) hb4 _ _ rfl
end Go.Proofs.YtmbnlhedbedcdaaGreatDoor

/- whole.Norm. -/
namespace Go.Proofs.YtmbnlhedbedcdaaGreatDoor
open Go.RowKit

set_option maxHeartbeats 2000000 in
theorem norm_any (w : World) (s : Bool) (A : Option Addr) (c : Nat) (xs : List Nat) (z : Int) (ha : Num w A xs) (hx : zv s (val xs) = z) (hn : xs.length ≤ 1000000) (hc : xs.length ≤ c) :
    Calls Tryz.prog 41 #[.agg #[.bool s, .slice A xs.length c]] w (RetZ w (z)) := by
  have hd := dig_length_val ha.1
  have HA := Lib.hid ha
  obtain ⟨m, hm⟩ : ∃ m, val xs = m := ⟨_, rfl⟩
  have HM := Lib.hid hm
  rw [hm] at hd hx
  have HX : Hid (zv s m = z) := by
    show _ = _
    first | (rw [← hx]; done) | (rw [← hx]; cases s <;> simp [zv])
  clear ha hx hm
  go_enter Tryz.func41, Tryz.ntmps41
  go_wp2_with fail
  go_region_held3 (fun W => W.cell? ⟨w.heap.size, 0, none⟩ = some (.bool s) ∧ W.cell? ⟨w.heap.size, 1, none⟩ = some (.slice A xs.length c))
   (first | exact C2.alloc (by assumption) _ | exact C2.below hb34 (by assumption) | exact C2.below hb3 (by assumption) | exact C2.drew ((C2.base _ _ _ _).alloc _) | exact C2.far (C2.far (by assumption) (by first | (simp; done) | (simp; omega)) _) (by first | (simp; done) | (simp; omega)) _)
   (first
    | (go_at_call 45; (with_reducible refine (signOf_any _ _).mono ?_); rintro e w1 ⟨rfl, rfl⟩)
    | (go_at_call 52; (with_reducible refine (trim_v _ A c xs m ?_ HM.out hn hc).mono ?_); (repeat (first | exact HA.out | (with_reducible refine Num.drew ?_) | (with_reducible refine Num.alloc ?_ _))); rintro e w3 ⟨A3, c3, rfl, hc3, ha3, hb3⟩)
    | (go_at_call 51; refine (number_at w _ w3 _ (w.heap.size + 1) c3 m s false A3 none 0 0 ?_ ?_ ?_ hb3 ha3 (by omega) hc3).mono ?_; (repeat (first | exact Sbx.new' _ _ _ (by simp) | (with_reducible refine Sbx.drew ?_) | (with_reducible refine Sbx.alloc ?_ _))); (repeat (first | exact Ibx.new' _ _ _ _ _ _ (by simp) | (with_reducible refine Ibx.drew ?_) | (with_reducible refine Ibx.alloc ?_ _))); (repeat (first | exact Below.refl _ _ | (with_reducible refine Below.drew ?_) | (with_reducible refine Below.alloc ?_ (by first | exact Nat.le_refl _ | (simp; done) | (simp; omega)) _))); rintro e w4 ⟨rfl, n4, I4, hb4, hb34⟩; have c0 := I4.c0; have c1 := I4.c1; have f0 := I4.f 0; have f1 := I4.f 1))
  all_goals
    go_wp2_with fail
    refine bodyPost_ret (v := .agg #[.bool (zneg (zv s m)), .slice A3 (dig m).length c3]) (by simp [results, Tryz.results41, go_sem, c0, c1]) rfl ?_
    exact retz_of HX.out hc3 n4 I4 (by omega) hb4 _ _ rfl
end Go.Proofs.YtmbnlhedbedcdaaGreatDoor

/- whole.Neg. -/
namespace Go.Proofs.YtmbnlhedbedcdaaGreatDoor
open Go.RowKit

end Go.Proofs.YtmbnlhedbedcdaaGreatDoor

/- whole.Abs. -/
namespace Go.Proofs.YtmbnlhedbedcdaaGreatDoor
open Go.RowKit

end Go.Proofs.YtmbnlhedbedcdaaGreatDoor

/- whole.Mul. -/
namespace Go.Proofs.YtmbnlhedbedcdaaGreatDoor
open Go.RowKit

set_option maxHeartbeats 4000000 in
theorem zmul_any (w : World) (s t : Bool) (A B : Option Addr) (c d : Nat) (xs ys : List Nat) (y z : Int) (ha : Num w A xs) (hb : Num w B ys) (hx : zv s (val xs) = y) (hy : zv t (val ys) = z) (hn : xs.length ≤ 400000) (hm : ys.length ≤ 400000) (hc : xs.length ≤ c) (hd : ys.length ≤ d) :
    Calls Tryz.prog 53 #[.agg #[.bool s, .slice A xs.length c], .agg #[.bool t, .slice B ys.length d]] w (RetZ w (y * z)) := by
  have hd1 := dig_length_val ha.1
  have hd2 := dig_length_val hb.1
  have HA := Lib.hid ha
  have HB := Lib.hid hb
  obtain ⟨a, hva⟩ : ∃ a, val xs = a := ⟨_, rfl⟩
  obtain ⟨b, hvb⟩ : ∃ b, val ys = b := ⟨_, rfl⟩
  rw [hva] at hd1 hx
  rw [hvb] at hd2 hy
  obtain ⟨m, hmm⟩ : ∃ m, m = a * b := ⟨_, rfl⟩
  have hdm : (dig m).length ≤ 8589934592 := by
    rw [hmm]; have := dl_mul a b; omega
  have HX : Hid (zv (s != t) m = y * z) := by
    show _ = _
    rw [hmm, ← hx, ← hy]
    cases s <;> cases t <;> simp [zv, Int.neg_mul, Int.mul_neg]
  have HMM := Lib.hid hmm
  have HVA := Lib.hid hva
  have HVB := Lib.hid hvb
  clear ha hb hx hy hva hvb hmm
  go_enter Tryz.func53, Tryz.ntmps53
  go_wp2_with fail
  go_region_held3 (fun W => W.cell? ⟨w.heap.size, 0, none⟩ = some (.bool s) ∧ W.cell? ⟨w.heap.size, 1, none⟩ = some (.slice A xs.length c) ∧ W.cell? ⟨w.heap.size + 1, 0, none⟩ = some (.bool t) ∧ W.cell? ⟨w.heap.size + 1, 1, none⟩ = some (.slice B ys.length d))
   (first | exact C4.alloc (by assumption) _ | exact C4.below hb34 (by assumption) | exact C4.below hb3 (by assumption) | exact C4.drew ((C4.base _ _ _ _ _ _ _).alloc _) | exact C4.far (C4.far (by assumption) (by first | (simp; done) | (simp; omega)) (by first | (simp; done) | (simp; omega)) _) (by first | (simp; done) | (simp; omega)) (by first | (simp; done) | (simp; omega)) _)
   (first
    | (go_at_call 45; (with_reducible refine (signOf_any _ _).mono ?_); rintro e w1 ⟨rfl, rfl⟩)
    | (go_at_call 71; (refine (mul_v _ A B c d xs ys a b ?_ ?_ HVA.out HVB.out (by omega) (by omega) hc hd).mono ?_); (repeat (first | exact HA.out | (with_reducible refine Num.drew ?_) | (with_reducible refine Num.alloc ?_ _))); (repeat (first | exact HB.out | (with_reducible refine Num.drew ?_) | (with_reducible refine Num.alloc ?_ _))); (rw [← HMM.out]); rintro e w3 ⟨A3, c3, rfl, hc3, ha3, hb3⟩)
    | (go_at_call 51; refine (number_at w _ w3 _ (w.heap.size + 1 + 1) c3 m (s != t) false A3 none 0 0 ?_ ?_ ?_ hb3 ha3 (by omega) hc3).mono ?_; (repeat (first | exact Sbx.new' _ _ _ (by simp) | (with_reducible refine Sbx.drew ?_) | (with_reducible refine Sbx.alloc ?_ _))); (repeat (first | exact Ibx.new' _ _ _ _ _ _ (by simp) | (with_reducible refine Ibx.drew ?_) | (with_reducible refine Ibx.alloc ?_ _))); (repeat (first | exact Below.refl _ _ | (with_reducible refine Below.drew ?_) | (with_reducible refine Below.alloc ?_ (by first | exact Nat.le_refl _ | (simp; done) | (simp; omega)) _))); rintro e w4 ⟨rfl, n4, I4, hb4, hb34⟩; have c0 := I4.c0; have c1 := I4.c1; have f0 := I4.f 0; have f1 := I4.f 1))
  all_goals
    go_wp2_with fail
    refine bodyPost_ret (v := .agg #[.bool (zneg (zv (s != t) m)), .slice A3 (dig m).length c3]) (by simp [results, Tryz.results53, go_sem, c0, c1]) rfl ?_
    exact retz_of HX.out hc3 n4 I4 (by omega) hb4 _ _ rfl
end Go.Proofs.YtmbnlhedbedcdaaGreatDoor

/- whole's law: what its helpers answer. -/
namespace Go.Proofs.YtmbnlhedbedcdaaGreatDoor
open Go.RowKit

/-- How many digits a whole number has. -/
abbrev zl (z : Int) : Nat := (dig z.natAbs).length
theorem zl_add (y z : Int) : zl (y + z) ≤ zl y + zl z + 1 := Nat.le_trans (dl_le (Int.natAbs_add_le y z)) (dl_add _ _)
theorem zl_sub (y z : Int) : zl (y - z) ≤ zl y + zl z + 1 := Nat.le_trans (dl_le (Int.natAbs_sub_le y z)) (dl_add _ _)
theorem zl_mul (y z : Int) : zl (y * z) ≤ zl y + zl z := by unfold zl; rw [Int.natAbs_mul]; exact dl_mul _ _
theorem zl_neg (z : Int) : zl (-z) = zl z := by unfold zl; rw [Int.natAbs_neg]
theorem zl_abs (z : Int) : zl ((z.natAbs : Nat) : Int) = zl z := by unfold zl; rw [Int.natAbs_natCast]
theorem zl_div (y z : Int) : zl (y / z) ≤ zl y + 2 := by
  have h := dq_len (zneg y) y.natAbs z.natAbs
  have h2 := (zdm_eq (zneg y) (zneg z) y.natAbs z.natAbs).1
  rw [zv_zneg, zv_zneg] at h2
  unfold zl
  rw [← h2, zv_natAbs]
  exact h
theorem zl_rem (y z : Int) : zl (zrem y z) ≤ max (zl y) (zl z) := by
  have h := dr_len (zneg y) y.natAbs z.natAbs
  have h2 := (zdm_eq (zneg y) (zneg z) y.natAbs z.natAbs).2
  rw [zv_zneg, zv_zneg] at h2
  unfold zl
  rw [← h2, zv_natAbs]
  exact h
theorem zl_val {s : Bool} {xs : List Nat} {z : Int} (hd : Digs xs) (h : zv s (val xs) = z) : zl z ≤ xs.length := by
  unfold zl; rw [← h, zv_natAbs]; exact dig_length_val hd
theorem zv_dig (z : Int) : zv (zneg z) (val (dig z.natAbs)) = z := by rw [val_dig, zv_zneg]

set_option maxHeartbeats 1000000 in
theorem same2_any (w : World) (A B : Option Addr) (c d : Nat) (y z : Int) (ha : Num w A (dig y.natAbs)) (hb : Num w B (dig z.natAbs)) (e : y = z) (hn : zl y ≤ 1000000) :
    Calls Tryz.prog 60 #[.agg #[.bool (zneg y), .slice A (dig y.natAbs).length c], .agg #[.bool (zneg z), .slice B (dig z.natAbs).length d]] w (RetB w true) := by
  subst e
  have HS := Lib.hid (fun o1 o2 => same_v ((w.alloc o1).alloc o2) A B c d y.natAbs y.natAbs ((ha.alloc _).alloc _) ((hb.alloc _).alloc _) rfl hn)
  have HW := Lib.hid (fun o1 o2 => (((Below.refl w.heap.size w).alloc (Nat.le_refl _) o1).alloc (by simp) o2 : Below w.heap.size w ((w.alloc o1).alloc o2)))
  clear ha hb hn
  go_enter Tryz.func60, Tryz.ntmps60
  go_wp2_with fail
  refine (HS.out _ _).mono ?_
  rintro e w1 ⟨rfl, hb1⟩
  go_wp2_with fail
  go_ret
  exact ⟨rfl, (HW.out _ _).trans (hb1.mono (HW.out _ _).size)⟩

end Go.Proofs.YtmbnlhedbedcdaaGreatDoor

/- whole: contracts in the form in which a law's row of calls meets them. -/
namespace Go.Proofs.YtmbnlhedbedcdaaGreatDoor
open Go.RowKit

section
variable (w : World) (s t : Bool) (A B : Option Addr) (c d : Nat) (xs ys : List Nat) (y z : Int) (ha : Num w A xs) (hb : Num w B ys) (hx : zv s (val xs) = y) (hy : zv t (val ys) = z) (hn : xs.length ≤ 400000) (hm : ys.length ≤ 400000) (hc : xs.length ≤ c) (hd : ys.length ≤ d)
include ha hb hx hy hn hm hc hd
theorem add_z (r : Int) (hr : y + z = r) : Calls Tryz.prog 76 #[.agg #[.bool s, .slice A xs.length c], .agg #[.bool t, .slice B ys.length d]] w (RetZ w r) := by subst hr; exact zadd_any w s t A B c d xs ys y z ha hb hx hy hn hm hc hd
theorem mul_z (r : Int) (hr : y * z = r) : Calls Tryz.prog 53 #[.agg #[.bool s, .slice A xs.length c], .agg #[.bool t, .slice B ys.length d]] w (RetZ w r) := by subst hr; exact zmul_any w s t A B c d xs ys y z ha hb hx hy hn hm hc hd
theorem cmp_z (r : Int) (hr : zcmp y z = r) : Calls Tryz.prog 83 #[.agg #[.bool s, .slice A xs.length c], .agg #[.bool t, .slice B ys.length d]] w (RetI w r) := by subst hr; exact zcmp_any w s t A B c d xs ys y z ha hb hx hy hn hm hc hd
theorem divmod_z (q r : Int) (hq : y / z = q) (hr : zrem y z = r) : Calls Tryz.prog 86 #[.agg #[.bool s, .slice A xs.length c], .agg #[.bool t, .slice B ys.length d]] w (RetZZ w q r) := by subst hq; subst hr; exact zdivmod_any w s t A B c d xs ys y z ha hb hx hy hn hm hc hd
/-- Where the lesser of the two has one digit at most. -/
theorem gcd_z (r : Int) (hs : (dig (min (val xs) (val ys))).length ≤ 1) (hr : ((Nat.gcd y.natAbs z.natAbs : Nat) : Int) = r) : Calls Tryz.prog 61 #[.agg #[.bool s, .slice A xs.length c], .agg #[.bool t, .slice B ys.length d]] w (RetZ w r) := by
  subst hr
  exact zgcd_any w s t A B c d xs ys y z ha hb hx hy hn hm hc hd (fun W h1 h2 => gcd_small W A B c d xs ys h1 h2 (by omega) (by omega) hc hd hs)
end
section
variable (w : World) (s : Bool) (A : Option Addr) (c : Nat) (xs : List Nat) (z : Int) (ha : Num w A xs) (hx : zv s (val xs) = z) (hn : xs.length ≤ 400000) (hc : xs.length ≤ c)
include ha hx hn hc
theorem norm_z (r : Int) (hr : z = r) : Calls Tryz.prog 41 #[.agg #[.bool s, .slice A xs.length c]] w (RetZ w r) := by subst hr; exact norm_any w s A c xs z ha hx (by omega) hc
theorem sign_z (r : Int) (hr : z.sign = r) : Calls Tryz.prog 20 #[.agg #[.bool s, .slice A xs.length c]] w (RetI w r) := by subst hr; exact zsign_any w s A c xs z ha hx (by omega) hc
end
theorem of_z (w : World) (n r : Int) (hr : n = r) (h1 : -9223372036854775808 ≤ r) (h2 : r ≤ 9223372036854775807) : Calls Tryz.prog 29 #[.int .i64 n] w (RetZ w r) := by subst hr; exact of_any w n h1 h2
theorem zl_small {z : Int} (h1 : -9223372036854775808 ≤ z) (h2 : z ≤ 9223372036854775807) : zl z ≤ 1 := dig_length_le (by rw [B64_eq]; omega)
/-- Struct variables' cells, at whatever places. -/
def K3 (p q r : Nat) (v1 v2 v3 v4 v5 v6 : Value) (W : World) : Prop := W.cell? ⟨p, 0, none⟩ = some v1 ∧ W.cell? ⟨p, 1, none⟩ = some v2 ∧ W.cell? ⟨q, 0, none⟩ = some v3 ∧ W.cell? ⟨q, 1, none⟩ = some v4 ∧ W.cell? ⟨r, 0, none⟩ = some v5 ∧ W.cell? ⟨r, 1, none⟩ = some v6
theorem K3.of {p q r : Nat} {v1 v2 v3 v4 v5 v6 : Value} {W : World} (h1 : C2 p v1 v2 W) (h2 : C2 q v3 v4 W) (h3 : C2 r v5 v6 W) : K3 p q r v1 v2 v3 v4 v5 v6 W := ⟨h1.1, h1.2, h2.1, h2.2, h3.1, h3.2⟩
section
variable {p q r : Nat} {v1 v2 v3 v4 v5 v6 : Value} {W W' : World}
theorem K3.a (h : K3 p q r v1 v2 v3 v4 v5 v6 W) : C2 p v1 v2 W := ⟨h.1, h.2.1⟩
theorem K3.b (h : K3 p q r v1 v2 v3 v4 v5 v6 W) : C2 q v3 v4 W := ⟨h.2.2.1, h.2.2.2.1⟩
theorem K3.c (h : K3 p q r v1 v2 v3 v4 v5 v6 W) : C2 r v5 v6 W := ⟨h.2.2.2.2.1, h.2.2.2.2.2⟩
theorem K3.below (hb : Below W.heap.size W W') (h : K3 p q r v1 v2 v3 v4 v5 v6 W) : K3 p q r v1 v2 v3 v4 v5 v6 W' := K3.of (h.a.below hb) (h.b.below hb) (h.c.below hb)
theorem K3.drew (h : K3 p q r v1 v2 v3 v4 v5 v6 W) : K3 p q r v1 v2 v3 v4 v5 v6 W.drew := h
theorem K3.alloc (h : K3 p q r v1 v2 v3 v4 v5 v6 W) (o : Obj) : K3 p q r v1 v2 v3 v4 v5 v6 (W.alloc o) := K3.of (h.a.alloc o) (h.b.alloc o) (h.c.alloc o)
theorem K3.base (w : World) (v1 v2 v3 v4 v5 v6 : Value) (T U V : TypeId) : K3 w.heap.size (w.heap.size + 1) (w.heap.size + 1 + 1) v1 v2 v3 v4 v5 v6 (((w.alloc (.cells #[v1, v2] T)).alloc (.cells #[v3, v4] U)).alloc (.cells #[v5, v6] V)) := by
  have h := C4.base w v1 v2 v3 v4 T U
  have h3 := C2.base ((w.alloc (.cells #[v1, v2] T)).alloc (.cells #[v3, v4] U)) v5 v6 V
  rw [show ((w.alloc (.cells #[v1, v2] T)).alloc (.cells #[v3, v4] U)).heap.size = w.heap.size + 1 + 1 by simp] at h3
  exact K3.of (C2.alloc ⟨h.1, h.2.1⟩ _) (C2.alloc ⟨h.2.2.1, h.2.2.2⟩ _) h3
end
def K4 (p q r o : Nat) (v1 v2 v3 v4 v5 v6 v7 v8 : Value) (W : World) : Prop := W.cell? ⟨p, 0, none⟩ = some v1 ∧ W.cell? ⟨p, 1, none⟩ = some v2 ∧ W.cell? ⟨q, 0, none⟩ = some v3 ∧ W.cell? ⟨q, 1, none⟩ = some v4 ∧ W.cell? ⟨r, 0, none⟩ = some v5 ∧ W.cell? ⟨r, 1, none⟩ = some v6 ∧ W.cell? ⟨o, 0, none⟩ = some v7 ∧ W.cell? ⟨o, 1, none⟩ = some v8
section
variable {p q r o : Nat} {v1 v2 v3 v4 v5 v6 v7 v8 : Value} {W W' : World}
theorem K4.of (h1 : C2 p v1 v2 W) (h2 : C2 q v3 v4 W) (h3 : C2 r v5 v6 W) (h4 : C2 o v7 v8 W) : K4 p q r o v1 v2 v3 v4 v5 v6 v7 v8 W := ⟨h1.1, h1.2, h2.1, h2.2, h3.1, h3.2, h4.1, h4.2⟩
theorem K4.below (hb : Below W.heap.size W W') (h : K4 p q r o v1 v2 v3 v4 v5 v6 v7 v8 W) : K4 p q r o v1 v2 v3 v4 v5 v6 v7 v8 W' :=
  K4.of (C2.below hb ⟨h.1, h.2.1⟩) (C2.below hb ⟨h.2.2.1, h.2.2.2.1⟩) (C2.below hb ⟨h.2.2.2.2.1, h.2.2.2.2.2.1⟩) (C2.below hb ⟨h.2.2.2.2.2.2.1, h.2.2.2.2.2.2.2⟩)
theorem K4.drew (h : K4 p q r o v1 v2 v3 v4 v5 v6 v7 v8 W) : K4 p q r o v1 v2 v3 v4 v5 v6 v7 v8 W.drew := h
end
end Go.Proofs.YtmbnlhedbedcdaaGreatDoor
