/- whole: calls of one number. -/
import Derived.Test.YtbbncggaaibheaaGreatDoorWholeA
namespace Go.Proofs.YtbbncggaaibheaaGreatDoor
open Go.RowKit

/-- Block g is a whole number's struct. -/
def Ibx (w : World) (g : Nat) (s : Bool) (A : Option Addr) (n c : Nat) : Prop := w.heap[g]? = some (.cells #[.bool s, .slice A n c] 25 (0, 0))
section
variable {w w' : World} {g : Nat} {s : Bool} {A : Option Addr} {n c : Nat}
theorem Ibx.lt (h : Ibx w g s A n c) : g < w.heap.size := lt_of_block h
theorem Ibx.c0 (h : Ibx w g s A n c) : w.cell? ⟨g, 0, none⟩ = some (.bool s) := by unfold Ibx at h; rw [cell_of_row w g 0 _ _ _ h]; rfl
theorem Ibx.c1 (h : Ibx w g s A n c) : w.cell? ⟨g, 1, none⟩ = some (.slice A n c) := by unfold Ibx at h; rw [cell_of_row w g 1 _ _ _ h]; rfl
theorem Ibx.f (h : Ibx w g s A n c) (i : Nat) : w.frozen? ⟨g, i, none⟩ = false := frozen_of_row w g i _ _ h
theorem Ibx.alloc (h : Ibx w g s A n c) (o : Obj) : Ibx (w.alloc o) g s A n c := (Below.heap_alloc w o g h.lt).trans h
theorem Ibx.drewN (h : Ibx w g s A n c) (k : Nat) : Ibx (w.drewN k) g s A n c := h
theorem Ibx.drew (h : Ibx w g s A n c) : Ibx w.drew g s A n c := h
theorem Ibx.below (h : Ibx w g s A n c) (hb : Below w.heap.size w w') : Ibx w' g s A n c := (hb.block g h.lt).trans h
theorem Ibx.belowB (h : Ibx w g s A n c) {B : Nat} (hb : Below B w w') (hg : g < B) : Ibx w' g s A n c := (hb.block g hg).trans h
theorem Ibx.new (w : World) (s : Bool) (A : Option Addr) (n c : Nat) : Ibx (w.alloc (.cells #[.bool s, .slice A n c] 25)) w.heap.size s A n c := heap_alloc_new w _
theorem Ibx.new' (w : World) (s : Bool) (A : Option Addr) (n c g : Nat) (hg : g = w.heap.size) : Ibx (w.alloc (.cells #[.bool s, .slice A n c] 25)) g s A n c := by subst hg; exact heap_alloc_new w _
theorem Ibx.two (h : Ibx w g s A n c) (s' : Bool) (A' : Option Addr) (n' c' : Nat) : Ibx ((w.setCell ⟨g, 0, none⟩ (.bool s')).setCell ⟨g, 1, none⟩ (.slice A' n' c')) g s' A' n' c' := by
  unfold Ibx at h ⊢
  rw [heap_setCell_same _ g 1 _ _ _ (heap_setCell_same w g 0 _ _ _ h)]
  rfl
theorem Ibx.far (h : Ibx w g s A n c) {p : Addr} (hp : g ≠ p.block) (v : Value) : Ibx (w.setCell p v) g s A n c := (Below.heap_setCell w p v g hp).trans h
theorem Ibx.far_num (h : Ibx w g s A n c) {B : Option Addr} {xs : List Nat} (hB : Num w B xs) (hn : xs ≠ []) : ∀ p, B = some p → p.block ≠ g := by
  intro p e hg
  obtain ⟨b, off, e2, _, hc⟩ := hB.2 hn
  rw [e] at e2
  have e3 := Option.some.inj e2
  subst e3
  have h0 := hc 0 (List.length_pos_iff.2 hn)
  have hg' : b = g := hg
  subst hg'
  unfold Ibx at h
  rw [cell_of_row w b _ _ _ _ h] at h0
  rcases Nat.lt_or_ge (off + 0) 2 with h2 | h2
  · rcases (show off + 0 = 0 ∨ off + 0 = 1 by omega) with h3 | h3 <;> rw [h3] at h0 <;> cases h0
  · rw [Array.getElem?_eq_none (by simpa using h2)] at h0
    cases h0
theorem Num.two {B : Option Addr} {xs : List Nat} (hB : Num w B xs) (h : Ibx w g s A n c) (v0 v1 : Value) : Num ((w.setCell ⟨g, 0, none⟩ v0).setCell ⟨g, 1, none⟩ v1) B xs :=
  ⟨hB.1, fun hn => by
    have hfar := h.far_num hB hn
    obtain ⟨b, off, e, hlt, hc⟩ := hB.2 hn
    have hbg : b ≠ g := hfar _ e
    refine ⟨b, off, e, by simpa [World.setCell] using hlt, fun i hi => ?_⟩
    exact (World.cell?_of_block ((Below.heap_setCell _ _ _ b hbg).trans (Below.heap_setCell _ _ _ b hbg))).trans (hc i hi)⟩
end

/-- Block g is one cell, a sign. -/
def Sbx (w : World) (g : Nat) (s : Bool) : Prop := w.heap[g]? = some (.cells #[.bool s] 4 (0, 0))
section
variable {w w' : World} {g : Nat} {s : Bool}
theorem Sbx.lt (h : Sbx w g s) : g < w.heap.size := lt_of_block h
theorem Sbx.c (h : Sbx w g s) : w.cell? ⟨g, 0, none⟩ = some (.bool s) := by unfold Sbx at h; rw [cell_of_row w g 0 _ _ _ h]; rfl
theorem Sbx.alloc (h : Sbx w g s) (o : Obj) : Sbx (w.alloc o) g s := (Below.heap_alloc w o g h.lt).trans h
theorem Sbx.drew (h : Sbx w g s) : Sbx w.drew g s := h
theorem Sbx.below (h : Sbx w g s) (hb : Below w.heap.size w w') : Sbx w' g s := (hb.block g h.lt).trans h
theorem Sbx.new' (w : World) (s : Bool) (g : Nat) (hg : g = w.heap.size) : Sbx (w.alloc (.cells #[.bool s] 4)) g s := by subst hg; exact heap_alloc_new w _
theorem Sbx.far (h : Sbx w g s) {p : Addr} (hp : g ≠ p.block) (v : Value) : Sbx (w.setCell p v) g s := (Below.heap_setCell w p v g hp).trans h
end
theorem size_drew (w : World) : w.drew.heap.size = w.heap.size := rfl
theorem Below.of_drew {B : Nat} {w w' : World} (h : Below B w.drew w') : Below B w w' := ⟨h.os, h.tape, h.output, h.size, h.block⟩

/-- number, called behind a call that has told the size; the sign's cell and the result's struct stood before. -/
theorem number_at (w W1 w3 : World) (p g c m : Nat) (s s0 : Bool) (A A0 : Option Addr) (n0 c0 : Nat) (hS : Sbx W1 p s) (hI : Ibx W1 g s0 A0 n0 c0) (hW : Below w.heap.size w W1) (hb3 : Below W1.heap.size W1 w3) (ha : Num w3 A (dig m)) (hn : (dig m).length ≤ 8589934592) (hc : (dig m).length ≤ c) :
    Calls Tryz.prog 64 #[.func (.func 119) #[] #[.pointer (some ⟨p, 0, none⟩)], .slice A (dig m).length c] w3
      fun e w4 => e = .returned (.agg #[.bool (zneg (zv s m)), .slice A (dig m).length c]) ∧ Num w4 A (dig m) ∧ Ibx w4 g s0 A0 n0 c0 ∧ Below w.heap.size w w4 ∧ Below w3.heap.size w3 w4 := by
  refine (number_any w3 p c m s A ha (hS.below hb3).c hn hc).mono ?_
  rintro e w4 ⟨rfl, hb4⟩
  have h3 := hW.trans (hb3.mono hW.size)
  exact ⟨rfl, ha.below hb4, (hI.below hb3).below hb4, h3.trans (hb4.mono h3.size), hb4⟩

theorem retz_of {w w4 wf : World} {s : Bool} {m c g : Nat} {z : Int} {A A0 : Option Addr} {s0 : Bool} {n0 c0 : Nat} (hz : zv s m = z) (hc : (dig m).length ≤ c) (hA : Num w4 A (dig m)) (hg : Ibx w4 g s0 A0 n0 c0) (hgw : w.heap.size ≤ g) (hb : Below w.heap.size w w4)
    (v0 v1 : Value) (hwf : wf = (w4.setCell ⟨g, 0, none⟩ v0).setCell ⟨g, 1, none⟩ v1) : RetZ w z (.returned (.agg #[.bool (zneg (zv s m)), .slice A (dig m).length c])) wf := by
  subst hz
  subst hwf
  refine ⟨A, c, by rw [zv_natAbs], by rw [zv_natAbs]; exact hc, by rw [zv_natAbs]; exact hA.two hg _ _, (hb.setCell hgw _).setCell hgw _⟩

/-- The cells of two whole numbers' structs, one behind the other. -/
def C4 (p : Nat) (v1 v2 v3 v4 : Value) (W : World) : Prop := W.cell? ⟨p, 0, none⟩ = some v1 ∧ W.cell? ⟨p, 1, none⟩ = some v2 ∧ W.cell? ⟨p + 1, 0, none⟩ = some v3 ∧ W.cell? ⟨p + 1, 1, none⟩ = some v4
def C2 (p : Nat) (v1 v2 : Value) (W : World) : Prop := W.cell? ⟨p, 0, none⟩ = some v1 ∧ W.cell? ⟨p, 1, none⟩ = some v2
section
variable {w W W' : World} {p : Nat} {v1 v2 v3 v4 : Value}
theorem C2.alloc (h : C2 p v1 v2 W) (o : Obj) : C2 p v1 v2 (W.alloc o) := ⟨(World.cell?_alloc_some _ _ _ (by rw [h.1]; rfl)).trans h.1, (World.cell?_alloc_some _ _ _ (by rw [h.2]; rfl)).trans h.2⟩
theorem C2.below (hb : Below W.heap.size W W') (h : C2 p v1 v2 W) : C2 p v1 v2 W' := ⟨(hb.cell (block_lt_of_cell h.1)).trans h.1, (hb.cell (block_lt_of_cell h.2)).trans h.2⟩
theorem C2.drew (h : C2 p v1 v2 W) : C2 p v1 v2 W.drew := h
theorem C2.far (h : C2 p v1 v2 W) {a : Addr} (hp : p ≠ a.block) (v : Value) : C2 p v1 v2 (W.setCell a v) :=
  ⟨(World.cell?_of_block (Below.heap_setCell W a v p hp)).trans h.1, (World.cell?_of_block (Below.heap_setCell W a v p hp)).trans h.2⟩
theorem C2.base (w : World) (v1 v2 : Value) (T : TypeId) : C2 w.heap.size v1 v2 (w.alloc (.cells #[v1, v2] T)) := by refine ⟨?_, ?_⟩ <;> simp [go_sem]
theorem C4.of (h1 : C2 p v1 v2 W) (h2 : C2 (p + 1) v3 v4 W) : C4 p v1 v2 v3 v4 W := ⟨h1.1, h1.2, h2.1, h2.2⟩
theorem C4.alloc (h : C4 p v1 v2 v3 v4 W) (o : Obj) : C4 p v1 v2 v3 v4 (W.alloc o) := C4.of (C2.alloc ⟨h.1, h.2.1⟩ o) (C2.alloc ⟨h.2.2.1, h.2.2.2⟩ o)
theorem C4.below (hb : Below W.heap.size W W') (h : C4 p v1 v2 v3 v4 W) : C4 p v1 v2 v3 v4 W' := C4.of (C2.below hb ⟨h.1, h.2.1⟩) (C2.below hb ⟨h.2.2.1, h.2.2.2⟩)
theorem C4.drew (h : C4 p v1 v2 v3 v4 W) : C4 p v1 v2 v3 v4 W.drew := h
theorem C4.far (h : C4 p v1 v2 v3 v4 W) {a : Addr} (hp : p ≠ a.block) (hq : p + 1 ≠ a.block) (v : Value) : C4 p v1 v2 v3 v4 (W.setCell a v) := C4.of (C2.far ⟨h.1, h.2.1⟩ hp v) (C2.far ⟨h.2.2.1, h.2.2.2⟩ hq v)
theorem C4.base (w : World) (v1 v2 v3 v4 : Value) (T U : TypeId) : C4 w.heap.size v1 v2 v3 v4 ((w.alloc (.cells #[v1, v2] T)).alloc (.cells #[v3, v4] U)) := by
  refine C4.of ((C2.base w v1 v2 T).alloc _) ?_
  have h := C2.base (w.alloc (.cells #[v1, v2] T)) v3 v4 U
  rwa [show (w.alloc (.cells #[v1, v2] T)).heap.size = w.heap.size + 1 by simp] at h
end
end Go.Proofs.YtbbncggaaibheaaGreatDoor
