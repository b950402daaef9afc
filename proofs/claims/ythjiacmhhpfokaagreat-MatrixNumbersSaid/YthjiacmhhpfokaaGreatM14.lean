/- Part 14 of the proof: RBox, RParts. -/
import Derived.Test.YthjiacmhhpfokaaGreatM13
namespace Go.Proofs.YthjiacmhhpfokaaGreat
namespace Q
open Go.RowKit
def Box (w : World) (g : Nat) : Prop := ∃ cs T, w.heap[g]? = some (.cells cs T (0, 0)) ∧ ∀ (i : Nat) (k : IntKind) (z : Int), cs[i]? ≠ some (Value.int k z)
theorem Box.far {w : World} {g : Nat} (h : Box w g) {B : Option Addr} {xs : List Nat} (hB : Num w B xs) (hn : xs ≠ []) : ∀ p, B = some p → p.block ≠ g := by
 intro p e hg
 obtain ⟨cs, T, h1, h2⟩ := h
 obtain ⟨b, off, e2, _, hc⟩ := hB.2 hn
 rw [e] at e2
 have e3 := Option.some.inj e2
 subst e3
 have h0 := hc 0 (List.length_pos_iff.2 hn)
 have hg' : b = g := hg
 subst hg'
 rw [cell_of_row w b _ _ _ _ h1] at h0
 exact h2 _ _ _ h0
theorem Num.set {w : World} {g : Nat} {B : Option Addr} {xs : List Nat} (hB : Num w B xs) (h : Box w g) (i : Nat) (v : Value) : Num (w.setCell ⟨g, i, none⟩ v) B xs :=
 ⟨hB.1, fun hn => by
  have hfar := h.far hB hn
  obtain ⟨b, off, e, hlt, hc⟩ := hB.2 hn
  have hbg : b ≠ g := hfar _ e
  exact ⟨b, off, e, by simpa [World.setCell] using hlt, fun j hj => (World.cell?_of_block (Below.heap_setCell _ _ _ b hbg)).trans (hc j hj)⟩⟩
theorem Box.set {w : World} {g : Nat} (h : Box w g) (i : Nat) (v : Value) (hv : ∀ (k : IntKind) (z : Int), v ≠ Value.int k z) : Box (w.setCell ⟨g, i, none⟩ v) g := by
 obtain ⟨cs, T, h1, h2⟩ := h
 refine ⟨_, _, heap_setCell_same w g i _ _ _ h1, ?_⟩
 intro j k z e
 rw [Array.getElem?_setIfInBounds] at e
 split at e
 ·split at e
  ·exact hv k z (Option.some.inj e)
  ·cases e
 ·exact h2 j k z e
theorem Box.alloc {w : World} {g : Nat} (h : Box w g) (o : Obj) : Box (w.alloc o) g := by
 obtain ⟨cs, T, h1, h2⟩ := h
 exact ⟨cs, T, (Below.heap_alloc w o g (lt_of_block h1)).trans h1, h2⟩
section
variable {w : World} {s t : Bool} {A B : Option Addr} {n c m d k g : Nat} {z : Int} {q : Rat}
theorem IsZ.set (h : IsZ w s A n c z k) (hb : Box w g) (i : Nat) (v : Value) : IsZ (w.setCell ⟨g, i, none⟩ v) s A n c z k := ⟨by obtain ⟨xs, h1, h2, h3⟩ := h.ex; exact ⟨xs, h1, Num.set h2 hb i v, h3⟩, h.le, h.cap⟩
theorem OneZ.set (h : OneZ w s A n c z) (hb : Box w g) (i : Nat) (v : Value) : OneZ (w.setCell ⟨g, i, none⟩ v) s A n c z := ⟨h.es, h.en, Num.set h.num hb i v, h.cap⟩
theorem IsQ.set (h : IsQ w s A n c t B m d q k) (hb : Box w g) (i : Nat) (v : Value) : IsQ (w.setCell ⟨g, i, none⟩ v) s A n c t B m d q k :=
 ⟨by obtain ⟨xs, ys, h1, h2, h3, h4, h5⟩ := h.ex; exact ⟨xs, ys, h1, h2, Num.set h3 hb i v, Num.set h4 hb i v, h5⟩, h.le, h.le2, h.cap, h.cap2⟩
theorem OneQ.set (h : OneQ w s A n c t B m d q) (hb : Box w g) (i : Nat) (v : Value) : OneQ (w.setCell ⟨g, i, none⟩ v) s A n c t B m d q :=
 ⟨h.es, h.en, h.et, h.em, Num.set h.num hb i v, Num.set h.den hb i v, h.cap, h.cap2⟩
end
theorem _root_.Go.Proofs.YthjiacmhhpfokaaGreat.Ibx.bx {w : World} {g : Nat} {s : Bool} {A : Option Addr} {n c : Nat} (h : Ibx w g s A n c) : Box w g := ⟨_, _, h, by
 intro i k z e
 rcases i with _ | _ | i
 ·cases e
 ·cases e
 ·rw [Array.getElem?_eq_none (by simp)] at e; cases e⟩
theorem _root_.Go.Proofs.YthjiacmhhpfokaaGreat.Ibx.s0 {w : World} {g : Nat} {s s' : Bool} {A : Option Addr} {n c : Nat} (h : Ibx w g s A n c) : Ibx (w.setCell ⟨g, 0, none⟩ (.bool s')) g s' A n c := heap_setCell_same w g 0 _ _ _ h
def Qbx (w : World) (g : Nat) (s : Bool) (A : Option Addr) (n c : Nat) (t : Bool) (B : Option Addr) (m d : Nat) : Prop := w.heap[g]? = some (.cells #[.bool s, .slice A n c, .bool t, .slice B m d] 27 (0, 0))
section
variable {w w' : World} {g : Nat} {s t s' t' : Bool} {A B A' B' : Option Addr} {n c m d n' c' m' d' : Nat}
theorem Qbx.bx (h : Qbx w g s A n c t B m d) : Box w g := ⟨_, _, h, by
 intro i k z e
 rcases i with _ | _ | _ | _ | i
 ·cases e
 ·cases e
 ·cases e
 ·cases e
 ·rw [Array.getElem?_eq_none (by simp)] at e; cases e⟩
theorem Qbx.lt (h : Qbx w g s A n c t B m d) : g < w.heap.size := lt_of_block h
theorem Qbx.c0 (h : Qbx w g s A n c t B m d) : w.cell? ⟨g, 0, none⟩ = some (.bool s) := by unfold Qbx at h; rw [cell_of_row w g 0 _ _ _ h]; rfl
theorem Qbx.c1 (h : Qbx w g s A n c t B m d) : w.cell? ⟨g, 1, none⟩ = some (.slice A n c) := by unfold Qbx at h; rw [cell_of_row w g 1 _ _ _ h]; rfl
theorem Qbx.c2 (h : Qbx w g s A n c t B m d) : w.cell? ⟨g, 2, none⟩ = some (.bool t) := by unfold Qbx at h; rw [cell_of_row w g 2 _ _ _ h]; rfl
theorem Qbx.c3 (h : Qbx w g s A n c t B m d) : w.cell? ⟨g, 3, none⟩ = some (.slice B m d) := by unfold Qbx at h; rw [cell_of_row w g 3 _ _ _ h]; rfl
theorem Qbx.f (h : Qbx w g s A n c t B m d) (i : Nat) : w.frozen? ⟨g, i, none⟩ = false := frozen_of_row w g i _ _ h
theorem Qbx.new (w : World) (g : Nat) (hg : g = w.heap.size) : Qbx (w.alloc (.cells #[.bool s, .slice A n c, .bool t, .slice B m d] 27)) g s A n c t B m d := by subst hg; exact heap_alloc_new w _
theorem Qbx.alloc (h : Qbx w g s A n c t B m d) (o : Obj) : Qbx (w.alloc o) g s A n c t B m d := (Below.heap_alloc w o g h.lt).trans h
theorem Qbx.below (h : Qbx w g s A n c t B m d) (hb : Below w.heap.size w w') : Qbx w' g s A n c t B m d := (hb.block g h.lt).trans h
theorem Qbx.far (h : Qbx w g s A n c t B m d) {p : Addr} (hp : g ≠ p.block) (v : Value) : Qbx (w.setCell p v) g s A n c t B m d := (Below.heap_setCell w p v g hp).trans h
theorem Qbx.s0 (h : Qbx w g s A n c t B m d) : Qbx (w.setCell ⟨g, 0, none⟩ (.bool s')) g s' A n c t B m d := heap_setCell_same w g 0 _ _ _ h
theorem Qbx.s1 (h : Qbx w g s A n c t B m d) : Qbx (w.setCell ⟨g, 1, none⟩ (.slice A' n' c')) g s A' n' c' t B m d := heap_setCell_same w g 1 _ _ _ h
theorem Qbx.s2 (h : Qbx w g s A n c t B m d) : Qbx (w.setCell ⟨g, 2, none⟩ (.bool t')) g s A n c t' B m d := heap_setCell_same w g 2 _ _ _ h
theorem Qbx.s3 (h : Qbx w g s A n c t B m d) : Qbx (w.setCell ⟨g, 3, none⟩ (.slice B' m' d')) g s A n c t B' m' d' := heap_setCell_same w g 3 _ _ _ h
end
abbrev put2 (w : World) (g : Nat) (s : Bool) (A : Option Addr) (n c : Nat) : World := (w.setCell ⟨g, 0, none⟩ (.bool s)).setCell ⟨g, 1, none⟩ (.slice A n c)
abbrev put4 (w : World) (g : Nat) (s : Bool) (A : Option Addr) (n c : Nat) (t : Bool) (B : Option Addr) (m d : Nat) : World :=
 (((w.setCell ⟨g, 0, none⟩ (.bool s)).setCell ⟨g, 1, none⟩ (.slice A n c)).setCell ⟨g, 2, none⟩ (.bool t)).setCell ⟨g, 3, none⟩ (.slice B m d)
section
variable {w w0 : World} {g g' : Nat} {s t s' t' u : Bool} {A B A' B' C : Option Addr} {n c m d n' c' m' d' k l e : Nat} {z : Int} {q : Rat}
theorem _root_.Go.Proofs.YthjiacmhhpfokaaGreat.Ibx.put (h : Ibx w g s A n c) : Ibx (put2 w g s' A' n' c') g s' A' n' c' := h.two _ _ _ _
theorem _root_.Go.Proofs.YthjiacmhhpfokaaGreat.Ibx.put_far (h : Ibx w g s A n c) (hg : g ≠ g') : Ibx (put2 w g' s' A' n' c') g s A n c := (h.far hg _).far hg _
theorem _root_.Go.Proofs.YthjiacmhhpfokaaGreat.Ibx.put4_far (h : Ibx w g s A n c) (hg : g ≠ g') : Ibx (put4 w g' s' A' n' c' t' B' m' d') g s A n c := (((h.far hg _).far hg _).far hg _).far hg _
theorem Qbx.put (h : Qbx w g s A n c t B m d) : Qbx (put4 w g s' A' n' c' t' B' m' d') g s' A' n' c' t' B' m' d' := h.s0.s1.s2.s3
theorem Qbx.put4_far (h : Qbx w g s A n c t B m d) (hg : g ≠ g') : Qbx (put4 w g' s' A' n' c' t' B' m' d') g s A n c t B m d := (((h.far hg _).far hg _).far hg _).far hg _
theorem Qbx.put2_far (h : Qbx w g s A n c t B m d) (hg : g ≠ g') : Qbx (put2 w g' s' A' n' c') g s A n c t B m d := (h.far hg _).far hg _
theorem bx2 (b : Box w g) : Box (w.setCell ⟨g, 0, none⟩ (.bool s')) g := b.set _ _ (fun _ _ e => by cases e)
theorem Box.on2 (b : Box w g) : Box (put2 w g s' A' n' c') g := (bx2 b).set _ _ (fun _ _ e => by cases e)
theorem Box.three (b : Box w g) : Box ((put2 w g s' A' n' c').setCell ⟨g, 2, none⟩ (.bool t')) g := b.on2.set _ _ (fun _ _ e => by cases e)
theorem IsZ.on2 (h : IsZ w u C l e z k) (b : Box w g) : IsZ (put2 w g s' A' n' c') u C l e z k := (h.set b _ _).set (bx2 b) _ _
theorem OneZ.on2 (h : OneZ w u C l e z) (b : Box w g) : OneZ (put2 w g s' A' n' c') u C l e z := (h.set b _ _).set (bx2 b) _ _
theorem IsZ.on4 (h : IsZ w u C l e z k) (b : Box w g) : IsZ (put4 w g s' A' n' c' t' B' m' d') u C l e z k := ((h.on2 b).set b.on2 _ _).set b.three _ _
theorem OneZ.on4 (h : OneZ w u C l e z) (b : Box w g) : OneZ (put4 w g s' A' n' c' t' B' m' d') u C l e z := ((h.on2 b).set b.on2 _ _).set b.three _ _
theorem IsQ.on2 (h : IsQ w s A n c t B m d q k) (b : Box w g) : IsQ (put2 w g s' A' n' c') s A n c t B m d q k := (h.set b _ _).set (bx2 b) _ _
theorem OneQ.on2 (h : OneQ w s A n c t B m d q) (b : Box w g) : OneQ (put2 w g s' A' n' c') s A n c t B m d q := (h.set b _ _).set (bx2 b) _ _
theorem IsQ.on4 (h : IsQ w s A n c t B m d q k) (b : Box w g) : IsQ (put4 w g s' A' n' c' t' B' m' d') s A n c t B m d q k := ((h.on2 b).set b.on2 _ _).set b.three _ _
theorem OneQ.on4 (h : OneQ w s A n c t B m d q) (b : Box w g) : OneQ (put4 w g s' A' n' c' t' B' m' d') s A n c t B m d q := ((h.on2 b).set b.on2 _ _).set b.three _ _
theorem below_put2 (h : Below w0.heap.size w0 w) (hg : w0.heap.size ≤ g) : Below w0.heap.size w0 (put2 w g s' A' n' c') := (h.setCell hg _).setCell hg _
theorem below_put4 (h : Below w0.heap.size w0 w) (hg : w0.heap.size ≤ g) : Below w0.heap.size w0 (put4 w g s' A' n' c' t' B' m' d') := (((h.setCell hg _).setCell hg _).setCell hg _).setCell hg _
end
theorem below_on {W w3 w4 : World} (h3 : Below W.heap.size W w3) (h : Below w3.heap.size w3 w4) : Below W.heap.size W w4 := h3.trans (h.mono h3.size)
end Q

namespace Q
open Lib renaming hid → lh
open Go.RowKit
def RetP (w : World) (q : Rat) (k : Nat) (e : Ending) (w' : World) : Prop :=
 ∃ s A n c t B m d y z, e = .returned (.tuple #[.agg #[.bool s, .slice A n c], .agg #[.bool t, .slice B m d]]) ∧ IsZ w' s A n c y k ∧ IsZ w' t B m d z k ∧ 0 < z ∧ Rat.divInt y z = q ∧ Below w.heap.size w w'
structure PS (w wx : World) (p r : Nat) (s : Bool) (A : Option Addr) (n c : Nat) (t : Bool) (B : Option Addr) (m d : Nat) : Prop where
 bel : Below w.heap.size w wx
 i1 : Ibx wx p s A n c
 i2 : Ibx wx r t B m d
 o1 : Ibx wx (w.heap.size + 1) false none 0 0
 o2 : Ibx wx (w.heap.size + 1 + 1) false none 0 0
 ne : p ≠ r
 hp : w.heap.size + 1 + 1 < p
 hr : w.heap.size + 1 + 1 < r
section
variable {w wx wy : World} {p r : Nat} {s t s' t' : Bool} {A B A' B' : Option Addr} {n c m d n' c' m' d' : Nat}
theorem PS.below (h : PS w wx p r s A n c t B m d) (hb : Below wx.heap.size wx wy) : PS w wy p r s A n c t B m d :=
 ⟨below_on h.bel hb, h.i1.below hb, h.i2.below hb, h.o1.below hb, h.o2.below hb, h.ne, h.hp, h.hr⟩
theorem PS.num (h : PS w wx p r s A n c t B m d) : PS w (put2 wx p s' A' n' c') p r s' A' n' c' t B m d :=
 ⟨below_put2 h.bel (by have := h.hp; omega), h.i1.put, h.i2.put_far h.ne.symm, h.o1.put_far (by have := h.hp; omega), h.o2.put_far (by have := h.hp; omega), h.ne, h.hp, h.hr⟩
theorem PS.den (h : PS w wx p r s A n c t B m d) : PS w (put2 wx r t' B' m' d') p r s A n c t' B' m' d' :=
 ⟨below_put2 h.bel (by have := h.hr; omega), h.i1.put_far h.ne, h.i2.put, h.o1.put_far (by have := h.hr; omega), h.o2.put_far (by have := h.hr; omega), h.ne, h.hp, h.hr⟩
theorem PS.turn (h : PS w wx p r s A n c t B m d) : PS w ((wx.setCell ⟨p, 0, none⟩ (.bool s')).setCell ⟨r, 0, none⟩ (.bool t')) p r s' A n c t' B m d :=
 ⟨(h.bel.setCell (show w.heap.size ≤ p by have := h.hp; omega) _).setCell (show w.heap.size ≤ r by have := h.hr; omega) _, h.i1.s0.far h.ne _, (h.i2.far (show r ≠ p from h.ne.symm) _).s0, (h.o1.far (show _ ≠ p by have := h.hp; omega) _).far (show _ ≠ r by have := h.hr; omega) _, (h.o2.far (show _ ≠ p by have := h.hp; omega) _).far (show _ ≠ r by have := h.hr; omega) _, h.ne, h.hp, h.hr⟩
end
theorem IsZ.flip {w : World} {s : Bool} {A : Option Addr} {n c k : Nat} {z : Int} (h : IsZ w s A n c z k) : IsZ w (!s) A n c (-z) k :=
 ⟨by obtain ⟨xs, h1, h2, h3⟩ := h.ex; exact ⟨xs, h1, h2, by rw [← h3]; cases s <;> simp [zv]⟩, h.le, h.cap⟩
theorem IsZ.sgn {w : World} {s : Bool} {A : Option Addr} {n c k : Nat} {z : Int} (h : IsZ w s A n c z k) (hz : z ≠ 0) : s = zneg z := by
 obtain ⟨xs, h1, h2, h3⟩ := h.ex
 rw [← h3] at hz ⊢
 symm
 apply zneg_of
 cases s <;> simp [zv] at * <;> omega
theorem IsZ.nil (w : World) (s : Bool) (A : Option Addr) (c k : Nat) : IsZ w s A 0 c 0 k := ⟨⟨[], rfl, Num.nil _ _, zv_zero s⟩, Nat.zero_le _, Nat.zero_le _⟩
theorem IsQ.two {w : World} {s t : Bool} {A B : Option Addr} {n c m d k : Nat} {q : Rat} (h : IsQ w s A n c t B m d q k) : ∃ y z, IsZ w s A n c y k ∧ IsZ w t B m d z k ∧ Rat.divInt y (if m = 0 then 1 else z) = q := by
 obtain ⟨xs, ys, h1, h2, h3, h4, h5⟩ := h.ex
 refine ⟨_, _, ⟨⟨xs, h1, h3, rfl⟩, h.le, h.cap⟩, ⟨⟨ys, h2, h4, rfl⟩, h.le2, h.cap2⟩, ?_⟩
 rw [h2]
 exact h5
set_option maxRecDepth 100000 in
set_option maxHeartbeats 4000000 in
theorem parts_any (w : World) (s t : Bool) (A B : Option Addr) (n c m d k : Nat) (q : Rat) (h : IsQ w s A n c t B m d q k) (hk : 1 ≤ k) (hk2 : k ≤ 3000) :
  Calls Tryz.prog 132 #[.agg #[.bool s, .slice A n c, .bool t, .slice B m d]] w (RetP w q k) := by
 obtain ⟨y, z, hy, hz, hq⟩ := h.two
 have HY := lh hy
 have HZ := lh hz
 have HQ := lh hq
 clear hy hz hq h
 go_enter Tryz.func132, Tryz.ntmps132
 go_upto_region 1 with fail
 go_cut [4, 5] (fun s4 s5 wx => ∃ (p r : Nat), s4 = .pointer (some ⟨p, 0, none⟩) ∧ s5 = .pointer (some ⟨r, 0, none⟩) ∧ Hid (PS w wx p r s A n c t B m d) ∧ Hid (IsZ wx s A n c y k) ∧ Hid (IsZ wx t B m d z k))
 case first =>
  go_region
  all_goals
   go_wp2_with fail
   go_meet
  ·refine ⟨w.heap.size + 1 + 1 + 1, w.heap.size + 1 + 1 + 1 + 1, rfl, rfl, ⟨Below.drew ?_, ?_, ?_, ?_, ?_, by omega, by omega, by omega⟩, (((((HY.out.alloc _).alloc _).alloc _).alloc _).alloc _).drew, (((((HZ.out.alloc _).alloc _).alloc _).alloc _).alloc _).drew⟩
   ·exact (((((Below.refl w.heap.size w).alloc (Nat.le_refl _) _).alloc (by simp) _).alloc (by simp; omega) _).alloc (by simp; omega) _).alloc (by simp; omega) _
   ·exact (Ibx.alloc (Ibx.new' _ _ _ _ _ _ (by simp)) _).drew
   ·exact (Ibx.new' _ _ _ _ _ _ (by simp)).drew
   ·exact (Ibx.alloc (Ibx.alloc (Ibx.alloc (Ibx.new' _ _ _ _ _ _ (by simp)) _) _) _).drew
   ·exact (Ibx.alloc (Ibx.alloc (Ibx.new' _ _ _ _ _ _ (by simp)) _) _).drew
  ·refine ⟨w.heap.size + 1 + 1 + 1 + 1, w.heap.size + 1 + 1 + 1, rfl, rfl, ⟨Below.drew ?_, ?_, ?_, ?_, ?_, by omega, by omega, by omega⟩, (((((HY.out.alloc _).alloc _).alloc _).alloc _).alloc _).drew, (((((HZ.out.alloc _).alloc _).alloc _).alloc _).alloc _).drew⟩
   ·exact (((((Below.refl w.heap.size w).alloc (Nat.le_refl _) _).alloc (by simp) _).alloc (by simp; omega) _).alloc (by simp; omega) _).alloc (by simp; omega) _
   ·exact (Ibx.new' _ _ _ _ _ _ (by simp)).drew
   ·exact (Ibx.alloc (Ibx.new' _ _ _ _ _ _ (by simp)) _).drew
   ·exact (Ibx.alloc (Ibx.alloc (Ibx.alloc (Ibx.new' _ _ _ _ _ _ (by simp)) _) _) _).drew
   ·exact (Ibx.alloc (Ibx.alloc (Ibx.new' _ _ _ _ _ _ (by simp)) _) _).drew
 case rest =>
  obtain ⟨p, r, rfl, rfl, hps, hy, hz⟩ := hcut
  have HP := hps
  clear HY HZ
  have HY := hy
  have HZ := hz
  clear hps hy hz
  have hpr : p ≠ r := HP.out.ne
  go_upto_block 0 with fail
  go_cut [] (fun wx => ∃ (s' : Bool) (A' : Option Addr) (n' c' : Nat) (t' : Bool) (B' : Option Addr) (m' d' : Nat) (y' z' : Int), Hid (PS w wx p r s' A' n' c' t' B' m' d') ∧ Hid (IsZ wx s' A' n' c' y' k) ∧ Hid (IsZ wx t' B' m' d' z' k) ∧ 0 < z' ∧ Rat.divInt y' z' = q)
  case first =>
   have r0 := HP.out.i2.c0
   have r1 := HP.out.i2.c1
   have fr0 := HP.out.i2.f 0
   have fr1 := HP.out.i2.f 1
   by_cases hm : m = 0
   ·have hm0 : ((m : Int) == 0) = true := by rw [hm]; rfl
    have HE : Hid (Rat.divInt y 1 = q) := by show _ = _; rw [← HQ.out, if_pos hm]
    clear hm
    go_wp2_with fail
    refine (of_j _ 1 (by omega) (by omega)).mono ?_
    rintro e w1 ⟨s1, A1, n1, c1, rfl, h1, hb1⟩
    have HP1 := lh (HP.out.below hb1)
    have HY1 := lh (HY.out.below hb1)
    have HO1 := lh (h1.isz (k := k) (Nat.le_trans (zl_small (by omega) (by omega)) hk))
    clear h1 hb1 r0 r1 fr0 fr1
    have r0 := HP1.out.i2.c0
    have r1 := HP1.out.i2.c1
    have fr0 := HP1.out.i2.f 0
    have fr1 := HP1.out.i2.f 1
    go_wp2_with fail
    go_meet
    exact ⟨s, A, n, c, s1, A1, n1, c1, y, 1, HP1.out.den, HY1.out.on2 HP1.out.i2.bx, HO1.out.on2 HP1.out.i2.bx, by omega, HE.out⟩
   ·have hm0 : ((m : Int) == 0) = false := by rw [beq_eq_false_iff_ne]; omega
    have HE : Hid (Rat.divInt y z = q) := by show _ = _; rw [← HQ.out, if_neg hm]
    clear hm
    by_cases hz0 : z = 0
    ·have HE0 : Hid (Rat.divInt 0 1 = q) := by show _ = _; rw [← HE.out, hz0, Rat.divInt_zero, Rat.zero_divInt]
     have HS : Hid (z.sign = 0) := by show _ = _; rw [hz0]; rfl
     clear hz0
     go_wp2_with fail
     refine (sign_j HZ.out hk2 0 HS.out).mono ?_
     rintro e w1 ⟨rfl, hb1⟩
     have HP1 := lh (HP.out.below hb1)
     clear hb1 r0 r1 fr0 fr1
     go_wp2_with fail
     refine (of_j _ 1 (by omega) (by omega)).mono ?_
     rintro e w2 ⟨s1, A1, n1, c1, rfl, h1, hb1⟩
     have HP2 := lh (HP1.out.below hb1)
     have HO1 := lh (h1.isz (k := k) (Nat.le_trans (zl_small (by omega) (by omega)) hk))
     clear h1 hb1
     have p0 := HP2.out.i1.c0
     have p1 := HP2.out.i1.c1
     have fp0 := HP2.out.i1.f 0
     have fp1 := HP2.out.i1.f 1
     have r0 := HP2.out.i2.c0
     have r1 := HP2.out.i2.c1
     have fr0 := HP2.out.i2.f 0
     have fr1 := HP2.out.i2.f 1
     go_wp2_with fail
     go_meet
     exact ⟨false, none, 0, 0, s1, A1, n1, c1, 0, 1, HP2.out.num.den, IsZ.nil _ _ _ _ _, (HO1.out.on2 HP2.out.i1.bx).on2 HP2.out.num.i2.bx, by omega, HE0.out⟩
    ·obtain ⟨sg, hsg⟩ : ∃ sg, z.sign = sg := ⟨_, rfl⟩
     have HS := lh hsg
     have hs0 : (sg == 0) = false := by rw [beq_eq_false_iff_ne, ← hsg]; exact fun h => hz0 (Int.sign_eq_zero_iff_zero.1 h)
     have hsgn := HZ.out.sgn hz0
     clear hsg
     cases t with
     | false =>
      have hzp : 0 < z := by unfold zneg at hsgn; have := of_decide_eq_false hsgn.symm; omega
      clear hz0 hsgn
      go_wp2_with fail
      refine (sign_j HZ.out hk2 sg HS.out).mono ?_
      rintro e w1 ⟨rfl, hb1⟩
      have HP1 := lh (HP.out.below hb1)
      have HY1 := lh (HY.out.below hb1)
      have HZ1 := lh (HZ.out.below hb1)
      clear hb1 r0 r1 fr0 fr1
      have r0 := HP1.out.i2.c0
      go_wp2_with fail
      go_meet
      exact ⟨s, A, n, c, false, B, m, d, y, z, HP1.out, HY1.out, HZ1.out, hzp, HE.out⟩
     | true =>
      have hzp : z < 0 := by unfold zneg at hsgn; exact of_decide_eq_true hsgn.symm
      have HE2 : Hid (Rat.divInt (-y) (-z) = q) := by show _ = _; rw [Rat.neg_divInt_neg, HE.out]
      clear hz0 hsgn
      go_wp2_with fail
      refine (sign_j HZ.out hk2 sg HS.out).mono ?_
      rintro e w1 ⟨rfl, hb1⟩
      have HP1 := lh (HP.out.below hb1)
      have HY1 := lh (HY.out.below hb1)
      have HZ1 := lh (HZ.out.below hb1)
      clear hb1 r0 r1 fr0 fr1
      have p0 := HP1.out.i1.c0
      have fp0 := HP1.out.i1.f 0
      have r0 := HP1.out.i2.c0
      have fr0 := HP1.out.i2.f 0
      go_wp2_with fail
      go_meet
      exact ⟨!s, A, n, c, false, B, m, d, -y, -z, HP1.out.turn, ((HY1.out.set HP1.out.i1.bx _ _).set (HP1.out.i2.far hpr.symm _).bx _ _).flip, ((HZ1.out.set HP1.out.i1.bx _ _).set (HP1.out.i2.far hpr.symm _).bx _ _).flip, by omega, HE2.out⟩
  case rest =>
   clear HP HY HZ HQ
   obtain ⟨s', A', n', c', t', B', m', d', y', z', HP, HY, HZ, hzp, hqq⟩ := hcut
   have HE := lh hqq
   clear hqq
   have p0 := HP.out.i1.c0
   have p1 := HP.out.i1.c1
   have r0 := HP.out.i2.c0
   have r1 := HP.out.i2.c1
   have o0 := HP.out.o1.c0
   have o1 := HP.out.o1.c1
   have v0 := HP.out.o2.c0
   have v1 := HP.out.o2.c1
   have fo0 := HP.out.o1.f 0
   have fo1 := HP.out.o1.f 1
   have fv0 := HP.out.o2.f 0
   have fv1 := HP.out.o2.f 1
   have hpp := HP.out.hp
   have hrr := HP.out.hr
   have e1 : w.heap.size + 1 ≠ p := by omega
   have e2 : w.heap.size + 1 + 1 ≠ p := by omega
   have e3 : w.heap.size + 1 ≠ r := by omega
   have e4 : w.heap.size + 1 + 1 ≠ r := by omega
   go_upto_region 8 with fail
   go_region
   all_goals
    go_wp2_with fail
    refine bodyPost_ret (v := .tuple #[.agg #[.bool s', .slice A' n' c'], .agg #[.bool t', .slice B' m' d']]) (by simp [results, Tryz.results132, go_sem, o0, o1, v0, v1]) rfl ?_
    exact ⟨s', A', n', c', t', B', m', d', y', z', rfl, ((HY.out.on2 HP.out.o1.bx).on2 (HP.out.o2.put_far (by omega)).bx).drew, ((HZ.out.on2 HP.out.o1.bx).on2 (HP.out.o2.put_far (by omega)).bx).drew, hzp, HE.out, (below_put2 (below_put2 HP.out.bel (by omega)) (by omega)).drew⟩
