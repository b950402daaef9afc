/- Words for memory: a slice that reads as a list of digits, and what calls hand back. -/
import Derived.Test.YtmbnlhedbedcdaaGreatRows
import Derived.Test.YtmbnlhedbedcdaaGreatNum
import Derived.WalkKit
import Derived.WalkSpells
import Derived.WalkLawsBesides
import Derived.Lib.Hide
import Derived.Deep.OwnRows
import Derived.Laws.CopyOwn
import Derived.Laws.Externs
namespace Go.Proofs.YtmbnlhedbedcdaaGreat
open Go.RowKit

/-- The slice at A, of as many cells as xs, reads as the digits xs. -/
def Num (w : World) (A : Option Addr) (xs : List Nat) : Prop :=
  Digs xs ∧ (xs ≠ [] → ∃ b off, A = some ⟨b, off, none⟩ ∧ b < w.heap.size ∧ ∀ i, i < xs.length → w.cell? ⟨b, off + i, none⟩ = some (.int .u64 ((dg xs i : Nat) : Int)))

theorem Num.digs {w : World} {A : Option Addr} {xs : List Nat} (h : Num w A xs) : Digs xs := h.1
theorem Num.nil (w : World) (A : Option Addr) : Num w A [] := ⟨Digs.nil, fun h => absurd rfl h⟩
theorem Num.at_ {w : World} {A : Option Addr} {xs : List Nat} (h : Num w A xs) (hp : 0 < xs.length) :
    ∃ b off, A = some ⟨b, off, none⟩ ∧ b < w.heap.size ∧ ∀ i, i < xs.length → w.cell? ⟨b, off + i, none⟩ = some (.int .u64 ((dg xs i : Nat) : Int)) :=
  h.2 (by rintro rfl; simp at hp)
theorem Num.below {w w' : World} {A : Option Addr} {xs : List Nat} (h : Num w A xs) (hb : Below w.heap.size w w') : Num w' A xs :=
  ⟨h.1, fun hn => by
    obtain ⟨b, off, e, hlt, hc⟩ := h.2 hn
    exact ⟨b, off, e, Nat.lt_of_lt_of_le hlt hb.size, fun i hi => (hb.cell (p := ⟨b, off + i, none⟩) hlt).trans (hc i hi)⟩⟩
theorem Num.alloc {w : World} {A : Option Addr} {xs : List Nat} (h : Num w A xs) (o : Obj) : Num (w.alloc o) A xs :=
  h.below ((Below.refl _ _).alloc (Nat.le_refl _) o)
theorem Num.drew {w : World} {A : Option Addr} {xs : List Nat} (h : Num w A xs) : Num w.drew A xs := h
theorem Num.drewN {w : World} {A : Option Addr} {xs : List Nat} (h : Num w A xs) (n : Nat) : Num (w.drewN n) A xs := h
theorem Num.take {w : World} {A : Option Addr} {xs : List Nat} (h : Num w A xs) (k : Nat) : Num w A (xs.take k) :=
  ⟨h.1.take k, fun hn => by
    obtain ⟨b, off, e, hlt, hc⟩ := h.2 (by rintro rfl; simp at hn)
    refine ⟨b, off, e, hlt, fun i hi => ?_⟩
    rw [List.length_take] at hi
    rw [dg_take (by omega)]
    exact hc i (by omega)⟩
theorem Num.of_row {w : World} {b n : Nat} {t : TypeId} {xs : List Nat} (hd : Digs xs) (hl : xs.length = n) (h : w.rowIs b t n (fun i => .int .u64 ((dg xs i : Nat) : Int))) : Num w (some ⟨b, 0, none⟩) xs :=
  ⟨hd, fun _ => ⟨b, 0, rfl, h.lt, fun i hi => by rw [Nat.zero_add]; exact h.cell (by omega)⟩⟩

/-- What a call hands back that tells the number n in new memory, or in memory that was there: old memory is as it was. -/
def RetN (w : World) (n : Nat) (e : Ending) (w' : World) : Prop :=
  ∃ A c, e = .returned (.slice A (dig n).length c) ∧ (dig n).length ≤ c ∧ Num w' A (dig n) ∧ Below w.heap.size w w'

/-- The same where the world is the same. -/
def RetV (w : World) (n : Nat) (e : Ending) (w' : World) : Prop :=
  ∃ A c, e = .returned (.slice A (dig n).length c) ∧ (dig n).length ≤ c ∧ Num w A (dig n) ∧ w = w'

def RetI (w : World) (n : Int) (e : Ending) (w' : World) : Prop := e = .returned (.int .i64 n) ∧ Below w.heap.size w w'
def RetB (w : World) (b : Bool) (e : Ending) (w' : World) : Prop := e = .returned (.bool b) ∧ Below w.heap.size w w'

theorem bcell {W w1 : World} {B : Nat} (hb : Below B W w1) : (∀ b o, b < B → w1.cell? ⟨b, o, none⟩ = W.cell? ⟨b, o, none⟩) ∧ (∀ b o, b < B → w1.frozen? ⟨b, o, none⟩ = W.frozen? ⟨b, o, none⟩) :=
  ⟨fun b o h => hb.cell (p := ⟨b, o, none⟩) h, fun b o h => hb.frozen (p := ⟨b, o, none⟩) h⟩

/-- A digit as a cell. -/
def dcell (x : Nat) : Value := .int .u64 (x : Int)

/-- Block g is just the digits xs, none frozen. -/
def Blk (w : World) (g : Nat) (xs : List Nat) : Prop := w.heap[g]? = some (.cells (xs.map dcell).toArray 127 (0, 0))

section
variable {w w' : World} {g : Nat} {xs : List Nat}
theorem Blk.lt (h : Blk w g xs) : g < w.heap.size := lt_of_block h
theorem Blk.cell (h : Blk w g xs) {i : Nat} (hi : i < xs.length) : w.cell? ⟨g, i, none⟩ = some (.int .u64 ((dg xs i : Nat) : Int)) := by
  unfold Blk at h
  rw [cell_of_row w g i _ _ _ h, List.getElem?_toArray, List.getElem?_map, List.getElem?_eq_getElem hi, dg_of_lt hi]; rfl
theorem Blk.frozen (h : Blk w g xs) (i : Nat) : w.frozen? ⟨g, i, none⟩ = false := frozen_of_row w g i _ _ h
theorem Blk.of_heap (h : Blk w g xs) (e : w'.heap[g]? = w.heap[g]?) : Blk w' g xs := e.trans h
theorem Blk.below {B : Nat} (h : Blk w g xs) (hb : Below B w w') (hg : g < B) : Blk w' g xs := (hb.block g hg).trans h
theorem Blk.alloc (h : Blk w g xs) (o : Obj) : Blk (w.alloc o) g xs := (Below.heap_alloc w o g h.lt).trans h
theorem Blk.drew (h : Blk w g xs) : Blk w.drew g xs := h
theorem Blk.drewN (h : Blk w g xs) (n : Nat) : Blk (w.drewN n) g xs := h
theorem Blk.set_ (h : Blk w g xs) (i x : Nat) : Blk (w.setCell ⟨g, i, none⟩ (.int .u64 (x : Int))) g (xs.set i x) := by
  unfold Blk at h ⊢
  simp only [World.setCell, Array.getElem?_modify, h]
  simp [dcell, List.map_set]
theorem Blk.far (h : Blk w g xs) {p : Addr} (hp : g ≠ p.block) (u : Value) : Blk (w.setCell p u) g xs := (Below.heap_setCell w p u g hp).trans h
theorem Blk.made (w : World) (n : Nat) : Blk (w.alloc (.cells (madeCells #[.int .u64 0] n) 127)) w.heap.size (List.replicate n 0) := by
  have h1 : madeCells #[.int .u64 0] n = ((List.replicate n 0).map dcell).toArray := by
    apply Array.ext'
    rw [toList_madeCells_one, List.map_replicate]; rfl
  unfold Blk
  rw [heap_alloc_new, h1]
theorem Blk.num (h : Blk w g xs) (hd : Digs xs) : Num w (some ⟨g, 0, none⟩) xs :=
  ⟨hd, fun _ => ⟨g, 0, rfl, h.lt, fun i hi => by rw [Nat.zero_add]; exact h.cell hi⟩⟩
theorem Blk.num_drop (h : Blk w g xs) (hd : Digs xs) (k : Nat) : Num w (some ⟨g, k, none⟩) (xs.drop k) :=
  ⟨hd.drop k, fun _ => ⟨g, k, rfl, h.lt, fun i hi => by
    rw [List.length_drop] at hi
    rw [dg_drop]
    exact h.cell (by omega)⟩⟩
end

/-- The element type's row of the table. -/
theorem info_u64 : (Tryz.prog.info? 127).map (fun i => (i.zero, i.size, i.bytes)) = some (some (.int .u64 0), 1, 8) := by kernel_rfl
theorem under_u64s : Tryz.prog.underlying 23 = some (.slice 127) := by kernel_rfl

/-- make([]uint64, n). -/
theorem run_make_u64 (n : Nat) (hn : n ≤ 35184372088832) (w : World) :
    (Instr.makeSlice 23 (.int .i64 (n : Int)) (.int .i64 (n : Int))).run Tryz.prog w = .ok (.slice (some ⟨w.heap.size, 0, none⟩) n n) (w.alloc (.cells (madeCells #[.int .u64 0] n) 127)) :=
  run_make_row' _ _ _ 8 under_u64s info_u64 rfl .i64 .i64 n (by omega) (by omega) w

theorem run_make_u64' (z : Int) (n : Nat) (hz : z = n) (hn : n ≤ 35184372088832) (w : World) :
    (Instr.makeSlice 23 (.int .i64 z) (.int .i64 z)).run Tryz.prog w = .ok (.slice (some ⟨w.heap.size, 0, none⟩) n n) (w.alloc (.cells (madeCells #[.int .u64 0] n) 127)) := by
  subst hz
  exact run_make_u64 n hn w

theorem Blk.made2 (w : World) (o : Obj) (n : Nat) : Blk ((w.alloc o).alloc (.cells (madeCells #[.int .u64 0] n) 127)) (w.heap.size + 1) (List.replicate n 0) := by
  have h := Blk.made (w.alloc o) n
  rwa [show (w.alloc o).heap.size = w.heap.size + 1 by simp] at h
theorem cell_made2 (w : World) (v : Value) (t : TypeId) {o : Obj} : ((w.alloc (.cells #[v] t)).alloc o).cell? ⟨w.heap.size, 0, none⟩ = some v :=
  cell_of_one (heap_alloc2_old w _ _)

/-- Just block g may have turned. -/
structure Only (g : Nat) (w w' : World) : Prop where
  os : w'.os = w.os
  tape : w'.tape = w.tape
  output : w'.output = w.output
  size : w'.heap.size = w.heap.size
  block : ∀ i, i ≠ g → w'.heap[i]? = w.heap[i]?
theorem Only.refl (g : Nat) (w : World) : Only g w w := ⟨rfl, rfl, rfl, rfl, fun _ _ => rfl⟩
theorem Only.drew {g : Nat} {w w' : World} (h : Only g w w') : Only g w w'.drew := ⟨h.os, h.tape, h.output, h.size, h.block⟩
theorem Only.drewN {g : Nat} {w w' : World} (h : Only g w w') (n : Nat) : Only g w (w'.drewN n) := ⟨h.os, h.tape, h.output, h.size, h.block⟩
theorem Only.set {g : Nat} {w w' : World} (h : Only g w w') (i : Nat) (v : Value) : Only g w (w'.setCell ⟨g, i, none⟩ v) :=
  ⟨h.os, h.tape, h.output, by simpa [World.setCell] using h.size, fun j hj => (Below.heap_setCell w' _ v j hj).trans (h.block j hj)⟩
theorem Only.trans {g : Nat} {a b c : World} (h : Only g a b) (k : Only g b c) : Only g a c :=
  ⟨k.os.trans h.os, k.tape.trans h.tape, k.output.trans h.output, k.size.trans h.size, fun i hi => (k.block i hi).trans (h.block i hi)⟩
theorem Only.below {g B : Nat} {w w' : World} (h : Only g w w') (hB : B ≤ g) : Below B w w' :=
  ⟨h.os, h.tape, h.output, Nat.le_of_eq h.size.symm, fun i hi => h.block i (by omega)⟩
theorem Only.cell {g : Nat} {w w' : World} (h : Only g w w') {p : Addr} (hp : p.block ≠ g) : w'.cell? p = w.cell? p := World.cell?_of_block (h.block p.block hp)
theorem Only.num {g : Nat} {w w' : World} (h : Only g w w') {A : Option Addr} {xs : List Nat} (hA : Num w A xs) (hne : ∀ p, A = some p → p.block ≠ g) : Num w' A xs :=
  ⟨hA.1, fun hn => by
    obtain ⟨b, off, e, hlt, hc⟩ := hA.2 hn
    have hbg : b ≠ g := hne _ e
    exact ⟨b, off, e, by rw [h.size]; exact hlt, fun i hi => (h.cell (p := ⟨b, off + i, none⟩) hbg).trans (hc i hi)⟩⟩
theorem Blk.below_drew {w : World} {g : Nat} {xs : List Nat} (h : Blk w g xs) : Blk w.drew g xs := h
theorem Only.blk {g g' : Nat} {w w' : World} (h : Only g w w') {xs : List Nat} (hb : Blk w g' xs) (hne : g' ≠ g) : Blk w' g' xs := (h.block g' hne).trans hb

end Go.Proofs.YtmbnlhedbedcdaaGreat
