/- leap, walked: its first region. -/
import Derived.Test.YtginajegbknfhaaLeap
import Derived.Test.YtginajegbknfhaaLeading2
import Derived.Test.YtginajegbknfhaaLeapMath
import Derived.Deep.RegionHeld3
import Derived.Deep.DeepCutAuto
import Derived.Deep.CutBlock
import Derived.Deep.LoopGhost
namespace Go.Proofs.Ytginajegbknfhaa
open Go.RowKit

set_option maxHeartbeats 1000000 in
theorem turned_at (w : World) (t l : Nat) :
    Calls Try.prog 89 #[.agg #[.int .u64 (t : Int), .int .u64 (l : Int)]] w fun e w' => e = .returned (.agg #[.int .u64 (l : Int), .int .u64 (t : Int)]) ∧
      w' = (w.alloc (.cells #[.int .u64 (t : Int), .int .u64 (l : Int)] 74)).alloc (.cells #[.int .u64 (l : Int), .int .u64 (t : Int)] 74) := by
  go_enter Try.func89, Try.ntmps89
  go_wp2
  exact bodyPost_ret (v := .agg #[.int .u64 (l : Int), .int .u64 (t : Int)]) (by simp [results, Try.results89, go_sem]) rfl ⟨rfl, rfl⟩


def Boxed (p t1 l1 t2 l2 : Nat) (W : World) : Prop :=
  W.cell? ⟨p, 0, none⟩ = some (.int .u64 (t1 : Int)) ∧ W.cell? ⟨p, 1, none⟩ = some (.int .u64 (l1 : Int)) ∧ W.cell? ⟨p + 1, 0, none⟩ = some (.int .u64 (t2 : Int)) ∧ W.cell? ⟨p + 1, 1, none⟩ = some (.int .u64 (l2 : Int))

theorem Boxed.alloc {p t1 l1 t2 l2 : Nat} {W : World} (o : Obj) (h : Boxed p t1 l1 t2 l2 W) : Boxed p t1 l1 t2 l2 (W.alloc o) := by
  obtain ⟨h1, h2, h3, h4⟩ := h
  refine ⟨?_, ?_, ?_, ?_⟩
  · rw [World.cell?_alloc_some _ _ _ (by rw [h1]; rfl)]; exact h1
  · rw [World.cell?_alloc_some _ _ _ (by rw [h2]; rfl)]; exact h2
  · rw [World.cell?_alloc_some _ _ _ (by rw [h3]; rfl)]; exact h3
  · rw [World.cell?_alloc_some _ _ _ (by rw [h4]; rfl)]; exact h4

theorem Boxed.drew {p t1 l1 t2 l2 : Nat} {W : World} (h : Boxed p t1 l1 t2 l2 W) : Boxed p t1 l1 t2 l2 W.drew := h

theorem Boxed.base (w : World) (t1 l1 t2 l2 : Nat) (T U : TypeId) : Boxed w.heap.size t1 l1 t2 l2 ((w.alloc (.cells #[.int .u64 (t1 : Int), .int .u64 (l1 : Int)] T)).alloc (.cells #[.int .u64 (t2 : Int), .int .u64 (l2 : Int)] U)) := by
  refine ⟨?_, ?_, ?_, ?_⟩ <;> simp [go_sem]

theorem Bl.alloc {w : World} {g t l o u b : Nat} (h : Bl w g t l o u b) (x : Obj) : Bl (w.alloc x) g t l o u b := by
  unfold Bl at h ⊢
  exact (Below.heap_alloc w x g (lt_of_block h)).trans h
theorem Bl.drew {w : World} {g t l o u b : Nat} (h : Bl w g t l o u b) : Bl w.drew g t l o u b := h
theorem Bl.new (w : World) (g t l : Nat) (hg : g = w.heap.size) : Bl (w.alloc (.cells #[.int .u64 (t : Int), .int .u64 (l : Int), .int .u64 0, .int .u64 0, .int .u64 0] 87)) g t l 0 0 0 := by
  subst hg; unfold Bl; rw [heap_alloc_new]; rfl
theorem size_al (w : World) (o : Obj) : (w.alloc o).heap.size = w.heap.size + 1  := by
  show (w.heap.push o).size = _
  simp

structure LeapAt (w : World) (t1 l1 t2 l2 p1 p2 : Nat) (W : World) : Prop where
  b1 : Bl W p1 t1 l1 0 0 0
  b2 : Bl W p2 l2 t2 0 0 0
  ne : p1 ≠ p2
  g1 : w.heap.size ≤ p1
  g2 : w.heap.size ≤ p2
  bel : Below w.heap.size w W

end Go.Proofs.Ytginajegbknfhaa
