/- leap: two mixes, digit by digit. -/
import Derived.Test.YtginajegbknfhaaLehmerMath
import Derived.BigRegion
import Derived.StillTailTactics
namespace Go.Proofs.Ytginajegbknfhaa
open Go.RowKit

/-- Block g is a blend. -/
def Bl (w : World) (g t l o u b : Nat) : Prop := w.heap[g]? = some (.cells #[.int .u64 (t : Int), .int .u64 (l : Int), .int .u64 (o : Int), .int .u64 (u : Int), .int .u64 (b : Int)] 87 (0, 0))
theorem Bl.c {w : World} {g t l o u b : Nat} (h : Bl w g t l o u b) : w.cell? ⟨g, 0, none⟩ = some (.int .u64 (t : Int)) ∧ w.cell? ⟨g, 1, none⟩ = some (.int .u64 (l : Int)) ∧ w.cell? ⟨g, 2, none⟩ = some (.int .u64 (o : Int)) ∧
    w.cell? ⟨g, 3, none⟩ = some (.int .u64 (u : Int)) ∧ w.cell? ⟨g, 4, none⟩ = some (.int .u64 (b : Int)) := by
  unfold Bl at h
  refine ⟨?_, ?_, ?_, ?_, ?_⟩ <;> rw [cell_of_row w g _ _ _ _ h] <;> rfl
theorem Bl.f {w : World} {g t l o u b : Nat} (h : Bl w g t l o u b) (i : Nat) : w.frozen? ⟨g, i, none⟩ = false := frozen_of_row w g i _ _ h

theorem Bl.s2 {w : World} {g t l o u b : Nat} (h : Bl w g t l o u b) (x : Nat) : Bl (w.setCell ⟨g, 2, none⟩ (.int .u64 (x : Int))) g t l x u b := by
  unfold Bl at h ⊢
  rw [heap_setCell_same _ g 2 _ _ _ h]; rfl
theorem Bl.s3 {w : World} {g t l o u b : Nat} (h : Bl w g t l o u b) (x : Nat) : Bl (w.setCell ⟨g, 3, none⟩ (.int .u64 (x : Int))) g t l o x b := by
  unfold Bl at h ⊢
  rw [heap_setCell_same _ g 3 _ _ _ h]; rfl
theorem Bl.s4 {w : World} {g t l o u b : Nat} (h : Bl w g t l o u b) (x : Nat) : Bl (w.setCell ⟨g, 4, none⟩ (.int .u64 (x : Int))) g t l o u x := by
  unfold Bl at h ⊢
  rw [heap_setCell_same _ g 4 _ _ _ h]; rfl

structure NextPost (w : World) (g t l o u b x y : Nat) (e : Ending) (w' : World) : Prop where
  ret : e = .returned (.int .u64 ((slo (lo (x * t + o)) (lo (y * l + u)) b : Nat) : Int))
  bl : Bl w' g t l (hi (x * t + o)) (hi (y * l + u)) (sbo (lo (x * t + o)) (lo (y * l + u)) b)
  only : Only g w w'

theorem next_mem {w : World} {g t l o u b : Nat} (h : Bl w g t l o u b) (o' u' b' : Nat) (n : Nat) :
    Bl ((((w.setCell ⟨g, 2, none⟩ (.int .u64 (o' : Int))).setCell ⟨g, 3, none⟩ (.int .u64 (u' : Int))).setCell ⟨g, 4, none⟩ (.int .u64 (b' : Int))).drewN n) g t l o' u' b' ∧
    Only g w ((((w.setCell ⟨g, 2, none⟩ (.int .u64 (o' : Int))).setCell ⟨g, 3, none⟩ (.int .u64 (u' : Int))).setCell ⟨g, 4, none⟩ (.int .u64 (b' : Int))).drewN n) :=
  ⟨((h.s2 o').s3 u').s4 b', ((((Only.refl g w).set 2 _).set 3 _).set 4 _).drewN n⟩

set_option maxHeartbeats 4000000 in
theorem next_any (w : World) (g t l o u b x y : Nat) (h : Bl w g t l o u b) (ht : t < B64) (hl : l < B64) (ho : o < B64) (hu : u < B64) (hb : b ≤ 1) (hx : x < B64) (hy : y < B64) :
    Calls Try.prog 97 #[.pointer (some ⟨g, 0, none⟩), .int .u64 x, .int .u64 y] w (NextPost w g t l o u b x y) := by
  obtain ⟨c0, c1, c2, c3, c4⟩ := h.c
  have f2 := h.f 2
  have f3 := h.f 3
  have f4 := h.f 4
  have HP1 := Lib.hid (fun W : World => product_any x t o hx ht ho W)
  have HP2 := Lib.hid (fun W : World => product_any y l u hy hl hu W)
  have HM := Lib.hid (next_mem h (hi (x * t + o)) (hi (y * l + u)) (sbo (lo (x * t + o)) (lo (y * l + u)) b) 2)
  clear h
  have hsub := run_sub (lo (x * t + o)) (lo (y * l + u)) b hb
  go_enter Try.func97, Try.ntmps97
  go_wp2_with fail
  go_region_with (first
    | (go_at_call 85; refine (HP1.out _).mono ?_; rintro e w' ⟨rfl, rfl⟩))
  all_goals
    go_wp2_with fail
    go_region_with (first
      | (go_at_call 85; refine (HP2.out _).mono ?_; rintro e w' ⟨rfl, rfl⟩))
    all_goals
      go_wp2_with fail
      go_ret
      exact ⟨rfl, HM.out.1, HM.out.2⟩
end Go.Proofs.Ytginajegbknfhaa
