/- WholeOrder, plain. -/
import Derived.Test.YtmcfdgcncpfilaaWholeJ
namespace Go.Proofs.Ytmcfdgcncpfilaa
open Go.RowKit

/-- An operation, behind a name: what is not wanted need not be tried. -/
def hideP (o : Op) : Op := o
theorem zcmp_sub (y z : Int) : zcmp y z = (y - z).sign := by
  rcases Int.lt_trichotomy y z with h | h | h
  · rw [zcmp_lt h, Int.sign_eq_neg_one_of_neg (by omega)]
  · rw [h, zcmp_eq, Int.sub_self]; rfl
  · rw [zcmp_gt h, Int.sign_eq_one_of_pos (by omega)]
theorem zcmp_swap (y z : Int) : zcmp z y = - zcmp y z := by
  rw [zcmp_sub, zcmp_sub, ← Int.sign_neg]; congr 1; omega
theorem zcmp_pos {y z : Int} : 0 < zcmp y z ↔ z < y := by unfold zcmp; split <;> (try split) <;> omega
theorem zcmp_trans {a b c : Int} (h1 : ¬ 0 < zcmp a b) (h2 : ¬ 0 < zcmp b c) : zcmp a c ≤ 0 := by
  rw [zcmp_pos] at h1 h2
  have : ¬ 0 < zcmp a c := by rw [zcmp_pos]; omega
  omega
theorem zdm_back {a b : Int} (h : b ≠ 0) : a / b * b + zrem a b = a := by unfold zrem; rw [if_neg h]; have := Int.mul_ediv_add_emod a b; rw [Int.mul_comm] at this; exact this
theorem zrem_range {a b : Int} (h : b ≠ 0) : 0 ≤ zrem a b ∧ zrem a b < ((b.natAbs : Nat) : Int) := by
  unfold zrem; rw [if_neg h]
  exact ⟨Int.emod_nonneg a h, Int.emod_lt a h⟩
end Go.Proofs.Ytmcfdgcncpfilaa
