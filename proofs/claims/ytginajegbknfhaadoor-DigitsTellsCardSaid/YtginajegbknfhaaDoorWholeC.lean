/- whole: Of, Sign, Cmp, Small. -/
import Derived.Test.YtginajegbknfhaaDoorWholeB
namespace Go.Proofs.YtginajegbknfhaaDoor
open Go.RowKit

set_option maxHeartbeats 2000000 in
theorem zsign_any (w : World) (s : Bool) (A : Option Addr) (c : Nat) (xs : List Nat) (z : Int) (ha : Num w A xs) (hx : zv s (val xs) = z) (hn : xs.length ≤ 1000000) (hc : xs.length ≤ c) :
    Calls Tryd.prog 17 #[.agg #[.bool s, .slice A xs.length c]] w fun e w' => e = .returned (.int .i64 (Int.sign z)) ∧ Below w.heap.size w w' := by
  have HA := Lib.hid ha
  have HX := Lib.hid hx
  clear ha hx
  go_enter Tryd.func17, Tryd.ntmps17
  go_wp2_with fail
  go_region_held3 (fun W => W.cell? ⟨w.heap.size, 0, none⟩ = some (.bool s) ∧ W.cell? ⟨w.heap.size, 1, none⟩ = some (.slice A xs.length c))
   (first | exact C2.alloc (by assumption) _ | exact C2.drew (C2.base _ _ _ _) | assumption)
   (first
    | (go_at_call 40; (with_reducible refine (signOf_any _ _).mono ?_); rintro e w1 ⟨rfl, rfl⟩)
    | (go_at_call 62; refine (sign1_any _ _ c s A xs ?_ ?_ (by omega) hc).mono ?_; (repeat (first | exact HA.out | (with_reducible refine Num.drew ?_) | (with_reducible refine Num.alloc ?_ _))); (exact Sbx.c (Sbx.new' _ s _ (by simp))); rintro e w2 ⟨rfl, rfl⟩))
  all_goals
    go_wp2_with fail
    go_ret
    rw [HX.out]
    refine ⟨rfl, ?_⟩
    repeat (first | exact Below.refl _ _ | (with_reducible refine Below.drew ?_) | (with_reducible refine Below.alloc ?_ (by first | exact Nat.le_refl _ | (simp; done) | (simp; omega)) _))

/-- How y stands to z. -/
def zcmp (y z : Int) : Int := if y < z then -1 else if z < y then 1 else 0
theorem zcmp_lt {y z : Int} (h : y < z) : zcmp y z = -1 := if_pos h
theorem zcmp_gt {y z : Int} (h : z < y) : zcmp y z = 1 := by unfold zcmp; rw [if_neg (by omega), if_pos h]
theorem zcmp_eq (y : Int) : zcmp y y = 0 := by unfold zcmp; rw [if_neg (by omega), if_neg (by omega)]

theorem zcmp_sign {y z : Int} (h : y.sign ≠ z.sign) : zcmp y.sign z.sign = zcmp y z := by
  rcases Int.lt_trichotomy y 0 with h1 | h1 | h1 <;> rcases Int.lt_trichotomy z 0 with h2 | h2 | h2
  all_goals
    first
      | rw [Int.sign_eq_neg_one_of_neg h1] at h ⊢
      | rw [Int.sign_eq_one_of_pos h1] at h ⊢
      | rw [h1] at h ⊢
    first
      | rw [Int.sign_eq_neg_one_of_neg h2] at h ⊢
      | rw [Int.sign_eq_one_of_pos h2] at h ⊢
      | rw [h2] at h ⊢
  all_goals first | exact absurd rfl h | skip
  all_goals unfold zcmp
  all_goals simp
  all_goals omega

theorem zcmp_size {s t : Bool} {a b : Nat} (h : (zv s a).sign = (zv t b).sign) : (zv s a).sign * cmpv a b = zcmp (zv s a) (zv t b) := by
  rcases Nat.eq_zero_or_pos a with ha | ha
  · subst ha
    rw [zv_zero] at h ⊢
    have hb : zv t b = 0 := Int.sign_eq_zero_iff_zero.1 h.symm
    rw [hb, zcmp_eq]
    exact Int.zero_mul _
  · have e1 : (zv true a).sign = -1 := Int.sign_eq_neg_one_of_neg (by simp only [zv, if_true]; omega)
    have e2 : (zv false a).sign = 1 := Int.sign_eq_one_of_pos (by simp only [zv]; rw [if_neg (by simp)]; omega)
    have hb : 0 < b := by
      rcases Nat.eq_zero_or_pos b with hb | hb
      · subst hb
        rw [zv_zero t] at h
        cases s
        · rw [e2] at h; exact absurd h (by decide)
        · rw [e1] at h; exact absurd h (by decide)
      · exact hb
    have e3 : (zv true b).sign = -1 := Int.sign_eq_neg_one_of_neg (by simp only [zv, if_true]; omega)
    have e4 : (zv false b).sign = 1 := Int.sign_eq_one_of_pos (by simp only [zv]; rw [if_neg (by simp)]; omega)
    cases s <;> cases t <;> simp only [e1, e2, e3, e4] at h ⊢
    · unfold cmpv zcmp zv
      simp only [Bool.false_eq_true, if_false]
      repeat' split
      all_goals omega
    · exact absurd h (by decide)
    · exact absurd h (by decide)
    · unfold cmpv zcmp zv
      simp only [if_true]
      repeat' split
      all_goals omega
theorem cmpv_bound (a b : Nat) : -1 ≤ cmpv a b ∧ cmpv a b ≤ 1 := by unfold cmpv; repeat' split
                                                                    all_goals omega
theorem zcmp_bound (y z : Int) : -1 ≤ zcmp y z ∧ zcmp y z ≤ 1 := by
  unfold zcmp; repeat' split
  all_goals omega

end Go.Proofs.YtginajegbknfhaaDoor
