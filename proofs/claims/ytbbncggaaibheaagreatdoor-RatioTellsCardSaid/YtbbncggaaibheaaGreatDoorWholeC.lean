/- whole: Of, Sign, Cmp, Small. -/
import Derived.Test.YtbbncggaaibheaaGreatDoorWholeB
namespace Go.Proofs.YtbbncggaaibheaaGreatDoor
open Go.RowKit

set_option maxHeartbeats 2000000 in
theorem zsign_any (w : World) (s : Bool) (A : Option Addr) (c : Nat) (xs : List Nat) (z : Int) (ha : Num w A xs) (hx : zv s (val xs) = z) (hn : xs.length ≤ 1000000) (hc : xs.length ≤ c) :
    Calls Tryz.prog 68 #[.agg #[.bool s, .slice A xs.length c]] w fun e w' => e = .returned (.int .i64 (Int.sign z)) ∧ Below w.heap.size w w' := by
  have HA := Lib.hid ha
  have HX := Lib.hid hx
  clear ha hx
  go_enter Tryz.func68, Tryz.ntmps68
  go_wp2_with fail
  go_region_held3 (fun W => W.cell? ⟨w.heap.size, 0, none⟩ = some (.bool s) ∧ W.cell? ⟨w.heap.size, 1, none⟩ = some (.slice A xs.length c))
   (first | exact C2.alloc (by assumption) _ | exact C2.drew (C2.base _ _ _ _) | assumption)
   (first
    | (go_at_call 65; (with_reducible refine (signOf_any _ _).mono ?_); rintro e w1 ⟨rfl, rfl⟩)
    | (go_at_call 119; refine (sign1_any _ _ c s A xs ?_ ?_ (by omega) hc).mono ?_; (repeat (first | exact HA.out | (with_reducible refine Num.drew ?_) | (with_reducible refine Num.alloc ?_ _))); (exact Sbx.c (Sbx.new' _ s _ (by simp))); rintro e w2 ⟨rfl, rfl⟩))
  all_goals
    go_wp2_with fail
    go_ret
    rw [HX.out]
    refine ⟨rfl, ?_⟩
    repeat (first | exact Below.refl _ _ | (with_reducible refine Below.drew ?_) | (with_reducible refine Below.alloc ?_ (by first | exact Nat.le_refl _ | (simp; done) | (simp; omega)) _))

/-- How y stands to z. -/
def zcmp (y z : Int) : Int := if y < z then -1 else if z < y then 1 else 0
theorem zcmp_lt {y z : Int} (h : y < z) : zcmp y z = -1 := if_pos h
theorem zcmp_gt {y z : Int} (h : z < y) : zcmp y z = 1 := by unfold zcmp; rw [if_neg (by omega), if_pos h]
theorem zcmp_eq (y : Int) : zcmp y y = 0 := by unfold zcmp; rw [if_neg (by omega), if_neg (by omega)]

set_option maxHeartbeats 400000 in
theorem isnan_any (w : World) (x : Int) : Calls Tryz.prog 126 #[.int .i64 x] w fun e w' => e = .returned (.bool false) ∧ w = w' := by
  go_enter Tryz.func126, Tryz.ntmps126
  go_wp2
  go_ret
  exact ⟨rfl, rfl⟩

set_option maxHeartbeats 1000000 in
theorem compare_any (w : World) (x y : Int) : Calls Tryz.prog 75 #[.int .i64 x, .int .i64 y] w fun e w' => e = .returned (.int .i64 (zcmp x y)) ∧ w = w' := by
  rcases Int.lt_trichotomy x y with h | h | h
  · have hz := Lib.hid (zcmp_lt h)
    go_enter Tryz.func75, Tryz.ntmps75
    go_wp2_with fail
    refine (isnan_any _ _).mono ?_
    rintro e w' ⟨rfl, rfl⟩
    go_wp2_with fail
    refine (isnan_any _ _).mono ?_
    rintro e w' ⟨rfl, rfl⟩
    go_wp2_with fail
    go_ret
    exact ⟨by rw [hz.out]; rfl, rfl⟩
  · subst h
    have hz := Lib.hid (zcmp_eq x)
    have h1 : ¬ x < x := by omega
    go_enter Tryz.func75, Tryz.ntmps75
    go_wp2_with fail
    refine (isnan_any _ _).mono ?_
    rintro e w' ⟨rfl, rfl⟩
    go_wp2_with fail
    refine (isnan_any _ _).mono ?_
    rintro e w' ⟨rfl, rfl⟩
    go_wp2_with fail
    go_ret
    exact ⟨by rw [hz.out]; rfl, rfl⟩
  · have hz := Lib.hid (zcmp_gt h)
    have h1 : ¬ x < y := by omega
    go_enter Tryz.func75, Tryz.ntmps75
    go_wp2_with fail
    refine (isnan_any _ _).mono ?_
    rintro e w' ⟨rfl, rfl⟩
    go_wp2_with fail
    refine (isnan_any _ _).mono ?_
    rintro e w' ⟨rfl, rfl⟩
    go_wp2_with fail
    go_ret
    exact ⟨by rw [hz.out]; rfl, rfl⟩

theorem zcmp_sign {y z : Int} (h : y.sign ≠ z.sign) : zcmp y.sign z.sign = zcmp y z := by
  rcases Int.lt_trichotomy y 0 with h1 | h1 | h1 <;> rcases Int.lt_trichotomy z 0 with h2 | h2 | h2
  all_goals
    first
      | rw [Int.sign_eq_neg_one_of_neg h1] at h ⊢
      | rw [Int.sign_eq_one_of_pos h1] at h ⊢
      | rw [h1] at h ⊢
    first
      | rw [Int.sign_eq_neg_one_of_neg h2] at h ⊢
      | rw [Int.sign_eq_one_of_pos h2] at h ⊢
      | rw [h2] at h ⊢
  all_goals first | exact absurd rfl h | skip
  all_goals unfold zcmp
  all_goals simp
  all_goals omega

theorem zcmp_size {s t : Bool} {a b : Nat} (h : (zv s a).sign = (zv t b).sign) : (zv s a).sign * cmpv a b = zcmp (zv s a) (zv t b) := by
  rcases Nat.eq_zero_or_pos a with ha | ha
  · subst ha
    rw [zv_zero] at h ⊢
    have hb : zv t b = 0 := Int.sign_eq_zero_iff_zero.1 h.symm
    rw [hb, zcmp_eq]
    exact Int.zero_mul _
  · have e1 : (zv true a).sign = -1 := Int.sign_eq_neg_one_of_neg (by simp only [zv, if_true]; omega)
    have e2 : (zv false a).sign = 1 := Int.sign_eq_one_of_pos (by simp only [zv]; rw [if_neg (by simp)]; omega)
    have hb : 0 < b := by
      rcases Nat.eq_zero_or_pos b with hb | hb
      · subst hb
        rw [zv_zero t] at h
        cases s
        · rw [e2] at h; exact absurd h (by decide)
        · rw [e1] at h; exact absurd h (by decide)
      · exact hb
    have e3 : (zv true b).sign = -1 := Int.sign_eq_neg_one_of_neg (by simp only [zv, if_true]; omega)
    have e4 : (zv false b).sign = 1 := Int.sign_eq_one_of_pos (by simp only [zv]; rw [if_neg (by simp)]; omega)
    cases s <;> cases t <;> simp only [e1, e2, e3, e4] at h ⊢
    · unfold cmpv zcmp zv
      simp only [Bool.false_eq_true, if_false]
      repeat' split
      all_goals omega
    · exact absurd h (by decide)
    · exact absurd h (by decide)
    · unfold cmpv zcmp zv
      simp only [if_true]
      repeat' split
      all_goals omega
theorem cmpv_bound (a b : Nat) : -1 ≤ cmpv a b ∧ cmpv a b ≤ 1 := by unfold cmpv; repeat' split
                                                                    all_goals omega
theorem zcmp_bound (y z : Int) : -1 ≤ zcmp y z ∧ zcmp y z ≤ 1 := by
  unfold zcmp; repeat' split
  all_goals omega

set_option maxHeartbeats 2000000 in
theorem zcmp_any (w : World) (s t : Bool) (A B : Option Addr) (c d : Nat) (xs ys : List Nat) (y z : Int) (ha : Num w A xs) (hb : Num w B ys) (hx : zv s (val xs) = y) (hy : zv t (val ys) = z) (hn : xs.length ≤ 400000) (hm : ys.length ≤ 400000) (hc : xs.length ≤ c) (hd : ys.length ≤ d) :
    Calls Tryz.prog 76 #[.agg #[.bool s, .slice A xs.length c], .agg #[.bool t, .slice B ys.length d]] w (RetI w (zcmp y z)) := by
  have HA := Lib.hid ha
  have HB := Lib.hid hb
  have HX := Lib.hid hx
  have HY := Lib.hid hy
  by_cases hs : y.sign = z.sign
  · have hw : IntKind.i64.wrap (y.sign * cmpv (val xs) (val ys)) = zcmp y z := by
      have h1 : y.sign * cmpv (val xs) (val ys) = zcmp y z := by rw [← hx, ← hy] at hs ⊢; exact zcmp_size hs
      rw [h1]
      have := zcmp_bound y z
      exact IntWalk.i64_in _ (by omega)
    have hb0 : (y.sign != z.sign) = false := by simp [hs]
    clear ha hb hx hy hs
    go_enter Tryz.func76, Tryz.ntmps76
    go_wp2_with fail
    go_region_held3 (fun W => W.cell? ⟨w.heap.size, 0, none⟩ = some (.bool s) ∧ W.cell? ⟨w.heap.size, 1, none⟩ = some (.slice A xs.length c) ∧ W.cell? ⟨w.heap.size + 1, 0, none⟩ = some (.bool t) ∧ W.cell? ⟨w.heap.size + 1, 1, none⟩ = some (.slice B ys.length d))
     (first | exact C4.below hb2 (by assumption) | exact C4.below hb1 (by assumption) | exact C4.drew (C4.base _ _ _ _ _ _ _) | assumption)
     (first
      | (go_at_call_of 68 (Value.slice A xs.length c); refine (zsign_any _ s A c xs y ?_ HX.out (by omega) hc).mono ?_; (repeat (first | exact HA.out | (with_reducible refine Num.drew ?_) | (with_reducible refine Num.alloc ?_ _))); rintro e w1 ⟨rfl, hb1⟩)
      | (go_at_call_of 68 (Value.slice B ys.length d); refine (zsign_any _ t B d ys z ?_ HY.out (by omega) hd).mono ?_; (refine Num.below ?_ hb1); (repeat (first | exact HB.out | (with_reducible refine Num.drew ?_) | (with_reducible refine Num.alloc ?_ _))); rintro e w2 ⟨rfl, hb2⟩))
    have W2 : Below w.heap.size w w2 := Below.trans (Below.trans (Below.drew (Below.alloc (Below.alloc (Below.refl _ _) (Nat.le_refl _) _) (by simp) _)) (hb1.mono (by simp; omega))) (hb2.mono (Nat.le_trans (by simp; omega) hb1.size))
    obtain ⟨k0, k1, k2, k3⟩ : C4 w.heap.size (.bool s) (.slice A xs.length c) (.bool t) (.slice B ys.length d) w2 := C4.below hb2 (C4.below hb1 (C4.drew (C4.base _ _ _ _ _ _ _)))
    have hwb := Lib.hid W2
    clear W2
    have HC := Lib.hid (cmp_v w2 A B c d xs ys _ _ (by (refine Num.below ?_ hb2); (refine Num.below ?_ hb1); (repeat (first | exact HA.out | (with_reducible refine Num.drew ?_) | (with_reducible refine Num.alloc ?_ _)))) (by (refine Num.below ?_ hb2); (refine Num.below ?_ hb1); (repeat (first | exact HB.out | (with_reducible refine Num.drew ?_) | (with_reducible refine Num.alloc ?_ _)))) rfl rfl (by omega) (by omega) hc hd)
    clear hb1 hb2
    go_wp2_with fail
    refine HC.out.mono ?_
    rintro e w3 ⟨rfl, hb3⟩
    go_wp2_with fail
    go_ret
    exact ⟨rfl, hwb.out.trans (hb3.mono hwb.out.size)⟩
  · have hb0 : (y.sign != z.sign) = true := by simp [hs]
    have hz := Lib.hid (zcmp_sign hs)
    clear ha hb hx hy hs
    go_enter Tryz.func76, Tryz.ntmps76
    go_wp2_with fail
    go_region_held3 (fun W => W.cell? ⟨w.heap.size, 0, none⟩ = some (.bool s) ∧ W.cell? ⟨w.heap.size, 1, none⟩ = some (.slice A xs.length c) ∧ W.cell? ⟨w.heap.size + 1, 0, none⟩ = some (.bool t) ∧ W.cell? ⟨w.heap.size + 1, 1, none⟩ = some (.slice B ys.length d))
     (first | exact C4.below hb2 (by assumption) | exact C4.below hb1 (by assumption) | exact C4.drew (C4.base _ _ _ _ _ _ _) | assumption)
     (first
      | (go_at_call_of 68 (Value.slice A xs.length c); refine (zsign_any _ s A c xs y ?_ HX.out (by omega) hc).mono ?_; (repeat (first | exact HA.out | (with_reducible refine Num.drew ?_) | (with_reducible refine Num.alloc ?_ _))); rintro e w1 ⟨rfl, hb1⟩)
      | (go_at_call_of 68 (Value.slice B ys.length d); refine (zsign_any _ t B d ys z ?_ HY.out (by omega) hd).mono ?_; (refine Num.below ?_ hb1); (repeat (first | exact HB.out | (with_reducible refine Num.drew ?_) | (with_reducible refine Num.alloc ?_ _))); rintro e w2 ⟨rfl, hb2⟩))
    have W2 : Below w.heap.size w w2 := Below.trans (Below.trans (Below.drew (Below.alloc (Below.alloc (Below.refl _ _) (Nat.le_refl _) _) (by simp) _)) (hb1.mono (by simp; omega))) (hb2.mono (Nat.le_trans (by simp; omega) hb1.size))
    obtain ⟨k0, k1, k2, k3⟩ : C4 w.heap.size (.bool s) (.slice A xs.length c) (.bool t) (.slice B ys.length d) w2 := C4.below hb2 (C4.below hb1 (C4.drew (C4.base _ _ _ _ _ _ _)))
    have hwb := Lib.hid W2
    clear W2
    clear hb1 hb2
    go_wp2_with fail
    refine (compare_any _ _ _).mono ?_
    rintro e w3 ⟨rfl, rfl⟩
    go_wp2_with fail
    go_ret
    rw [hz.out]
    exact ⟨rfl, hwb.out⟩
end Go.Proofs.YtbbncggaaibheaaGreatDoor
