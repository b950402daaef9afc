/- whole.Mul. -/
import Derived.Test.YtbbncggaaibheaaGreatDoorWholeB
namespace Go.Proofs.YtbbncggaaibheaaGreatDoor
open Go.RowKit

set_option maxHeartbeats 4000000 in
theorem zmul_any (w : World) (s t : Bool) (A B : Option Addr) (c d : Nat) (xs ys : List Nat) (y z : Int) (ha : Num w A xs) (hb : Num w B ys) (hx : zv s (val xs) = y) (hy : zv t (val ys) = z) (hn : xs.length ≤ 400000) (hm : ys.length ≤ 400000) (hc : xs.length ≤ c) (hd : ys.length ≤ d) :
    Calls Tryz.prog 71 #[.agg #[.bool s, .slice A xs.length c], .agg #[.bool t, .slice B ys.length d]] w (RetZ w (y * z)) := by
  have hd1 := dig_length_val ha.1
  have hd2 := dig_length_val hb.1
  have HA := Lib.hid ha
  have HB := Lib.hid hb
  obtain ⟨a, hva⟩ : ∃ a, val xs = a := ⟨_, rfl⟩
  obtain ⟨b, hvb⟩ : ∃ b, val ys = b := ⟨_, rfl⟩
  rw [hva] at hd1 hx
  rw [hvb] at hd2 hy
  obtain ⟨m, hmm⟩ : ∃ m, m = a * b := ⟨_, rfl⟩
  have hdm : (dig m).length ≤ 8589934592 := by
    rw [hmm]; have := dl_mul a b; omega
  have HX : Hid (zv (s != t) m = y * z) := by
    show _ = _
    rw [hmm, ← hx, ← hy]
    cases s <;> cases t <;> simp [zv, Int.neg_mul, Int.mul_neg]
  have HMM := Lib.hid hmm
  have HVA := Lib.hid hva
  have HVB := Lib.hid hvb
  clear ha hb hx hy hva hvb hmm
  go_enter Tryz.func71, Tryz.ntmps71
  go_wp2_with fail
  go_region_held3 (fun W => W.cell? ⟨w.heap.size, 0, none⟩ = some (.bool s) ∧ W.cell? ⟨w.heap.size, 1, none⟩ = some (.slice A xs.length c) ∧ W.cell? ⟨w.heap.size + 1, 0, none⟩ = some (.bool t) ∧ W.cell? ⟨w.heap.size + 1, 1, none⟩ = some (.slice B ys.length d))
   (first | exact C4.alloc (by assumption) _ | exact C4.below hb34 (by assumption) | exact C4.below hb3 (by assumption) | exact C4.drew ((C4.base _ _ _ _ _ _ _).alloc _) | exact C4.far (C4.far (by assumption) (by first | (simp; done) | (simp; omega)) (by first | (simp; done) | (simp; omega)) _) (by first | (simp; done) | (simp; omega)) (by first | (simp; done) | (simp; omega)) _)
   (first
    | (go_at_call 65; (with_reducible refine (signOf_any _ _).mono ?_); rintro e w1 ⟨rfl, rfl⟩)
    | (go_at_call 124; (refine (mul_v _ A B c d xs ys a b ?_ ?_ HVA.out HVB.out (by omega) (by omega) hc hd).mono ?_); (repeat (first | exact HA.out | (with_reducible refine Num.drew ?_) | (with_reducible refine Num.alloc ?_ _))); (repeat (first | exact HB.out | (with_reducible refine Num.drew ?_) | (with_reducible refine Num.alloc ?_ _))); (rw [← HMM.out]); rintro e w3 ⟨A3, c3, rfl, hc3, ha3, hb3⟩)
    | (go_at_call 64; refine (number_at w _ w3 _ (w.heap.size + 1 + 1) c3 m (s != t) false A3 none 0 0 ?_ ?_ ?_ hb3 ha3 (by omega) hc3).mono ?_; (repeat (first | exact Sbx.new' _ _ _ (by simp) | (with_reducible refine Sbx.drew ?_) | (with_reducible refine Sbx.alloc ?_ _))); (repeat (first | exact Ibx.new' _ _ _ _ _ _ (by simp) | (with_reducible refine Ibx.drew ?_) | (with_reducible refine Ibx.alloc ?_ _))); (repeat (first | exact Below.refl _ _ | (with_reducible refine Below.drew ?_) | (with_reducible refine Below.alloc ?_ (by first | exact Nat.le_refl _ | (simp; done) | (simp; omega)) _))); rintro e w4 ⟨rfl, n4, I4, hb4, hb34⟩; have c0 := I4.c0; have c1 := I4.c1; have f0 := I4.f 0; have f1 := I4.f 1))
  all_goals
    go_wp2_with fail
    refine bodyPost_ret (v := .agg #[.bool (zneg (zv (s != t) m)), .slice A3 (dig m).length c3]) (by simp [results, Tryz.results71, go_sem, c0, c1]) rfl ?_
    exact retz_of HX.out hc3 n4 I4 (by omega) hb4 _ _ rfl
end Go.Proofs.YtbbncggaaibheaaGreatDoor
