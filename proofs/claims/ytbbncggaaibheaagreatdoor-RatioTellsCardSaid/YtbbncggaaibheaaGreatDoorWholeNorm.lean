/- whole.Norm. -/
import Derived.Test.YtbbncggaaibheaaGreatDoorWholeB
namespace Go.Proofs.YtbbncggaaibheaaGreatDoor
open Go.RowKit

set_option maxHeartbeats 2000000 in
theorem norm_any (w : World) (s : Bool) (A : Option Addr) (c : Nat) (xs : List Nat) (z : Int) (ha : Num w A xs) (hx : zv s (val xs) = z) (hn : xs.length ≤ 1000000) (hc : xs.length ≤ c) :
    Calls Tryz.prog 70 #[.agg #[.bool s, .slice A xs.length c]] w (RetZ w (z)) := by
  have hd := dig_length_val ha.1
  have HA := Lib.hid ha
  obtain ⟨m, hm⟩ : ∃ m, val xs = m := ⟨_, rfl⟩
  have HM := Lib.hid hm
  rw [hm] at hd hx
  have HX : Hid (zv s m = z) := by
    show _ = _
    first | (rw [← hx]; done) | (rw [← hx]; cases s <;> simp [zv])
  clear ha hx hm
  go_enter Tryz.func70, Tryz.ntmps70
  go_wp2_with fail
  go_region_held3 (fun W => W.cell? ⟨w.heap.size, 0, none⟩ = some (.bool s) ∧ W.cell? ⟨w.heap.size, 1, none⟩ = some (.slice A xs.length c))
   (first | exact C2.alloc (by assumption) _ | exact C2.below hb34 (by assumption) | exact C2.below hb3 (by assumption) | exact C2.drew ((C2.base _ _ _ _).alloc _) | exact C2.far (C2.far (by assumption) (by first | (simp; done) | (simp; omega)) _) (by first | (simp; done) | (simp; omega)) _)
   (first
    | (go_at_call 65; (with_reducible refine (signOf_any _ _).mono ?_); rintro e w1 ⟨rfl, rfl⟩)
    | (go_at_call 66; (with_reducible refine (trim_v _ A c xs m ?_ HM.out hn hc).mono ?_); (repeat (first | exact HA.out | (with_reducible refine Num.drew ?_) | (with_reducible refine Num.alloc ?_ _))); rintro e w3 ⟨A3, c3, rfl, hc3, ha3, hb3⟩)
    | (go_at_call 64; refine (number_at w _ w3 _ (w.heap.size + 1) c3 m s false A3 none 0 0 ?_ ?_ ?_ hb3 ha3 (by omega) hc3).mono ?_; (repeat (first | exact Sbx.new' _ _ _ (by simp) | (with_reducible refine Sbx.drew ?_) | (with_reducible refine Sbx.alloc ?_ _))); (repeat (first | exact Ibx.new' _ _ _ _ _ _ (by simp) | (with_reducible refine Ibx.drew ?_) | (with_reducible refine Ibx.alloc ?_ _))); (repeat (first | exact Below.refl _ _ | (with_reducible refine Below.drew ?_) | (with_reducible refine Below.alloc ?_ (by first | exact Nat.le_refl _ | (simp; done) | (simp; omega)) _))); rintro e w4 ⟨rfl, n4, I4, hb4, hb34⟩; have c0 := I4.c0; have c1 := I4.c1; have f0 := I4.f 0; have f1 := I4.f 1))
  all_goals
    go_wp2_with fail
    refine bodyPost_ret (v := .agg #[.bool (zneg (zv s m)), .slice A3 (dig m).length c3]) (by simp [results, Tryz.results70, go_sem, c0, c1]) rfl ?_
    exact retz_of HX.out hc3 n4 I4 (by omega) hb4 _ _ rfl
end Go.Proofs.YtbbncggaaibheaaGreatDoor
