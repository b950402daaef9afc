/- RatioOrder, whatever the input. -/
import Derived.Test.YtngkmkbpcejkeaaGreatDoorROrder
namespace Go.Proofs.YtngkmkbpcejkeaaGreatDoor.Q
open Go.RowKit
open Go.Proofs.YtngkmkbpcejkeaaGreatDoor.D (Tab)

set_option maxRecDepth 100000 in
set_option maxHeartbeats 2000000 in
theorem order_far (w : World) (sa : Bool) (Aa : Option Addr) (na ca : Nat) (ta : Bool) (Ba : Option Addr) (ma da : Nat) (sb : Bool) (Ab : Option Addr) (nb cb : Nat) (tb : Bool) (Bb : Option Addr) (mb db : Nat) (sc : Bool) (Ac : Option Addr) (nc cc : Nat) (tc : Bool) (Bc : Option Addr) (mc dc : Nat) (hs : ¬ ((na ≤ 12 ∧ ma ≤ 12) ∧ (nb ≤ 12 ∧ mb ≤ 12) ∧ (nc ≤ 12 ∧ mc ≤ 12))) (htab : Tab w) :
    Calls Tryz.prog 7 #[.agg #[.bool sa, .slice Aa na ca, .bool ta, .slice Ba ma da], .agg #[.bool sb, .slice Ab nb cb, .bool tb, .slice Bb mb db], .agg #[.bool sc, .slice Ac nc cc, .bool tc, .slice Bc mc dc]] w (RetB w true) := by
  have HT := Lib.hid htab
  have HB : Hid (Below w.heap.size w (((w.alloc (.cells #[.bool sa, .slice Aa na ca, .bool ta, .slice Ba ma da] 28)).alloc (.cells #[.bool sb, .slice Ab nb cb, .bool tb, .slice Bb mb db] 28)).alloc (.cells #[.bool sc, .slice Ac nc cc, .bool tc, .slice Bc mc dc] 28))) := (((Below.refl _ _).alloc (Nat.le_refl _) _).alloc (by simp) _).alloc (by simp; omega) _
  have HS := Lib.hid (fun W => short_j W sa Aa na ca ta Ba ma da sb Ab nb cb tb Bb mb db sc Ac nc cc tc Bc mc dc false (decide_eq_false hs))
  clear hs htab
  go_enter Tryz.func7, Tryz.ntmps7
  go_wp2_with fail
  refine (HS.out _).mono ?_
  rintro e w1 ⟨rfl, hb1⟩
  have HB1 := Lib.hid (below_on HB.out hb1)
  clear hb1
  go_wp2_with fail
  refine (awake_q _ (HT.out.below HB1.out)).mono ?_
  rintro e w2 ⟨rfl, hb2⟩
  have HB2 := Lib.hid (below_on HB1.out hb2)
  clear hb2
  go_wp2_with fail
  go_ret
  exact ⟨rfl, HB2.out⟩
theorem order_walk (w : World) (sa : Bool) (Aa : Option Addr) (na ca : Nat) (ta : Bool) (Ba : Option Addr) (ma da : Nat) (sb : Bool) (Ab : Option Addr) (nb cb : Nat) (tb : Bool) (Bb : Option Addr) (mb db : Nat) (sc : Bool) (Ac : Option Addr) (nc cc : Nat) (tc : Bool) (Bc : Option Addr) (mc dc : Nat) (p r u : Rat) (k1 k2 k3 : Nat) (h1 : IsQ w sa Aa na ca ta Ba ma da p k1) (h2 : IsQ w sb Ab nb cb tb Bb mb db r k2) (h3 : IsQ w sc Ac nc cc tc Bc mc dc u k3) (htab : Tab w) :
    Calls Tryz.prog 7 #[.agg #[.bool sa, .slice Aa na ca, .bool ta, .slice Ba ma da], .agg #[.bool sb, .slice Ab nb cb, .bool tb, .slice Bb mb db], .agg #[.bool sc, .slice Ac nc cc, .bool tc, .slice Bc mc dc]] w (RetB w true) := by
  by_cases hs : (na ≤ 12 ∧ ma ≤ 12) ∧ (nb ≤ 12 ∧ mb ≤ 12) ∧ (nc ≤ 12 ∧ mc ≤ 12)
  · exact order_core w sa Aa na ca ta Ba ma da sb Ab nb cb tb Bb mb db sc Ac nc cc tc Bc mc dc p r u ⟨h1.ex, hs.1.1, hs.1.2, h1.cap, h1.cap2⟩ ⟨h2.ex, hs.2.1.1, hs.2.1.2, h2.cap, h2.cap2⟩ ⟨h3.ex, hs.2.2.1, hs.2.2.2, h3.cap, h3.cap2⟩ htab
  · exact order_far w sa Aa na ca ta Ba ma da sb Ab nb cb tb Bb mb db sc Ac nc cc tc Bc mc dc hs htab
end Go.Proofs.YtngkmkbpcejkeaaGreatDoor.Q
