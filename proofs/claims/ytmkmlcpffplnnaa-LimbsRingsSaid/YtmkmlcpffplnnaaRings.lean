/- LimbsRings: its walk, a part. -/
import Derived.Test.YtmkmlcpffplnnaaRingsZ
import Derived.Test.YtmkmlcpffplnnaaRingsP
namespace Go.Proofs.Ytmkmlcpffplnnaa
open Go.RowKit


set_option maxRecDepth 100000 in
set_option maxHeartbeats 4000000 in
theorem rings_walk (w : World) (A B C : Option Addr) (ca cb cc : Nat) (xs ys zs : List Nat) (ha : Num w A xs) (hb : Num w B ys) (hc : Num w C zs) (hac : xs.length ≤ ca) (hbc : ys.length ≤ cb) (hcc : zs.length ≤ cc) :
    Calls Try.prog 6 #[.slice A xs.length ca, .slice B ys.length cb, .slice C zs.length cc] w (RetB w true) := by
  by_cases l1 : xs.length ≤ 60
  · by_cases l2 : ys.length ≤ 60
    · by_cases l3 : zs.length ≤ 60
      · by_cases h0 : val ys = 0
        · exact rings_zero w A B C ca cb cc xs ys zs ha hb hc hac hbc hcc l1 l2 l3 h0
        · exact rings_pos w A B C ca cb cc xs ys zs ha hb hc hac hbc hcc l1 l2 l3 h0
      · have g1 : ¬ (60 : Int) < (xs.length : Int) := by omega
        have g2 : ¬ (60 : Int) < (ys.length : Int) := by omega
        have g3 : (60 : Int) < (zs.length : Int) := by omega
        clear ha hb hc l1 l2 l3
        go_enter Try.func6, Try.ntmps6
        go_wp2_with fail
        refine (awake_any w).mono ?_
        rintro e w1 ⟨rfl, hb⟩
        go_wp2_with fail
        go_ret
        exact ⟨rfl, hb⟩
    · have g1 : ¬ (60 : Int) < (xs.length : Int) := by omega
      have g2 : (60 : Int) < (ys.length : Int) := by omega
      clear ha hb hc l1 l2
      go_enter Try.func6, Try.ntmps6
      go_wp2_with fail
      refine (awake_any w).mono ?_
      rintro e w1 ⟨rfl, hb⟩
      go_wp2_with fail
      go_ret
      exact ⟨rfl, hb⟩
  · have g1 : (60 : Int) < (xs.length : Int) := by omega
    clear ha hb hc l1
    go_enter Try.func6, Try.ntmps6
    go_wp2_with fail
    refine (awake_any w).mono ?_
    rintro e w1 ⟨rfl, hb⟩
    go_wp2_with fail
    go_ret
    exact ⟨rfl, hb⟩
end Go.Proofs.Ytmkmlcpffplnnaa
