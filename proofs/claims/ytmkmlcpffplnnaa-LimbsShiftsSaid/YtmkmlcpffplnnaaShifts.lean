/- LimbsShifts: its walk. -/
import Derived.Test.YtmkmlcpffplnnaaShiftsZ
import Derived.Test.YtmkmlcpffplnnaaShiftsP
namespace Go.Proofs.Ytmkmlcpffplnnaa
open Go.RowKit

set_option maxHeartbeats 4000000 in
theorem shifts_walk (w : World) (A : Option Addr) (ca : Nat) (xs : List Nat) (n : Int) (ha : Num w A xs) (hac : xs.length ≤ ca) (hn1 : -9223372036854775808 ≤ n) (hn2 : n ≤ 9223372036854775807) :
    Calls Try.prog 7 #[.slice A xs.length ca, .int .i64 n] w (RetB w true) := by
  by_cases l1 : xs.length ≤ 60
  · by_cases h : blen (val xs) = 0
    · exact shifts_zero w A ca xs n ha hac l1 hn1 hn2 h
    · exact shifts_pos w A ca xs n ha hac l1 hn1 hn2 h
  · have g1 : (60 : Int) < (xs.length : Int) := by omega
    clear ha hac l1 hn1 hn2
    go_enter Try.func7, Try.ntmps7
    go_wp2_with fail
    refine (awake_any w).mono ?_
    rintro e w1 ⟨rfl, hb⟩
    go_wp2_with fail
    go_ret
    exact ⟨rfl, hb⟩
end Go.Proofs.Ytmkmlcpffplnnaa
