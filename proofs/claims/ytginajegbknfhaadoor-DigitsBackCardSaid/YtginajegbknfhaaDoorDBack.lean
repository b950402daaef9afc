/- DigitsBack, walked: all cases together. -/
import Derived.Test.YtginajegbknfhaaDoorDBackP
import Derived.Test.YtginajegbknfhaaDoorDBackPn
import Derived.Test.YtginajegbknfhaaDoorDBackZ
import Derived.Test.YtginajegbknfhaaDoorDBackZn
import Derived.Test.YtginajegbknfhaaDoorDBackM
import Derived.Test.YtginajegbknfhaaDoorDBackMn
namespace Go.Proofs.YtginajegbknfhaaDoor.D
open Go.RowKit

theorem parse_len (l : List UInt8) : (dig (parseV l).1.natAbs).length ≤ 1000 := by
  have h0 : (dig ((0 : Int).natAbs)).length ≤ 1000 := by rw [show (0 : Int).natAbs = 0 from rfl, dig_zero]; exact Nat.zero_le _
  unfold parseV
  by_cases hn : isNumB (behind l) (signed l) = true
  · rw [if_pos hn]
    by_cases hl : 600 < (behind l).length
    · rw [if_pos hl]; exact h0
    · rw [if_neg hl]
      show (dig (zv (signed l) (dnum (behind l))).natAbs).length ≤ 1000
      rw [zv_natAbs]
      exact Nat.le_trans (dig_len10 (dnum_lt _ _ rfl (num_all hn))) (by omega)
  · rw [if_neg hn]; exact h0
set_option maxRecDepth 100000 in
set_option maxHeartbeats 4000000 in
theorem back_far (w : World) (s : Bool) (A : Option Addr) (xs : List Nat) (c : Nat) (l : List UInt8) (d : Nat) (hn : ¬ xs.length ≤ 30) (htab : Tab w) :
    Calls Tryd.prog 5 #[.agg #[.bool s, .slice A xs.length c], .string ⟨l.toArray⟩, .int .u8 (d : Int)] w (RetB w true) := by
  have HTAB := Lib.hid htab
  have hn30 : ¬ (xs.length : Int) ≤ 30 := by omega
  have HW0 : Hid (Below w.heap.size w (w.alloc (.cells #[.bool s, .slice A xs.length c] 25))) := (Below.refl _ _).alloc (Nat.le_refl _) _
  clear htab hn
  go_enter Tryd.func5, Tryd.ntmps5
  go_wp2_with fail
  refine (short_f _ s A xs.length c 30 (by omega)).mono ?_
  rintro e w1 ⟨rfl, hb1⟩
  have HW1 := Lib.hid (HW0.out.trans (hb1.mono HW0.out.size))
  clear hb1
  go_wp2_with fail
  refine (awake_any _ (HTAB.out.below HW1.out)).mono ?_
  rintro e w2 ⟨rfl, hb2⟩
  have HW2 := Lib.hid (HW1.out.trans (hb2.mono HW1.out.size))
  clear hb2
  go_wp2_with fail
  go_ret
  exact ⟨rfl, HW2.out⟩
set_option maxRecDepth 100000 in
set_option maxHeartbeats 4000000 in
theorem back_long (w : World) (s : Bool) (A : Option Addr) (xs : List Nat) (c : Nat) (l : List UInt8) (d : Nat) (hn : xs.length ≤ 30) (hl : ¬ l.length ≤ 700) (htab : Tab w) :
    Calls Tryd.prog 5 #[.agg #[.bool s, .slice A xs.length c], .string ⟨l.toArray⟩, .int .u8 (d : Int)] w (RetB w true) := by
  have HTAB := Lib.hid htab
  have hn30 : (xs.length : Int) ≤ 30 := by omega
  have hl7 : (700 : Int) < (l.length : Int) := by omega
  have HW0 : Hid (Below w.heap.size w (w.alloc (.cells #[.bool s, .slice A xs.length c] 25))) := (Below.refl _ _).alloc (Nat.le_refl _) _
  clear htab hn hl
  go_enter Tryd.func5, Tryd.ntmps5
  go_wp2_with fail
  refine (short_t _ s A xs.length c 30 hn30).mono ?_
  rintro e w1 ⟨rfl, hb1⟩
  have HW1 := Lib.hid (HW0.out.trans (hb1.mono HW0.out.size))
  clear hb1
  go_wp2_with fail
  refine (awake_any _ (HTAB.out.below HW1.out)).mono ?_
  rintro e w2 ⟨rfl, hb2⟩
  have HW2 := Lib.hid (HW1.out.trans (hb2.mono HW1.out.size))
  clear hb2
  go_wp2_with fail
  go_ret
  exact ⟨rfl, HW2.out⟩
theorem back_walk (w : World) (s : Bool) (A : Option Addr) (xs : List Nat) (c : Nat) (l : List UInt8) (d : Nat) (ha : Num w A xs) (hc : xs.length ≤ c) (hd : d ≤ 255) (htab : Tab w) :
    Calls Tryd.prog 5 #[.agg #[.bool s, .slice A xs.length c], .string ⟨l.toArray⟩, .int .u8 (d : Int)] w (RetB w true) := by
  by_cases hn : xs.length ≤ 30
  · by_cases hl : l.length ≤ 700
    · obtain ⟨zc, code, hp⟩ : ∃ zc code, parseV l = (zc, code) := ⟨_, _, rfl⟩
      have hzc : (dig zc.natAbs).length ≤ 1000 := by
        have h := parse_len l
        rw [hp] at h
        exact h
      by_cases hcode : code = 0
      · rcases Int.lt_trichotomy (zv s (val xs)) 0 with hz | hz | hz
        · exact back_neg w s A xs c l d _ zc code ha rfl hn hc hl hd hp hzc hcode hz htab
        · exact back_zero w s A xs c l d _ zc code ha rfl hn hc hl hd hp hzc hcode hz htab
        · exact back_pos w s A xs c l d _ zc code ha rfl hn hc hl hd hp hzc hcode hz htab
      · rcases Int.lt_trichotomy (zv s (val xs)) 0 with hz | hz | hz
        · exact back_neg_n w s A xs c l d _ zc code ha rfl hn hc hl hd hp hzc hcode hz htab
        · exact back_zero_n w s A xs c l d _ zc code ha rfl hn hc hl hd hp hzc hcode hz htab
        · exact back_pos_n w s A xs c l d _ zc code ha rfl hn hc hl hd hp hzc hcode hz htab
    · exact back_long w s A xs c l d hn hl htab
  · exact back_far w s A xs c l d hn htab
end Go.Proofs.YtginajegbknfhaaDoor.D
