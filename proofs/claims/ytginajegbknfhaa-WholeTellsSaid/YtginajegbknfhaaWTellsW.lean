/- WholeTells: its walk, whatever the input. -/
import Derived.Test.YtginajegbknfhaaWTells
namespace Go.Proofs.Ytginajegbknfhaa
open Go.RowKit

set_option maxRecDepth 100000 in
set_option maxHeartbeats 4000000 in
theorem wtells_walk (w : World) (s t : Bool) (A B : Option Addr) (ca cb : Nat) (xs ys : List Nat) (n : Int) (hn1 : -9223372036854775808 ≤ n) (hn2 : n ≤ 9223372036854775807) (ha : Num w A xs) (hb : Num w B ys) (hac : xs.length ≤ ca) (hbc : ys.length ≤ cb) (hAn : A = none → ca = 0) (hBn : B = none → cb = 0) :
    Calls Try.prog 5 #[.agg #[.bool s, .slice A xs.length ca], .agg #[.bool t, .slice B ys.length cb], .int .i64 n] w (RetB w true) := by
  by_cases l1 : xs.length ≤ 12
  · have g1 : (xs.length : Int) ≤ 12 := by omega
    by_cases l2 : ys.length ≤ 12
    · exact wtells_core w s t A B ca cb xs ys _ _ ha hb rfl rfl hac hbc n hn1 hn2 hAn hBn l1 l2
    · have g2 : ¬ (ys.length : Int) ≤ 12 := by omega
      clear ha hb l1 l2 hAn hBn
      go_enter Try.func5, Try.ntmps5
      go_wp2_with fail
      have HT0 := Lib.hid ((((Below.refl w.heap.size w).alloc (Nat.le_refl _) (.cells #[.bool s, .slice A xs.length ca] 37)).alloc (by simp) (.cells #[.bool t, .slice B ys.length cb] 37) : Below w.heap.size w ((w.alloc (.cells #[.bool s, .slice A xs.length ca] 37)).alloc (.cells #[.bool t, .slice B ys.length cb] 37))))
      have HK := Lib.hid (C4.base w (.bool s) (.slice A xs.length ca) (.bool t) (.slice B ys.length cb) 37 37)
      obtain ⟨k0, k1, k2, k3⟩ := HK.out
      refine (short_t _ s A xs.length ca 12 (by omega)).mono ?_
      rintro e w1 ⟨rfl, hb⟩
      have HT1 := Lib.hid (HT0.out.trans (hb.mono HT0.out.size))
      have HK := Lib.hid (C4.below hb HK.out)
      obtain ⟨k0, k1, k2, k3⟩ := HK.out
      clear hb
      go_wp2_with fail
      refine (short_f _ t B ys.length cb 12 (by omega)).mono ?_
      rintro e w2 ⟨rfl, hb⟩
      have HT2 := Lib.hid (HT1.out.trans (hb.mono HT1.out.size))
      have HK := Lib.hid (C4.below hb HK.out)
      obtain ⟨k0, k1, k2, k3⟩ := HK.out
      clear hb
      go_wp2_with fail
      refine (awake2_any _).mono ?_
      rintro e w9 ⟨rfl, hb⟩
      have HT9 := Lib.hid (HT2.out.trans (hb.mono HT2.out.size))
      clear hb
      go_wp2_with fail
      go_ret
      exact ⟨rfl, HT9.out⟩
  · have g1 : ¬ (xs.length : Int) ≤ 12 := by omega
    clear ha hb l1 hAn hBn
    go_enter Try.func5, Try.ntmps5
    go_wp2_with fail
    have HT0 := Lib.hid ((((Below.refl w.heap.size w).alloc (Nat.le_refl _) (.cells #[.bool s, .slice A xs.length ca] 37)).alloc (by simp) (.cells #[.bool t, .slice B ys.length cb] 37) : Below w.heap.size w ((w.alloc (.cells #[.bool s, .slice A xs.length ca] 37)).alloc (.cells #[.bool t, .slice B ys.length cb] 37))))
    have HK := Lib.hid (C4.base w (.bool s) (.slice A xs.length ca) (.bool t) (.slice B ys.length cb) 37 37)
    obtain ⟨k0, k1, k2, k3⟩ := HK.out
    refine (short_f _ s A xs.length ca 12 (by omega)).mono ?_
    rintro e w1 ⟨rfl, hb⟩
    have HT1 := Lib.hid (HT0.out.trans (hb.mono HT0.out.size))
    have HK := Lib.hid (C4.below hb HK.out)
    obtain ⟨k0, k1, k2, k3⟩ := HK.out
    clear hb
    go_wp2_with fail
    refine (awake2_any _).mono ?_
    rintro e w9 ⟨rfl, hb⟩
    have HT9 := Lib.hid (HT1.out.trans (hb.mono HT1.out.size))
    clear hb
    go_wp2_with fail
    go_ret
    exact ⟨rfl, HT9.out⟩
end Go.Proofs.Ytginajegbknfhaa
