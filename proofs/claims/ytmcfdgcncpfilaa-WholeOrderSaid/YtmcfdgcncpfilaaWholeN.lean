/- WholeOrder: its walk, whatever the input. -/
import Derived.Test.YtmcfdgcncpfilaaWholeL1
import Derived.Test.YtmcfdgcncpfilaaWholeL2
import Derived.Test.YtmcfdgcncpfilaaWholeL3
namespace Go.Proofs.Ytmcfdgcncpfilaa
open Go.RowKit

set_option maxRecDepth 100000 in
set_option maxHeartbeats 4000000 in
theorem worder_walk (w : World) (s t u : Bool) (A B C : Option Addr) (ca cb cc : Nat) (xs ys zs : List Nat) (ha : Num w A xs) (hb : Num w B ys) (hc : Num w C zs) (hac : xs.length ≤ ca) (hbc : ys.length ≤ cb) (hcc : zs.length ≤ cc) :
    Calls Try.prog 12 #[.agg #[.bool s, .slice A xs.length ca], .agg #[.bool t, .slice B ys.length cb], .agg #[.bool u, .slice C zs.length cc]] w (RetB w true) := by
  by_cases l1 : xs.length ≤ 40
  · have g1 : (xs.length : Int) ≤ 40 := by omega
    by_cases l2 : ys.length ≤ 40
    · have g2 : (ys.length : Int) ≤ 40 := by omega
      by_cases l3 : zs.length ≤ 40
      · by_cases h1 : 0 < zcmp (zv s (val xs)) (zv t (val ys))
        · exact worder_1 w s t u A B C ca cb cc xs ys zs _ _ _ ha hb hc rfl rfl rfl hac hbc hcc l1 l2 l3 h1
        · by_cases h2 : 0 < zcmp (zv t (val ys)) (zv u (val zs))
          · exact worder_2 w s t u A B C ca cb cc xs ys zs _ _ _ ha hb hc rfl rfl rfl hac hbc hcc l1 l2 l3 h1 h2
          · exact worder_3 w s t u A B C ca cb cc xs ys zs _ _ _ ha hb hc rfl rfl rfl hac hbc hcc l1 l2 l3 h1 h2
      · have g3 : ¬ (zs.length : Int) ≤ 40 := by omega
        clear ha hb hc l1 l2 l3
        go_enter Try.func12, Try.ntmps12
        go_wp2_with fail
        have HT0 := Lib.hid (((((Below.refl w.heap.size w).alloc (Nat.le_refl _) (.cells #[.bool s, .slice A xs.length ca] 43)).alloc (by simp) (.cells #[.bool t, .slice B ys.length cb] 43)).alloc (by simp; omega) (.cells #[.bool u, .slice C zs.length cc] 43) : Below w.heap.size w (((w.alloc (.cells #[.bool s, .slice A xs.length ca] 43)).alloc (.cells #[.bool t, .slice B ys.length cb] 43)).alloc (.cells #[.bool u, .slice C zs.length cc] 43))))
        have HK := Lib.hid (K3.base w (.bool s) (.slice A xs.length ca) (.bool t) (.slice B ys.length cb) (.bool u) (.slice C zs.length cc) 43 43 43)
        refine (short_t _ s A xs.length ca 40 (by omega)).mono ?_
        rintro e w1 ⟨rfl, hb⟩
        have HT1 := Lib.hid (HT0.out.trans (hb.mono HT0.out.size))
        have HK := Lib.hid (K3.below hb HK.out)
        obtain ⟨k0, k1, k2, k3, k4, k5⟩ := HK.out
        clear hb
        go_wp2_with fail
        refine (short_t _ t B ys.length cb 40 (by omega)).mono ?_
        rintro e w2 ⟨rfl, hb⟩
        have HT2 := Lib.hid (HT1.out.trans (hb.mono HT1.out.size))
        have HK := Lib.hid (K3.below hb HK.out)
        obtain ⟨k0, k1, k2, k3, k4, k5⟩ := HK.out
        clear hb
        go_wp2_with fail
        refine (short_f _ u C zs.length cc 40 (by omega)).mono ?_
        rintro e w3 ⟨rfl, hb⟩
        have HT3 := Lib.hid (HT2.out.trans (hb.mono HT2.out.size))
        have HK := Lib.hid (K3.below hb HK.out)
        obtain ⟨k0, k1, k2, k3, k4, k5⟩ := HK.out
        clear hb
        go_wp2_with fail
        refine (awake2_any _).mono ?_
        rintro e w9 ⟨rfl, hb⟩
        have HT9 := Lib.hid (HT3.out.trans (hb.mono HT3.out.size))
        clear hb
        go_wp2_with fail
        go_ret
        exact ⟨rfl, HT9.out⟩
    · have g2 : ¬ (ys.length : Int) ≤ 40 := by omega
      clear ha hb hc l1 l2
      go_enter Try.func12, Try.ntmps12
      go_wp2_with fail
      have HT0 := Lib.hid (((((Below.refl w.heap.size w).alloc (Nat.le_refl _) (.cells #[.bool s, .slice A xs.length ca] 43)).alloc (by simp) (.cells #[.bool t, .slice B ys.length cb] 43)).alloc (by simp; omega) (.cells #[.bool u, .slice C zs.length cc] 43) : Below w.heap.size w (((w.alloc (.cells #[.bool s, .slice A xs.length ca] 43)).alloc (.cells #[.bool t, .slice B ys.length cb] 43)).alloc (.cells #[.bool u, .slice C zs.length cc] 43))))
      have HK := Lib.hid (K3.base w (.bool s) (.slice A xs.length ca) (.bool t) (.slice B ys.length cb) (.bool u) (.slice C zs.length cc) 43 43 43)
      refine (short_t _ s A xs.length ca 40 (by omega)).mono ?_
      rintro e w1 ⟨rfl, hb⟩
      have HT1 := Lib.hid (HT0.out.trans (hb.mono HT0.out.size))
      have HK := Lib.hid (K3.below hb HK.out)
      obtain ⟨k0, k1, k2, k3, k4, k5⟩ := HK.out
      clear hb
      go_wp2_with fail
      refine (short_f _ t B ys.length cb 40 (by omega)).mono ?_
      rintro e w2 ⟨rfl, hb⟩
      have HT2 := Lib.hid (HT1.out.trans (hb.mono HT1.out.size))
      have HK := Lib.hid (K3.below hb HK.out)
      obtain ⟨k0, k1, k2, k3, k4, k5⟩ := HK.out
      clear hb
      go_wp2_with fail
      refine (awake2_any _).mono ?_
      rintro e w9 ⟨rfl, hb⟩
      have HT9 := Lib.hid (HT2.out.trans (hb.mono HT2.out.size))
      clear hb
      go_wp2_with fail
      go_ret
      exact ⟨rfl, HT9.out⟩
  · have g1 : ¬ (xs.length : Int) ≤ 40 := by omega
    clear ha hb hc l1
    go_enter Try.func12, Try.ntmps12
    go_wp2_with fail
    have HT0 := Lib.hid (((((Below.refl w.heap.size w).alloc (Nat.le_refl _) (.cells #[.bool s, .slice A xs.length ca] 43)).alloc (by simp) (.cells #[.bool t, .slice B ys.length cb] 43)).alloc (by simp; omega) (.cells #[.bool u, .slice C zs.length cc] 43) : Below w.heap.size w (((w.alloc (.cells #[.bool s, .slice A xs.length ca] 43)).alloc (.cells #[.bool t, .slice B ys.length cb] 43)).alloc (.cells #[.bool u, .slice C zs.length cc] 43))))
    have HK := Lib.hid (K3.base w (.bool s) (.slice A xs.length ca) (.bool t) (.slice B ys.length cb) (.bool u) (.slice C zs.length cc) 43 43 43)
    refine (short_f _ s A xs.length ca 40 (by omega)).mono ?_
    rintro e w1 ⟨rfl, hb⟩
    have HT1 := Lib.hid (HT0.out.trans (hb.mono HT0.out.size))
    have HK := Lib.hid (K3.below hb HK.out)
    obtain ⟨k0, k1, k2, k3, k4, k5⟩ := HK.out
    clear hb
    go_wp2_with fail
    refine (awake2_any _).mono ?_
    rintro e w9 ⟨rfl, hb⟩
    have HT9 := Lib.hid (HT1.out.trans (hb.mono HT1.out.size))
    clear hb
    go_wp2_with fail
    go_ret
    exact ⟨rfl, HT9.out⟩
end Go.Proofs.Ytmcfdgcncpfilaa
