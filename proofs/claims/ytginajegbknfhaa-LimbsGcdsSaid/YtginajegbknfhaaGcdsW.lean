/- LimbsGcds: its walk. -/
import Derived.Test.YtginajegbknfhaaLawsE
namespace Go.Proofs.Ytginajegbknfhaa
open Go.RowKit

set_option maxRecDepth 100000 in
set_option maxHeartbeats 8000000 in
theorem gcds_core (w : World) (A B : Option Addr) (ca cb : Nat) (xs ys : List Nat) (a b : Nat) (ha : Num w A xs) (hb : Num w B ys) (hva : val xs = a) (hvb : val ys = b) (hac : xs.length ≤ ca) (hbc : ys.length ≤ cb) (l1 : xs.length ≤ 8) (l2 : ys.length ≤ 8) :
    Calls Try.prog 4 #[.slice A xs.length ca, .slice B ys.length cb] w (RetB w true) := by
  have HVa := Lib.hid hva
  have HVb := Lib.hid hvb
  have HL_a : Hid ((dig a).length ≤ 8) := Nat.le_trans (dl_val ha.1 hva) l1
  have HL_b : Hid ((dig b).length ≤ 8) := Nat.le_trans (dl_val hb.1 hvb) l2
  have Ha := Lib.hid ha
  have Hb := Lib.hid hb
  have HT0 := Lib.hid (Below.refl w.heap.size w)
  clear ha hb hva hvb
  obtain ⟨g, he_g⟩ : ∃ v : Nat, Nat.gcd a b = v := ⟨_, rfl⟩
  have HL_g : Hid ((dig g).length ≤ 8) := by
    have h := And.intro (dl_gcd a b) (And.intro HL_a.out HL_b.out)
    rw [he_g] at h
    show _ ≤ _
    omega
  have HE_g := Lib.hid he_g
  clear he_g
  have n1 : ¬ (8 : Int) < (xs.length : Int) := by omega
  have n2 : ¬ (8 : Int) < (ys.length : Int) := by omega
  go_enter Try.func4, Try.ntmps4
  go_wp2_with fail
  refine (gcd_n w A B ca cb xs ys a b (Ha.out.below HT0.out) (Hb.out.below HT0.out) HVa.out HVb.out (by omega) (by omega) hac hbc g HE_g.out).mono ?_
  rintro e w1 ⟨A_i1, c_i1, rfl, hc_i1, h_i1, hbx⟩
  have HB1 := Lib.hid hbx
  have HT1 := Lib.hid (HT0.out.trans (HB1.out.mono HT0.out.size))
  clear hbx
  have H_i1 := Lib.hid h_i1
  clear h_i1
  go_wp2_with fail
  refine (egcd_n w1 A B ca cb xs ys a b (Ha.out.below HT1.out) (Hb.out.below HT1.out) HVa.out HVb.out (by omega) (by omega) hac hbc g HE_g.out).mono ?_
  rintro e w2 ⟨A_i2, c_i2, rfl, hc_i2, h_i2, hbx⟩
  have HB2 := Lib.hid hbx
  have HT2 := Lib.hid (HT1.out.trans (HB2.out.mono HT1.out.size))
  clear hbx
  have H_i2 := Lib.hid h_i2
  clear h_i2
  go_wp2_with fail
  refine (same_v w2 A_i1 A_i2 c_i1 c_i2 g g (H_i1.out.below HB2.out) H_i2.out rfl (Nat.le_trans HL_g.out (by omega))).mono ?_
  rintro e w3 ⟨rfl, hbx⟩
  have HB3 := Lib.hid hbx
  have HT3 := Lib.hid (HT2.out.trans (HB3.out.mono HT2.out.size))
  clear hbx
  go_wp2_with fail
  refine (awake_any w3).mono ?_
  rintro e w4 ⟨rfl, hbx⟩
  have HB4 := Lib.hid hbx
  have HT4 := Lib.hid (HT3.out.trans (HB4.out.mono HT3.out.size))
  clear hbx
  go_wp2_with fail
  go_ret
  exact ⟨rfl, HT4.out⟩

set_option maxHeartbeats 4000000 in
theorem gcds_walk (w : World) (A B : Option Addr) (ca cb : Nat) (xs ys : List Nat) (ha : Num w A xs) (hb : Num w B ys) (hac : xs.length ≤ ca) (hbc : ys.length ≤ cb) :
    Calls Try.prog 4 #[.slice A xs.length ca, .slice B ys.length cb] w (RetB w true) := by
  by_cases l1 : xs.length ≤ 8
  · have g1 : ¬ (8 : Int) < (xs.length : Int) := by omega
    by_cases l2 : ys.length ≤ 8
    · exact gcds_core w A B ca cb xs ys _ _ ha hb rfl rfl hac hbc l1 l2
    · have g2 : (8 : Int) < (ys.length : Int) := by omega
      clear ha hb l1 l2
      go_enter Try.func4, Try.ntmps4
      go_wp2_with fail
      refine (awake_any w).mono ?_
      rintro e w1 ⟨rfl, hb⟩
      go_wp2_with fail
      go_ret
      exact ⟨rfl, hb⟩
  · have g1 : (8 : Int) < (xs.length : Int) := by omega
    clear ha hb l1
    go_enter Try.func4, Try.ntmps4
    go_wp2_with fail
    refine (awake_any w).mono ?_
    rintro e w1 ⟨rfl, hb⟩
    go_wp2_with fail
    go_ret
    exact ⟨rfl, hb⟩
end Go.Proofs.Ytginajegbknfhaa
