/- whole's law: by, awake. -/
import Derived.Test.YtmcfdgcncpfilaaWholeI
namespace Go.Proofs.Ytmcfdgcncpfilaa
open Go.RowKit

set_option maxHeartbeats 2000000 in
theorem by_any (w : World) (a b q r : Int) (ha1 : -9223372036854775808 ≤ a) (ha2 : a ≤ 9223372036854775807) (hb1 : -9223372036854775808 ≤ b) (hb2 : b ≤ 9223372036854775807) (hq1 : -9223372036854775808 ≤ q) (hq2 : q ≤ 9223372036854775807) (hr1 : -9223372036854775808 ≤ r) (hr2 : r ≤ 9223372036854775807) (hq : a / b = q) (hr : zrem a b = r) :
    Calls Try.prog 47 #[.int .i64 a, .int .i64 b, .int .i64 q, .int .i64 r] w (RetB w true) := by
  have HQ := Lib.hid hq
  have HR := Lib.hid hr
  have HLa : Hid (zl a ≤ 1) := zl_small ha1 ha2
  have HLb : Hid (zl b ≤ 1) := zl_small hb1 hb2
  clear hq hr
  go_enter Try.func47, Try.ntmps47
  go_wp2_with fail
  refine (of_z w a a rfl ha1 ha2).mono ?_
  rintro e w1 ⟨A1, c1, rfl, hc1, h1, hb1'⟩
  have H1 := Lib.hid h1
  have HB1 := Lib.hid hb1'
  clear h1 hb1'
  go_wp2_with fail
  refine (of_z w1 b b rfl hb1 hb2).mono ?_
  rintro e w2 ⟨A2, c2, rfl, hc2, h2, hb2'⟩
  have H2 := Lib.hid h2
  have H1' := Lib.hid (H1.out.below hb2')
  have HB2 := Lib.hid (HB1.out.trans (hb2'.mono HB1.out.size))
  clear h2 hb2' H1 HB1
  go_wp2_with fail
  refine (divmod_z w2 (zneg a) (zneg b) A1 A2 c1 c2 (dig a.natAbs) (dig b.natAbs) a b H1'.out H2.out (zv_dig _) (zv_dig _) (Nat.le_trans HLa.out (by omega)) (Nat.le_trans HLb.out (by omega)) hc1 hc2 q r HQ.out HR.out).mono ?_
  rintro e w3 ⟨A3, c3, A4, c4, rfl, hc3, hc4, h3, h4, hb3'⟩
  have H3 := Lib.hid h3
  have H4 := Lib.hid h4
  have HB3 := Lib.hid (HB2.out.trans (hb3'.mono HB2.out.size))
  clear h3 h4 hb3' H1' H2 HB2
  go_upto_region 2 with fail
  have hC := C4.base w3 (.bool (zneg q)) (.slice A3 (dig q.natAbs).length c3) (.bool (zneg r)) (.slice A4 (dig r.natAbs).length c4) 43 43
  have HN3 := Lib.hid ((H3.out.alloc (.cells #[.bool (zneg q), .slice A3 (dig q.natAbs).length c3] 43)).alloc (.cells #[.bool (zneg r), .slice A4 (dig r.natAbs).length c4] 43))
  have HN4 := Lib.hid ((H4.out.alloc (.cells #[.bool (zneg q), .slice A3 (dig q.natAbs).length c3] 43)).alloc (.cells #[.bool (zneg r), .slice A4 (dig r.natAbs).length c4] 43))
  have HW := Lib.hid ((HB3.out.alloc HB3.out.size (.cells #[.bool (zneg q), .slice A3 (dig q.natAbs).length c3] 43)).alloc (by simp; have := HB3.out.size; omega) (.cells #[.bool (zneg r), .slice A4 (dig r.natAbs).length c4] 43))
  generalize ((w3.alloc (.cells #[.bool (zneg q), .slice A3 (dig q.natAbs).length c3] 43)).alloc (.cells #[.bool (zneg r), .slice A4 (dig r.natAbs).length c4] 43)) = W at *
  obtain ⟨k0, k1, k2, k3⟩ := hC
  have hC : C4 w3.heap.size _ _ _ _ W := ⟨k0, k1, k2, k3⟩
  have HC := Lib.hid hC
  clear hC H3 H4 HB3
  go_wp2_with fail
  refine (is_z W A3 c3 q q HN3.out hc3 rfl hq1 hq2).mono ?_
  rintro e w5 ⟨rfl, hb5⟩
  obtain ⟨m0, m1, m2, m3⟩ := C4.below hb5 HC.out
  have HN5 := Lib.hid (HN4.out.below hb5)
  have HW5 := Lib.hid (HW.out.trans (hb5.mono HW.out.size))
  clear hb5 k0 k1 k2 k3 HC HN3 HN4 HW
  go_wp2_with fail
  refine (is_z w5 A4 c4 r r HN5.out hc4 rfl hr1 hr2).mono ?_
  rintro e w6 ⟨rfl, hb6⟩
  have HW6 := Lib.hid (HW5.out.trans (hb6.mono HW5.out.size))
  clear hb6
  go_wp2_with fail
  go_ret
  exact ⟨rfl, HW6.out⟩

set_option maxHeartbeats 4000000 in
theorem awake2_any (w : World) : Calls Try.prog 50 #[] w (RetB w true) := by
  obtain ⟨v5, he_v5⟩ : ∃ v : Int, (5 : Int) = v := ⟨_, rfl⟩
  have HLO_v5 : Hid (-9223372036854775808 ≤ v5) := by show _ ≤ _; omega
  have HHI_v5 : Hid (v5 ≤ 9223372036854775807) := by show _ ≤ _; omega
  have HL_v5 : Hid (zl v5 ≤ 1) := zl_small HLO_v5.out HHI_v5.out
  have HE_v5 := Lib.hid he_v5
  clear he_v5
  obtain ⟨vm7, he_vm7⟩ : ∃ v : Int, (-7 : Int) = v := ⟨_, rfl⟩
  have HLO_vm7 : Hid (-9223372036854775808 ≤ vm7) := by show _ ≤ _; omega
  have HHI_vm7 : Hid (vm7 ≤ 9223372036854775807) := by show _ ≤ _; omega
  have HL_vm7 : Hid (zl vm7 ≤ 1) := zl_small HLO_vm7.out HHI_vm7.out
  have HE_vm7 := Lib.hid he_vm7
  clear he_vm7
  obtain ⟨vm2, he_vm2⟩ : ∃ v : Int, (-2 : Int) = v := ⟨_, rfl⟩
  have HLO_vm2 : Hid (-9223372036854775808 ≤ vm2) := by show _ ≤ _; omega
  have HHI_vm2 : Hid (vm2 ≤ 9223372036854775807) := by show _ ≤ _; omega
  have HL_vm2 : Hid (zl vm2 ≤ 1) := zl_small HLO_vm2.out HHI_vm2.out
  have HE_vm2 := Lib.hid he_vm2
  clear he_vm2
  obtain ⟨vm5, he_vm5⟩ : ∃ v : Int, (-5 : Int) = v := ⟨_, rfl⟩
  have HLO_vm5 : Hid (-9223372036854775808 ≤ vm5) := by show _ ≤ _; omega
  have HHI_vm5 : Hid (vm5 ≤ 9223372036854775807) := by show _ ≤ _; omega
  have HL_vm5 : Hid (zl vm5 ≤ 1) := zl_small HLO_vm5.out HHI_vm5.out
  have HE_vm5 := Lib.hid he_vm5
  clear he_vm5
  obtain ⟨v0, he_v0⟩ : ∃ v : Int, (0 : Int) = v := ⟨_, rfl⟩
  have HLO_v0 : Hid (-9223372036854775808 ≤ v0) := by show _ ≤ _; omega
  have HHI_v0 : Hid (v0 ≤ 9223372036854775807) := by show _ ≤ _; omega
  have HL_v0 : Hid (zl v0 ≤ 1) := zl_small HLO_v0.out HHI_v0.out
  have HE_v0 := Lib.hid he_v0
  clear he_v0
  obtain ⟨vm3, he_vm3⟩ : ∃ v : Int, (-3 : Int) = v := ⟨_, rfl⟩
  have HLO_vm3 : Hid (-9223372036854775808 ≤ vm3) := by show _ ≤ _; omega
  have HHI_vm3 : Hid (vm3 ≤ 9223372036854775807) := by show _ ≤ _; omega
  have HL_vm3 : Hid (zl vm3 ≤ 1) := zl_small HLO_vm3.out HHI_vm3.out
  have HE_vm3 := Lib.hid he_vm3
  clear he_vm3
  obtain ⟨v4, he_v4⟩ : ∃ v : Int, (4 : Int) = v := ⟨_, rfl⟩
  have HLO_v4 : Hid (-9223372036854775808 ≤ v4) := by show _ ≤ _; omega
  have HHI_v4 : Hid (v4 ≤ 9223372036854775807) := by show _ ≤ _; omega
  have HL_v4 : Hid (zl v4 ≤ 1) := zl_small HLO_v4.out HHI_v4.out
  have HE_v4 := Lib.hid he_v4
  clear he_v4
  obtain ⟨vm12, he_vm12⟩ : ∃ v : Int, (-12 : Int) = v := ⟨_, rfl⟩
  have HLO_vm12 : Hid (-9223372036854775808 ≤ vm12) := by show _ ≤ _; omega
  have HHI_vm12 : Hid (vm12 ≤ 9223372036854775807) := by show _ ≤ _; omega
  have HL_vm12 : Hid (zl vm12 ≤ 1) := zl_small HLO_vm12.out HHI_vm12.out
  have HE_vm12 := Lib.hid he_vm12
  clear he_vm12
  have HQ1 : Hid (v5 + vm7 = vm2) := by
    show _ = _
    rw [← HE_v5.out, ← HE_vm7.out, ← HE_vm2.out]
    rfl
  have HQ2 : Hid (vm5 - vm5 = v0) := by
    show _ = _
    rw [← HE_v0.out]
    omega
  have HQ3 : Hid (vm3 * v4 = vm12) := by
    show _ = _
    rw [← HE_vm3.out, ← HE_v4.out, ← HE_vm12.out]
    rfl
  have HT0 := Lib.hid (Below.refl w.heap.size w)
  go_enter Try.func50, Try.ntmps50
  go_wp2_with fail
  refine (of_z w (5) v5 HE_v5.out HLO_v5.out HHI_v5.out).mono ?_
  rintro e w1 ⟨A_a1, c_a1, rfl, hc_a1, h_a1, hbx⟩
  have HB1 := Lib.hid hbx
  have HT1 := Lib.hid (HT0.out.trans (hbx.mono HT0.out.size))
  have H_a1 := Lib.hid h_a1
  clear h_a1
  clear hbx
  skip
  go_wp2_with fail
  refine (of_z w1 (-7) vm7 HE_vm7.out HLO_vm7.out HHI_vm7.out).mono ?_
  rintro e w2 ⟨A_a2, c_a2, rfl, hc_a2, h_a2, hbx⟩
  have HB2 := Lib.hid hbx
  have HT2 := Lib.hid (HT1.out.trans (HB2.out.mono HT1.out.size))
  have H_a2 := Lib.hid h_a2
  clear h_a2
  clear hbx
  skip
  go_wp2_with fail
  refine (add_z w2 (zneg v5) (zneg vm7) A_a1 A_a2 c_a1 c_a2 (dig v5.natAbs) (dig vm7.natAbs) v5 vm7 (H_a1.out.below HB2.out) H_a2.out (zv_dig _) (zv_dig _) (Nat.le_trans HL_v5.out (by omega)) (Nat.le_trans HL_vm7.out (by omega)) hc_a1 hc_a2 vm2 HQ1.out).mono ?_
  rintro e w3 ⟨A_a3, c_a3, rfl, hc_a3, h_a3, hbx⟩
  have HB3 := Lib.hid hbx
  have HT3 := Lib.hid (HT2.out.trans (HB3.out.mono HT2.out.size))
  have H_a3 := Lib.hid h_a3
  clear h_a3
  clear hbx
  skip
  go_wp2_with fail
  refine (is_z w3 A_a3 c_a3 vm2 (-2) H_a3.out hc_a3 HE_vm2.out.symm (by omega) (by omega)).mono ?_
  rintro e w4 ⟨rfl, hbx⟩
  have HB4 := Lib.hid hbx
  have HT4 := Lib.hid (HT3.out.trans (HB4.out.mono HT3.out.size))
  clear hbx
  skip
  go_wp2_with fail
  refine (of_z w4 (-5) vm5 HE_vm5.out HLO_vm5.out HHI_vm5.out).mono ?_
  rintro e w5 ⟨A_a4, c_a4, rfl, hc_a4, h_a4, hbx⟩
  have HB5 := Lib.hid hbx
  have HT5 := Lib.hid (HT4.out.trans (HB5.out.mono HT4.out.size))
  have H_a4 := Lib.hid h_a4
  clear h_a4
  clear hbx
  skip
  go_wp2_with fail
  refine (of_z w5 (-5) vm5 HE_vm5.out HLO_vm5.out HHI_vm5.out).mono ?_
  rintro e w6 ⟨A_a5, c_a5, rfl, hc_a5, h_a5, hbx⟩
  have HB6 := Lib.hid hbx
  have HT6 := Lib.hid (HT5.out.trans (HB6.out.mono HT5.out.size))
  have H_a5 := Lib.hid h_a5
  clear h_a5
  clear hbx
  skip
  go_wp2_with fail
  refine (sub_z w6 (zneg vm5) (zneg vm5) A_a4 A_a5 c_a4 c_a5 (dig vm5.natAbs) (dig vm5.natAbs) vm5 vm5 (H_a4.out.below HB6.out) H_a5.out (zv_dig _) (zv_dig _) (Nat.le_trans HL_vm5.out (by omega)) (Nat.le_trans HL_vm5.out (by omega)) hc_a4 hc_a5 v0 HQ2.out).mono ?_
  rintro e w7 ⟨A_a6, c_a6, rfl, hc_a6, h_a6, hbx⟩
  have HB7 := Lib.hid hbx
  have HT7 := Lib.hid (HT6.out.trans (HB7.out.mono HT6.out.size))
  have H_a6 := Lib.hid h_a6
  clear h_a6
  clear hbx
  skip
  go_wp2_with fail
  refine (is_z w7 A_a6 c_a6 v0 (0) H_a6.out hc_a6 HE_v0.out.symm (by omega) (by omega)).mono ?_
  rintro e w8 ⟨rfl, hbx⟩
  have HB8 := Lib.hid hbx
  have HT8 := Lib.hid (HT7.out.trans (HB8.out.mono HT7.out.size))
  clear hbx
  skip
  go_wp2_with fail
  refine (of_z w8 (-3) vm3 HE_vm3.out HLO_vm3.out HHI_vm3.out).mono ?_
  rintro e w9 ⟨A_a7, c_a7, rfl, hc_a7, h_a7, hbx⟩
  have HB9 := Lib.hid hbx
  have HT9 := Lib.hid (HT8.out.trans (HB9.out.mono HT8.out.size))
  have H_a7 := Lib.hid h_a7
  clear h_a7
  clear hbx
  skip
  go_wp2_with fail
  refine (of_z w9 (4) v4 HE_v4.out HLO_v4.out HHI_v4.out).mono ?_
  rintro e w10 ⟨A_a8, c_a8, rfl, hc_a8, h_a8, hbx⟩
  have HB10 := Lib.hid hbx
  have HT10 := Lib.hid (HT9.out.trans (HB10.out.mono HT9.out.size))
  have H_a8 := Lib.hid h_a8
  clear h_a8
  clear hbx
  skip
  go_wp2_with fail
  refine (mul_z w10 (zneg vm3) (zneg v4) A_a7 A_a8 c_a7 c_a8 (dig vm3.natAbs) (dig v4.natAbs) vm3 v4 (H_a7.out.below HB10.out) H_a8.out (zv_dig _) (zv_dig _) (Nat.le_trans HL_vm3.out (by omega)) (Nat.le_trans HL_v4.out (by omega)) hc_a7 hc_a8 vm12 HQ3.out).mono ?_
  rintro e w11 ⟨A_a9, c_a9, rfl, hc_a9, h_a9, hbx⟩
  have HB11 := Lib.hid hbx
  have HT11 := Lib.hid (HT10.out.trans (HB11.out.mono HT10.out.size))
  have H_a9 := Lib.hid h_a9
  clear h_a9
  clear hbx
  skip
  go_wp2_with fail
  refine (is_z w11 A_a9 c_a9 vm12 (-12) H_a9.out hc_a9 HE_vm12.out.symm (by omega) (by omega)).mono ?_
  rintro e w12 ⟨rfl, hbx⟩
  have HB12 := Lib.hid hbx
  have HT12 := Lib.hid (HT11.out.trans (HB12.out.mono HT11.out.size))
  clear hbx
  skip
  go_wp2_with fail
  refine (by_any w12 (-7) (2) (-4) (1) (by omega) (by omega) (by omega) (by omega) (by omega) (by omega) (by omega) (by omega) (by decide) (by decide)).mono ?_
  rintro e w13 ⟨rfl, hbx⟩
  have HB13 := Lib.hid hbx
  have HT13 := Lib.hid (HT12.out.trans (HB13.out.mono HT12.out.size))
  clear hbx
  skip
  go_wp2_with fail
  refine (by_any w13 (-7) (-2) (4) (1) (by omega) (by omega) (by omega) (by omega) (by omega) (by omega) (by omega) (by omega) (by decide) (by decide)).mono ?_
  rintro e w14 ⟨rfl, hbx⟩
  have HB14 := Lib.hid hbx
  have HT14 := Lib.hid (HT13.out.trans (HB14.out.mono HT13.out.size))
  clear hbx
  skip
  go_wp2_with fail
  refine (by_any w14 (7) (-2) (-3) (1) (by omega) (by omega) (by omega) (by omega) (by omega) (by omega) (by omega) (by omega) (by decide) (by decide)).mono ?_
  rintro e w15 ⟨rfl, hbx⟩
  have HB15 := Lib.hid hbx
  have HT15 := Lib.hid (HT14.out.trans (HB15.out.mono HT14.out.size))
  clear hbx
  skip
  go_wp2_with fail
  refine (by_any w15 (7) (2) (3) (1) (by omega) (by omega) (by omega) (by omega) (by omega) (by omega) (by omega) (by omega) (by decide) (by decide)).mono ?_
  rintro e w16 ⟨rfl, hbx⟩
  have HB16 := Lib.hid hbx
  have HT16 := Lib.hid (HT15.out.trans (HB16.out.mono HT15.out.size))
  clear hbx
  skip
  go_wp2_with fail
  go_ret
  exact ⟨rfl, HT16.out⟩
end Go.Proofs.Ytmcfdgcncpfilaa
