/- WholeNumbers: its walk. -/
import Derived.Test.YtmcfdgcncpfilaaWholeJ
namespace Go.Proofs.Ytmcfdgcncpfilaa
open Go.RowKit

set_option maxRecDepth 100000 in
set_option maxHeartbeats 16000000 in
theorem wnumbers_walk (w : World) : Calls Try.prog 9 #[] w (RetB w true) := by
  obtain ⟨vmin, he_vmin⟩ : ∃ v : Int, (-9223372036854775808 : Int) = v := ⟨_, rfl⟩
  have HLO_vmin : Hid (-9223372036854775808 ≤ vmin) := by show _ ≤ _; omega
  have HHI_vmin : Hid (vmin ≤ 9223372036854775807) := by show _ ≤ _; omega
  have HL_vmin : Hid (zl vmin ≤ 1) := zl_small HLO_vmin.out HHI_vmin.out
  have HE_vmin := Lib.hid he_vmin
  clear he_vmin
  obtain ⟨vmax, he_vmax⟩ : ∃ v : Int, (9223372036854775807 : Int) = v := ⟨_, rfl⟩
  have HLO_vmax : Hid (-9223372036854775808 ≤ vmax) := by show _ ≤ _; omega
  have HHI_vmax : Hid (vmax ≤ 9223372036854775807) := by show _ ≤ _; omega
  have HL_vmax : Hid (zl vmax ≤ 1) := zl_small HLO_vmax.out HHI_vmax.out
  have HE_vmax := Lib.hid he_vmax
  clear he_vmax
  obtain ⟨edge, he_edge⟩ : ∃ v : Int, (9223372036854775808 : Int) = v := ⟨_, rfl⟩
  have HE_edge := Lib.hid he_edge
  clear he_edge
  obtain ⟨v0, he_v0⟩ : ∃ v : Int, (0 : Int) = v := ⟨_, rfl⟩
  have HLO_v0 : Hid (-9223372036854775808 ≤ v0) := by show _ ≤ _; omega
  have HHI_v0 : Hid (v0 ≤ 9223372036854775807) := by show _ ≤ _; omega
  have HL_v0 : Hid (zl v0 ≤ 1) := zl_small HLO_v0.out HHI_v0.out
  have HE_v0 := Lib.hid he_v0
  clear he_v0
  obtain ⟨v5, he_v5⟩ : ∃ v : Int, (5 : Int) = v := ⟨_, rfl⟩
  have HLO_v5 : Hid (-9223372036854775808 ≤ v5) := by show _ ≤ _; omega
  have HHI_v5 : Hid (v5 ≤ 9223372036854775807) := by show _ ≤ _; omega
  have HL_v5 : Hid (zl v5 ≤ 1) := zl_small HLO_v5.out HHI_v5.out
  have HE_v5 := Lib.hid he_v5
  clear he_v5
  obtain ⟨vm5, he_vm5⟩ : ∃ v : Int, (-5 : Int) = v := ⟨_, rfl⟩
  have HLO_vm5 : Hid (-9223372036854775808 ≤ vm5) := by show _ ≤ _; omega
  have HHI_vm5 : Hid (vm5 ≤ 9223372036854775807) := by show _ ≤ _; omega
  have HL_vm5 : Hid (zl vm5 ≤ 1) := zl_small HLO_vm5.out HHI_vm5.out
  have HE_vm5 := Lib.hid he_vm5
  clear he_vm5
  obtain ⟨vm6, he_vm6⟩ : ∃ v : Int, (-6 : Int) = v := ⟨_, rfl⟩
  have HLO_vm6 : Hid (-9223372036854775808 ≤ vm6) := by show _ ≤ _; omega
  have HHI_vm6 : Hid (vm6 ≤ 9223372036854775807) := by show _ ≤ _; omega
  have HL_vm6 : Hid (zl vm6 ≤ 1) := zl_small HLO_vm6.out HHI_vm6.out
  have HE_vm6 := Lib.hid he_vm6
  clear he_vm6
  obtain ⟨vm12, he_vm12⟩ : ∃ v : Int, (-12 : Int) = v := ⟨_, rfl⟩
  have HLO_vm12 : Hid (-9223372036854775808 ≤ vm12) := by show _ ≤ _; omega
  have HHI_vm12 : Hid (vm12 ≤ 9223372036854775807) := by show _ ≤ _; omega
  have HL_vm12 : Hid (zl vm12 ≤ 1) := zl_small HLO_vm12.out HHI_vm12.out
  have HE_vm12 := Lib.hid he_vm12
  clear he_vm12
  obtain ⟨v18, he_v18⟩ : ∃ v : Int, (18 : Int) = v := ⟨_, rfl⟩
  have HLO_v18 : Hid (-9223372036854775808 ≤ v18) := by show _ ≤ _; omega
  have HHI_v18 : Hid (v18 ≤ 9223372036854775807) := by show _ ≤ _; omega
  have HL_v18 : Hid (zl v18 ≤ 1) := zl_small HLO_v18.out HHI_v18.out
  have HE_v18 := Lib.hid he_v18
  clear he_v18
  obtain ⟨v6, he_v6⟩ : ∃ v : Int, (6 : Int) = v := ⟨_, rfl⟩
  have HLO_v6 : Hid (-9223372036854775808 ≤ v6) := by show _ ≤ _; omega
  have HHI_v6 : Hid (v6 ≤ 9223372036854775807) := by show _ ≤ _; omega
  have HL_v6 : Hid (zl v6 ≤ 1) := zl_small HLO_v6.out HHI_v6.out
  have HE_v6 := Lib.hid he_v6
  clear he_v6
  obtain ⟨vm4, he_vm4⟩ : ∃ v : Int, (-4 : Int) = v := ⟨_, rfl⟩
  have HLO_vm4 : Hid (-9223372036854775808 ≤ vm4) := by show _ ≤ _; omega
  have HHI_vm4 : Hid (vm4 ≤ 9223372036854775807) := by show _ ≤ _; omega
  have HL_vm4 : Hid (zl vm4 ≤ 1) := zl_small HLO_vm4.out HHI_vm4.out
  have HE_vm4 := Lib.hid he_vm4
  clear he_vm4
  obtain ⟨v4, he_v4⟩ : ∃ v : Int, (4 : Int) = v := ⟨_, rfl⟩
  have HLO_v4 : Hid (-9223372036854775808 ≤ v4) := by show _ ≤ _; omega
  have HHI_v4 : Hid (v4 ≤ 9223372036854775807) := by show _ ≤ _; omega
  have HL_v4 : Hid (zl v4 ≤ 1) := zl_small HLO_v4.out HHI_v4.out
  have HE_v4 := Lib.hid he_v4
  clear he_v4
  obtain ⟨v3, he_v3⟩ : ∃ v : Int, (3 : Int) = v := ⟨_, rfl⟩
  have HLO_v3 : Hid (-9223372036854775808 ≤ v3) := by show _ ≤ _; omega
  have HHI_v3 : Hid (v3 ≤ 9223372036854775807) := by show _ ≤ _; omega
  have HL_v3 : Hid (zl v3 ≤ 1) := zl_small HLO_v3.out HHI_v3.out
  have HE_v3 := Lib.hid he_v3
  clear he_v3
  obtain ⟨vm1, he_vm1⟩ : ∃ v : Int, (-1 : Int) = v := ⟨_, rfl⟩
  have HLO_vm1 : Hid (-9223372036854775808 ≤ vm1) := by show _ ≤ _; omega
  have HHI_vm1 : Hid (vm1 ≤ 9223372036854775807) := by show _ ≤ _; omega
  have HL_vm1 : Hid (zl vm1 ≤ 1) := zl_small HLO_vm1.out HHI_vm1.out
  have HE_vm1 := Lib.hid he_vm1
  clear he_vm1
  have HQ1 : Hid (-edge = vmin) := by
    show _ = _
    rewrite [← HE_edge.out, ← HE_vmin.out]
    rfl
  have HQ2 : Hid (((Nat.gcd vm12.natAbs v18.natAbs : Nat) : Int) = v6) := by
    show _ = _
    rewrite [← HE_vm12.out, ← HE_v18.out, ← HE_v6.out]
    decide
  have HQ3 : Hid (-v0 = v0) := by
    show _ = _
    rewrite [← HE_v0.out]
    rfl
  have HQ4 : Hid (((vm4.natAbs : Nat) : Int) = v4) := by
    show _ = _
    rewrite [← HE_vm4.out, ← HE_v4.out]
    rfl
  have HQ5 : Hid (zcmp vm5 vm6 = 1) := by
    show _ = _
    rewrite [← HE_vm5.out, ← HE_vm6.out]
    decide
  have HQ6 : Hid (zcmp vm5 v3 = -1) := by
    show _ = _
    rewrite [← HE_vm5.out, ← HE_v3.out]
    decide
  have HQ7 : Hid (vm1.sign = -1) := by
    show _ = _
    rewrite [← HE_vm1.out]
    rfl
  have HQ8 : Hid (smallv edge = 0) := by
    show _ = _
    rewrite [← HE_edge.out]
    decide
  have HQ9 : Hid (smallb edge = false) := by
    show _ = _
    rewrite [← HE_edge.out]
    decide
  have HQA : Hid (smallv vmin = -9223372036854775808) := by
    show _ = _
    rewrite [← HE_vmin.out]
    decide
  have HQB : Hid (smallb vmin = true) := by
    show _ = _
    rewrite [← HE_vmin.out]
    decide
  have HGD : Hid ((dig (min vm12.natAbs v18.natAbs)).length ≤ 1) := by show _ ≤ _; rw [← HE_vm12.out, ← HE_v18.out]; exact dig_length_le (by rw [B64_eq]; decide)
  have HDE : Hid (Digs [9223372036854775808]) := Digs.cons (by rw [B64_eq]; omega) Digs.nil
  have HVE : Hid (zv false (val [9223372036854775808]) = edge) := by show _ = _; rw [← HE_edge.out]; rfl
  have HZS : Hid (v0.sign = 0) := by show _ = _; rw [← HE_v0.out]; rfl
  have HZC : Hid (zcmp v0 v0 = 0) := zcmp_eq _
  go_enter Try.func9, Try.ntmps9
  go_upto_region 3 with fail
  have HKc : Hid (C2 (w.heap.size + 1) (.bool false) (.slice (some ⟨w.heap.size, 0, none⟩) 1 1) ((w.alloc (.cells #[.int .u64 9223372036854775808] 25)).alloc (.cells #[.bool false, .slice (some ⟨w.heap.size, 0, none⟩) 1 1] 43))) := by
    have h := C2.base (w.alloc (.cells #[.int .u64 9223372036854775808] 25)) (.bool false) (.slice (some ⟨w.heap.size, 0, none⟩) 1 1) 43
    rwa [show (w.alloc (.cells #[.int .u64 9223372036854775808] 25)).heap.size = w.heap.size + 1 by simp] at h
  have HT0 : Hid (Below w.heap.size w ((w.alloc (.cells #[.int .u64 9223372036854775808] 25)).alloc (.cells #[.bool false, .slice (some ⟨w.heap.size, 0, none⟩) 1 1] 43))) := ((Below.refl _ _).alloc (Nat.le_refl _) _).alloc (by simp) _
  have NE : Hid (Num ((w.alloc (.cells #[.int .u64 9223372036854775808] 25)).alloc (.cells #[.bool false, .slice (some ⟨w.heap.size, 0, none⟩) 1 1] 43)) (some ⟨w.heap.size, 0, none⟩) [9223372036854775808]) := ((Blk.lit1' w 9223372036854775808).num HDE.out).alloc _
  obtain ⟨w0, hw0⟩ : ∃ W, W = ((w.alloc (.cells #[.int .u64 9223372036854775808] 25)).alloc (.cells #[.bool false, .slice (some ⟨w.heap.size, 0, none⟩) 1 1] 43)) := ⟨_, rfl⟩
  rw [← hw0] at HKc HT0 NE
  rw [← hw0]
  clear hw0
  obtain ⟨k0, k1⟩ := HKc.out
  go_wp2_with fail
  have HSM := small_any w0 false (some ⟨w.heap.size, 0, none⟩) 1 [9223372036854775808] edge NE.out HVE.out (by simp) (by simp)
  rw [HQ8.out, HQ9.out] at HSM
  have HSM := Lib.hid HSM
  refine (HSM.out).mono ?_
  rintro e w1 ⟨rfl, hbx⟩
  have HB1 := Lib.hid hbx
  have HT1 := Lib.hid (HT0.out.trans (HB1.out.mono HT0.out.size))
  have HKc := Lib.hid (C2.below hbx HKc.out)
  obtain ⟨k0, k1⟩ := HKc.out
  clear hbx
  go_wp2_with fail
  refine (neg_z w1 false (some ⟨w.heap.size, 0, none⟩) 1 [9223372036854775808] edge (NE.out.below HB1.out) HVE.out (by simp) (by simp) vmin HQ1.out).mono ?_
  rintro e w2 ⟨A_n1, c_n1, rfl, hc_n1, h_n1, hbx⟩
  have HB2 := Lib.hid hbx
  have HT2 := Lib.hid (HT1.out.trans (HB2.out.mono HT1.out.size))
  have H_n1 := Lib.hid h_n1
  clear h_n1
  have HKc := Lib.hid (C2.below hbx HKc.out)
  obtain ⟨k0, k1⟩ := HKc.out
  clear hbx
  go_wp2_with fail
  have HSM := small_any w2 (zneg vmin) A_n1 c_n1 (dig vmin.natAbs) vmin H_n1.out (zv_dig _) (Nat.le_trans HL_vmin.out (by omega)) hc_n1
  rw [HQA.out, HQB.out] at HSM
  have HSM := Lib.hid HSM
  refine (HSM.out).mono ?_
  rintro e w3 ⟨rfl, hbx⟩
  have HB3 := Lib.hid hbx
  have HT3 := Lib.hid (HT2.out.trans (HB3.out.mono HT2.out.size))
  have HKc := Lib.hid (C2.below hbx HKc.out)
  obtain ⟨k0, k1⟩ := HKc.out
  clear hbx
  go_upto_region 5 with fail
  go_region_held3 (fun W => W.cell? ⟨w.heap.size + 1, 0, none⟩ = some (.bool false) ∧ W.cell? ⟨w.heap.size + 1, 1, none⟩ = some (.slice (some ⟨w.heap.size, 0, none⟩) 1 1))
   (first | exact HKc.out | exact C2.drew HKc.out)
   (first
    | (go_at_call 43; refine (is_z w7 A_o2 c_o2 vmax (9223372036854775807) H_o2.out hc_o2 HE_vmax.out.symm (by omega) (by omega)).mono ?_; rintro e w8 ⟨rfl, hbx⟩; have HB8 := Lib.hid hbx; have HT8 := Lib.hid (HT7.out.trans (HB8.out.mono HT7.out.size)); have HKc := Lib.hid (C2.below hbx HKc.out))
    | (go_at_call 39; refine (of_z w6 (9223372036854775807) vmax HE_vmax.out HLO_vmax.out HHI_vmax.out).mono ?_; rintro e w7 ⟨A_o2, c_o2, rfl, hc_o2, h_o2, hbx⟩; have HB7 := Lib.hid hbx; have HT7 := Lib.hid (HT6.out.trans (HB7.out.mono HT6.out.size)); have H_o2 := Lib.hid h_o2; clear h_o2; have HKc := Lib.hid (C2.below hbx HKc.out))
    | (go_at_call 42; refine (same2_any w5 A_o1 A_n2 c_o1 c_n2 vmin vmin (H_o1.out.below HB5.out) H_n2.out rfl (Nat.le_trans HL_vmin.out (by omega))).mono ?_; rintro e w6 ⟨rfl, hbx⟩; have HB6 := Lib.hid hbx; have HT6 := Lib.hid (HT5.out.trans (HB6.out.mono HT5.out.size)); have HKc := Lib.hid (C2.below hbx HKc.out))
    | (go_at_call 41; refine (neg_z w4 false (some ⟨w.heap.size, 0, none⟩) 1 [9223372036854775808] edge ((((NE.out.below HB1.out).below HB2.out).below HB3.out).below HB4.out) HVE.out (by simp) (by simp) vmin HQ1.out).mono ?_; rintro e w5 ⟨A_n2, c_n2, rfl, hc_n2, h_n2, hbx⟩; have HB5 := Lib.hid hbx; have HT5 := Lib.hid (HT4.out.trans (HB5.out.mono HT4.out.size)); have H_n2 := Lib.hid h_n2; clear h_n2; have HKc := Lib.hid (C2.below hbx HKc.out))
    | (go_at_call 39; refine (of_z w3.drew (-9223372036854775808) vmin HE_vmin.out HLO_vmin.out HHI_vmin.out).mono ?_; rintro e w4 ⟨A_o1, c_o1, rfl, hc_o1, h_o1, hbx⟩; have hbx := Below.of_drew hbx; have HB4 := Lib.hid hbx; have HT4 := Lib.hid (HT3.out.trans (HB4.out.mono HT3.out.size)); have H_o1 := Lib.hid h_o1; clear h_o1; have HKc := Lib.hid (C2.below hbx HKc.out))
   )
  obtain ⟨k0, k1⟩ := HKc.out
  go_wp2_with fail
  have HB9 : Hid (Below w8.heap.size w8 (w8.alloc (.cells #[.int .u64 0, .int .u64 0] 25))) := (Below.refl _ _).alloc (Nat.le_refl _) _
  have HT9 := Lib.hid (HT8.out.trans (HB9.out.mono HT8.out.size))
  have N_L1 : Hid (Num (w8.alloc (.cells #[.int .u64 0, .int .u64 0] 25)) (some ⟨w8.heap.size, 0, none⟩) [0, 0]) := (Blk.lit w8 [0, 0]).num (digs_lit (by decide +kernel))
  obtain ⟨w9, hw9⟩ : ∃ W, W = (w8.alloc (.cells #[.int .u64 0, .int .u64 0] 25)) := ⟨_, rfl⟩
  rw [← hw9] at HB9 HT9 N_L1
  rw [← hw9]
  clear hw9
  refine (norm_z w9 true (some ⟨w8.heap.size, 0, none⟩) 2 [0, 0] v0 N_L1.out (by rw [← HE_v0.out]; rfl) (by simp) (by simp) v0 rfl).mono ?_
  rintro e w10 ⟨A_m1, c_m1, rfl, hc_m1, h_m1, hbx⟩
  have HB10 := Lib.hid hbx
  have HT10 := Lib.hid (HT9.out.trans (HB10.out.mono HT9.out.size))
  have H_m1 := Lib.hid h_m1
  clear h_m1
  clear hbx
  go_wp2_with fail
  refine (is_z w10 A_m1 c_m1 v0 (0) H_m1.out hc_m1 HE_v0.out.symm (by omega) (by omega)).mono ?_
  rintro e w11 ⟨rfl, hbx⟩
  have HB11 := Lib.hid hbx
  have HT11 := Lib.hid (HT10.out.trans (HB11.out.mono HT10.out.size))
  clear hbx
  go_wp2_with fail
  have HB12 : Hid (Below w11.heap.size w11 (w11.alloc (.cells #[.int .u64 0] 25))) := (Below.refl _ _).alloc (Nat.le_refl _) _
  have HT12 := Lib.hid (HT11.out.trans (HB12.out.mono HT11.out.size))
  have N_L2 : Hid (Num (w11.alloc (.cells #[.int .u64 0] 25)) (some ⟨w11.heap.size, 0, none⟩) [0]) := (Blk.lit w11 [0]).num (digs_lit (by decide +kernel))
  obtain ⟨w12, hw12⟩ : ∃ W, W = (w11.alloc (.cells #[.int .u64 0] 25)) := ⟨_, rfl⟩
  rw [← hw12] at HB12 HT12 N_L2
  rw [← hw12]
  clear hw12
  refine (sign_z w12 true (some ⟨w11.heap.size, 0, none⟩) 1 [0] v0 N_L2.out (by rw [← HE_v0.out]; rfl) (by simp) (by simp) 0 HZS.out).mono ?_
  rintro e w13 ⟨rfl, hbx⟩
  have HB13 := Lib.hid hbx
  have HT13 := Lib.hid (HT12.out.trans (HB13.out.mono HT12.out.size))
  clear hbx
  go_wp2_with fail
  refine (cmp_z w13 true false none none 0 0 [] [] v0 v0 (Num.nil _ none) (Num.nil _ none) (by rw [← HE_v0.out]; rfl) (by rw [← HE_v0.out]; rfl) (by simp) (by simp) (by simp) (by simp) 0 HZC.out).mono ?_
  rintro e w14 ⟨rfl, hbx⟩
  have HB14 := Lib.hid hbx
  have HT14 := Lib.hid (HT13.out.trans (HB14.out.mono HT13.out.size))
  clear hbx
  go_wp2_with fail
  refine (by_any w14 (5) (0) (0) (0) (by omega) (by omega) (by omega) (by omega) (by omega) (by omega) (by omega) (by omega) (by decide) (by decide)).mono ?_
  rintro e w15 ⟨rfl, hbx⟩
  have HB15 := Lib.hid hbx
  have HT15 := Lib.hid (HT14.out.trans (HB15.out.mono HT14.out.size))
  clear hbx
  go_wp2_with fail
  refine (by_any w15 (-8) (2) (-4) (0) (by omega) (by omega) (by omega) (by omega) (by omega) (by omega) (by omega) (by omega) (by decide) (by decide)).mono ?_
  rintro e w16 ⟨rfl, hbx⟩
  have HB16 := Lib.hid hbx
  have HT16 := Lib.hid (HT15.out.trans (HB16.out.mono HT15.out.size))
  clear hbx
  go_wp2_with fail
  refine (by_any w16 (0) (-3) (0) (0) (by omega) (by omega) (by omega) (by omega) (by omega) (by omega) (by omega) (by omega) (by decide) (by decide)).mono ?_
  rintro e w17 ⟨rfl, hbx⟩
  have HB17 := Lib.hid hbx
  have HT17 := Lib.hid (HT16.out.trans (HB17.out.mono HT16.out.size))
  clear hbx
  go_wp2_with fail
  refine (of_z w17 (-12) vm12 HE_vm12.out HLO_vm12.out HHI_vm12.out).mono ?_
  rintro e w18 ⟨A_p1, c_p1, rfl, hc_p1, h_p1, hbx⟩
  have HB18 := Lib.hid hbx
  have HT18 := Lib.hid (HT17.out.trans (HB18.out.mono HT17.out.size))
  have H_p1 := Lib.hid h_p1
  clear h_p1
  clear hbx
  go_wp2_with fail
  refine (of_z w18 (18) v18 HE_v18.out HLO_v18.out HHI_v18.out).mono ?_
  rintro e w19 ⟨A_p2, c_p2, rfl, hc_p2, h_p2, hbx⟩
  have HB19 := Lib.hid hbx
  have HT19 := Lib.hid (HT18.out.trans (HB19.out.mono HT18.out.size))
  have H_p2 := Lib.hid h_p2
  clear h_p2
  clear hbx
  go_wp2_with fail
  refine (gcd_z w19 (zneg vm12) (zneg v18) A_p1 A_p2 c_p1 c_p2 (dig vm12.natAbs) (dig v18.natAbs) vm12 v18 (H_p1.out.below HB19.out) H_p2.out (zv_dig _) (zv_dig _) (Nat.le_trans HL_vm12.out (by omega)) (Nat.le_trans HL_v18.out (by omega)) hc_p1 hc_p2 v6 (by rw [val_dig, val_dig]; exact HGD.out) HQ2.out).mono ?_
  rintro e w20 ⟨A_p3, c_p3, rfl, hc_p3, h_p3, hbx⟩
  have HB20 := Lib.hid hbx
  have HT20 := Lib.hid (HT19.out.trans (HB20.out.mono HT19.out.size))
  have H_p3 := Lib.hid h_p3
  clear h_p3
  clear hbx
  go_wp2_with fail
  refine (is_z w20 A_p3 c_p3 v6 (6) H_p3.out hc_p3 HE_v6.out.symm (by omega) (by omega)).mono ?_
  rintro e w21 ⟨rfl, hbx⟩
  have HB21 := Lib.hid hbx
  have HT21 := Lib.hid (HT20.out.trans (HB21.out.mono HT20.out.size))
  clear hbx
  go_wp2_with fail
  refine (of_z w21 (0) v0 HE_v0.out HLO_v0.out HHI_v0.out).mono ?_
  rintro e w22 ⟨A_p4, c_p4, rfl, hc_p4, h_p4, hbx⟩
  have HB22 := Lib.hid hbx
  have HT22 := Lib.hid (HT21.out.trans (HB22.out.mono HT21.out.size))
  have H_p4 := Lib.hid h_p4
  clear h_p4
  clear hbx
  go_wp2_with fail
  refine (neg_z w22 (zneg v0) A_p4 c_p4 (dig v0.natAbs) v0 H_p4.out (zv_dig _) (Nat.le_trans HL_v0.out (by omega)) hc_p4 v0 HQ3.out).mono ?_
  rintro e w23 ⟨A_p5, c_p5, rfl, hc_p5, h_p5, hbx⟩
  have HB23 := Lib.hid hbx
  have HT23 := Lib.hid (HT22.out.trans (HB23.out.mono HT22.out.size))
  have H_p5 := Lib.hid h_p5
  clear h_p5
  clear hbx
  go_wp2_with fail
  refine (is_z w23 A_p5 c_p5 v0 (0) H_p5.out hc_p5 HE_v0.out.symm (by omega) (by omega)).mono ?_
  rintro e w24 ⟨rfl, hbx⟩
  have HB24 := Lib.hid hbx
  have HT24 := Lib.hid (HT23.out.trans (HB24.out.mono HT23.out.size))
  clear hbx
  go_wp2_with fail
  refine (of_z w24 (-4) vm4 HE_vm4.out HLO_vm4.out HHI_vm4.out).mono ?_
  rintro e w25 ⟨A_p6, c_p6, rfl, hc_p6, h_p6, hbx⟩
  have HB25 := Lib.hid hbx
  have HT25 := Lib.hid (HT24.out.trans (HB25.out.mono HT24.out.size))
  have H_p6 := Lib.hid h_p6
  clear h_p6
  clear hbx
  go_wp2_with fail
  refine (abs_z w25 (zneg vm4) A_p6 c_p6 (dig vm4.natAbs) vm4 H_p6.out (zv_dig _) (Nat.le_trans HL_vm4.out (by omega)) hc_p6 v4 HQ4.out).mono ?_
  rintro e w26 ⟨A_p7, c_p7, rfl, hc_p7, h_p7, hbx⟩
  have HB26 := Lib.hid hbx
  have HT26 := Lib.hid (HT25.out.trans (HB26.out.mono HT25.out.size))
  have H_p7 := Lib.hid h_p7
  clear h_p7
  clear hbx
  go_wp2_with fail
  refine (is_z w26 A_p7 c_p7 v4 (4) H_p7.out hc_p7 HE_v4.out.symm (by omega) (by omega)).mono ?_
  rintro e w27 ⟨rfl, hbx⟩
  have HB27 := Lib.hid hbx
  have HT27 := Lib.hid (HT26.out.trans (HB27.out.mono HT26.out.size))
  clear hbx
  go_wp2_with fail
  refine (of_z w27 (-5) vm5 HE_vm5.out HLO_vm5.out HHI_vm5.out).mono ?_
  rintro e w28 ⟨A_p8, c_p8, rfl, hc_p8, h_p8, hbx⟩
  have HB28 := Lib.hid hbx
  have HT28 := Lib.hid (HT27.out.trans (HB28.out.mono HT27.out.size))
  have H_p8 := Lib.hid h_p8
  clear h_p8
  clear hbx
  go_wp2_with fail
  refine (of_z w28 (-6) vm6 HE_vm6.out HLO_vm6.out HHI_vm6.out).mono ?_
  rintro e w29 ⟨A_p9, c_p9, rfl, hc_p9, h_p9, hbx⟩
  have HB29 := Lib.hid hbx
  have HT29 := Lib.hid (HT28.out.trans (HB29.out.mono HT28.out.size))
  have H_p9 := Lib.hid h_p9
  clear h_p9
  clear hbx
  go_wp2_with fail
  refine (cmp_z w29 (zneg vm5) (zneg vm6) A_p8 A_p9 c_p8 c_p9 (dig vm5.natAbs) (dig vm6.natAbs) vm5 vm6 (H_p8.out.below HB29.out) H_p9.out (zv_dig _) (zv_dig _) (Nat.le_trans HL_vm5.out (by omega)) (Nat.le_trans HL_vm6.out (by omega)) hc_p8 hc_p9 1 HQ5.out).mono ?_
  rintro e w30 ⟨rfl, hbx⟩
  have HB30 := Lib.hid hbx
  have HT30 := Lib.hid (HT29.out.trans (HB30.out.mono HT29.out.size))
  clear hbx
  go_wp2_with fail
  refine (of_z w30 (-5) vm5 HE_vm5.out HLO_vm5.out HHI_vm5.out).mono ?_
  rintro e w31 ⟨A_q1, c_q1, rfl, hc_q1, h_q1, hbx⟩
  have HB31 := Lib.hid hbx
  have HT31 := Lib.hid (HT30.out.trans (HB31.out.mono HT30.out.size))
  have H_q1 := Lib.hid h_q1
  clear h_q1
  clear hbx
  go_wp2_with fail
  refine (of_z w31 (3) v3 HE_v3.out HLO_v3.out HHI_v3.out).mono ?_
  rintro e w32 ⟨A_q2, c_q2, rfl, hc_q2, h_q2, hbx⟩
  have HB32 := Lib.hid hbx
  have HT32 := Lib.hid (HT31.out.trans (HB32.out.mono HT31.out.size))
  have H_q2 := Lib.hid h_q2
  clear h_q2
  clear hbx
  go_wp2_with fail
  refine (cmp_z w32 (zneg vm5) (zneg v3) A_q1 A_q2 c_q1 c_q2 (dig vm5.natAbs) (dig v3.natAbs) vm5 v3 (H_q1.out.below HB32.out) H_q2.out (zv_dig _) (zv_dig _) (Nat.le_trans HL_vm5.out (by omega)) (Nat.le_trans HL_v3.out (by omega)) hc_q1 hc_q2 (-1) HQ6.out).mono ?_
  rintro e w33 ⟨rfl, hbx⟩
  have HB33 := Lib.hid hbx
  have HT33 := Lib.hid (HT32.out.trans (HB33.out.mono HT32.out.size))
  clear hbx
  go_wp2_with fail
  refine (of_z w33 (-1) vm1 HE_vm1.out HLO_vm1.out HHI_vm1.out).mono ?_
  rintro e w34 ⟨A_q3, c_q3, rfl, hc_q3, h_q3, hbx⟩
  have HB34 := Lib.hid hbx
  have HT34 := Lib.hid (HT33.out.trans (HB34.out.mono HT33.out.size))
  have H_q3 := Lib.hid h_q3
  clear h_q3
  clear hbx
  go_wp2_with fail
  refine (sign_z w34 (zneg vm1) A_q3 c_q3 (dig vm1.natAbs) vm1 H_q3.out (zv_dig _) (Nat.le_trans HL_vm1.out (by omega)) hc_q3 (-1) HQ7.out).mono ?_
  rintro e w35 ⟨rfl, hbx⟩
  have HB35 := Lib.hid hbx
  have HT35 := Lib.hid (HT34.out.trans (HB35.out.mono HT34.out.size))
  clear hbx
  go_wp2_with fail
  refine (awake2_any w35).mono ?_
  rintro e w36 ⟨rfl, hbx⟩
  have HB36 := Lib.hid hbx
  have HT36 := Lib.hid (HT35.out.trans (HB36.out.mono HT35.out.size))
  clear hbx
  go_wp2_with fail
  go_ret
  exact ⟨rfl, HT36.out⟩
end Go.Proofs.Ytmcfdgcncpfilaa
