/- LimbsTells: its walk. -/
import Derived.Test.YtginajegbknfhaaLawsE
namespace Go.Proofs.Ytginajegbknfhaa
open Go.RowKit

set_option maxRecDepth 100000 in
set_option maxHeartbeats 16000000 in
theorem tells_few (w : World) (A B : Option Addr) (ca cb : Nat) (xs ys : List Nat) (a b : Nat) (ha : Num w A xs) (hb : Num w B ys) (hva : val xs = a) (hvb : val ys = b) (hac : xs.length ≤ ca) (hbc : ys.length ≤ cb) (z : Int) (hzm : z ≤ 9223372036854775807) (hAn : A = none → ca = 0) (hBn : B = none → cb = 0) (l1 : xs.length ≤ 24) (l2 : ys.length ≤ 24) (h6 : z ≤ 600) :
    Calls Try.prog 3 #[.slice A xs.length ca, .slice B ys.length cb, .int .i64 z] w (RetB w true) := by
  have g6 : ¬ (600 : Int) < z := by omega
  have d6 : decide ((600 : Int) < z) = false := decide_eq_false g6
  have hz : z ≤ 600 ∨ 1048576 < z := .inl h6
  have HVa := Lib.hid hva
  have HVb := Lib.hid hvb
  have HL_a : Hid ((dig a).length ≤ 24) := Nat.le_trans (dl_val ha.1 hva) l1
  have HL_b : Hid ((dig b).length ≤ 24) := Nat.le_trans (dl_val hb.1 hvb) l2
  have Ha := Lib.hid ha
  have Hb := Lib.hid hb
  have HT0 := Lib.hid (Below.refl w.heap.size w)
  clear ha hb hva hvb
  obtain ⟨q, he_q⟩ : ∃ v : Nat, dmq a b = v := ⟨_, rfl⟩
  have HL_q : Hid ((dig q).length ≤ 24) := by
    have h := And.intro (dl_dmq a b) (And.intro HL_a.out HL_b.out)
    rw [he_q] at h
    show _ ≤ _
    omega
  have HE_q := Lib.hid he_q
  clear he_q
  obtain ⟨r, he_r⟩ : ∃ v : Nat, dmr a b = v := ⟨_, rfl⟩
  have HL_r : Hid ((dig r).length ≤ 24) := by
    have h := And.intro (dl_dmr a b) (And.intro HL_a.out HL_b.out)
    rw [he_r] at h
    show _ ≤ _
    omega
  have HE_r := Lib.hid he_r
  clear he_r
  obtain ⟨s, he_s⟩ : ∃ v : Nat, a + b = v := ⟨_, rfl⟩
  have HL_s : Hid ((dig s).length ≤ 49) := by
    have h := And.intro (dl_add a b) (And.intro HL_a.out HL_b.out)
    rw [he_s] at h
    show _ ≤ _
    omega
  have HE_s := Lib.hid he_s
  clear he_s
  obtain ⟨t, he_t⟩ : ∃ v : Nat, a - b = v := ⟨_, rfl⟩
  have HL_t : Hid ((dig t).length ≤ 24) := by
    have h := And.intro (dl_le (Nat.sub_le a b)) (And.intro HL_a.out HL_b.out)
    rw [he_t] at h
    show _ ≤ _
    omega
  have HE_t := Lib.hid he_t
  clear he_t
  obtain ⟨m, he_m⟩ : ∃ v : Nat, a * b = v := ⟨_, rfl⟩
  have HL_m : Hid ((dig m).length ≤ 48) := by
    have h := And.intro (dl_mul a b) (And.intro HL_a.out HL_b.out)
    rw [he_m] at h
    show _ ≤ _
    omega
  have HE_m := Lib.hid he_m
  clear he_m
  obtain ⟨u, he_u⟩ : ∃ v : Nat, shlv a z = v := ⟨_, rfl⟩
  have HL_u : Hid ((dig u).length ≤ 34) := by
    have h := And.intro (dl_blen_shl a z hz) (And.intro HL_a.out HL_b.out)
    rw [he_u] at h
    show _ ≤ _
    omega
  have HE_u := Lib.hid he_u
  clear he_u
  obtain ⟨v, he_v⟩ : ∃ v : Nat, shrv a z = v := ⟨_, rfl⟩
  have HL_v : Hid ((dig v).length ≤ 24) := by
    have h := And.intro (dl_shr a z) (And.intro HL_a.out HL_b.out)
    rw [he_v] at h
    show _ ≤ _
    omega
  have HE_v := Lib.hid he_v
  clear he_v
  obtain ⟨kc, hkc⟩ : ∃ k, cmpv a b = k := ⟨_, rfl⟩
  have HKC := Lib.hid hkc
  obtain ⟨kb, hkb⟩ : ∃ k, blen a = k := ⟨_, rfl⟩
  have HKB := Lib.hid hkb
  have ekc : (kc == kc) = true := beq_self_eq_true kc
  have ekb : ((kb : Int) == (kb : Int)) = true := beq_self_eq_true (kb : Int)
  clear hkc hkb ekc ekb
  have n1 : ¬ (24 : Int) < (xs.length : Int) := by omega
  have n2 : ¬ (24 : Int) < (ys.length : Int) := by omega
  have HZ := Lib.hid hz
  clear hz
  go_enter Try.func3, Try.ntmps3
  go_wp2_with fail
  refine (copyw_any w A ca xs (Ha.out.below HT0.out) hAn (by omega)).mono ?_
  rintro e w1 ⟨A_x, c_x, rfl, hc_x, h_x, hbx⟩
  have HB1 := Lib.hid hbx
  have HT1 := Lib.hid (HT0.out.trans (HB1.out.mono HT0.out.size))
  clear hbx
  have H_x := Lib.hid h_x
  clear h_x
  go_wp2_with fail
  refine (copyw_any w1 B cb ys (Hb.out.below HT1.out) hBn (by omega)).mono ?_
  rintro e w2 ⟨A_y, c_y, rfl, hc_y, h_y, hbx⟩
  have HB2 := Lib.hid hbx
  have HT2 := Lib.hid (HT1.out.trans (HB2.out.mono HT1.out.size))
  clear hbx
  have H_y := Lib.hid h_y
  clear h_y
  go_wp2_with fail
  refine (dm_n w2 A_x A_y c_x c_y xs ys a b (H_x.out.below HB2.out) H_y.out HVa.out HVb.out (by omega) (by omega) hc_x hc_y q r HE_q.out HE_r.out).mono ?_
  rintro e w3 ⟨A_i1, c_i1, A_i2, c_i2, rfl, hc_i1, hc_i2, h_i1, h_i2, hbx⟩
  have HB3 := Lib.hid hbx
  have HT3 := Lib.hid (HT2.out.trans (HB3.out.mono HT2.out.size))
  clear hbx
  have H_i1 := Lib.hid h_i1
  clear h_i1
  have H_i2 := Lib.hid h_i2
  clear h_i2
  go_wp2_with fail
  refine (edm_n w3 A B ca cb xs ys a b (Ha.out.below HT3.out) (Hb.out.below HT3.out) HVa.out HVb.out (by omega) (by omega) hac hbc q r HE_q.out HE_r.out).mono ?_
  rintro e w4 ⟨A_i3, c_i3, A_i4, c_i4, rfl, hc_i3, hc_i4, h_i3, h_i4, hbx⟩
  have HB4 := Lib.hid hbx
  have HT4 := Lib.hid (HT3.out.trans (HB4.out.mono HT3.out.size))
  clear hbx
  have H_i3 := Lib.hid h_i3
  clear h_i3
  have H_i4 := Lib.hid h_i4
  clear h_i4
  go_wp2_with fail
  refine (same_v w4 A_i1 A_i3 c_i1 c_i3 q q (H_i1.out.below HB4.out) H_i3.out rfl (Nat.le_trans HL_q.out (by omega))).mono ?_
  rintro e w5 ⟨rfl, hbx⟩
  have HB5 := Lib.hid hbx
  have HT5 := Lib.hid (HT4.out.trans (HB5.out.mono HT4.out.size))
  clear hbx
  go_wp2_with fail
  refine (same_v w5 A_i2 A_i4 c_i2 c_i4 r r ((H_i2.out.below HB4.out).below HB5.out) (H_i4.out.below HB5.out) rfl (Nat.le_trans HL_r.out (by omega))).mono ?_
  rintro e w6 ⟨rfl, hbx⟩
  have HB6 := Lib.hid hbx
  have HT6 := Lib.hid (HT5.out.trans (HB6.out.mono HT5.out.size))
  clear hbx
  go_wp2_with fail
  refine (add_n w6 A_x A_y c_x c_y xs ys a b (((((H_x.out.below HB2.out).below HB3.out).below HB4.out).below HB5.out).below HB6.out) ((((H_y.out.below HB3.out).below HB4.out).below HB5.out).below HB6.out) HVa.out HVb.out (by omega) (by omega) hc_x hc_y s HE_s.out).mono ?_
  rintro e w7 ⟨A_j0, c_j0, rfl, hc_j0, h_j0, hbx⟩
  have HB7 := Lib.hid hbx
  have HT7 := Lib.hid (HT6.out.trans (HB7.out.mono HT6.out.size))
  clear hbx
  have H_j0 := Lib.hid h_j0
  clear h_j0
  go_wp2_with fail
  refine (eadd_n w7 A B ca cb xs ys a b (Ha.out.below HT7.out) (Hb.out.below HT7.out) HVa.out HVb.out (by omega) (by omega) hac hbc s HE_s.out).mono ?_
  rintro e w8 ⟨A_j1, c_j1, rfl, hc_j1, h_j1, hbx⟩
  have HB8 := Lib.hid hbx
  have HT8 := Lib.hid (HT7.out.trans (HB8.out.mono HT7.out.size))
  clear hbx
  have H_j1 := Lib.hid h_j1
  clear h_j1
  go_wp2_with fail
  refine (same_v w8 A_j0 A_j1 c_j0 c_j1 s s (H_j0.out.below HB8.out) H_j1.out rfl (Nat.le_trans HL_s.out (by omega))).mono ?_
  rintro e w9 ⟨rfl, hbx⟩
  have HB9 := Lib.hid hbx
  have HT9 := Lib.hid (HT8.out.trans (HB9.out.mono HT8.out.size))
  clear hbx
  go_wp2_with fail
  refine (sub_n w9 A_x A_y c_x c_y xs ys a b ((((((((H_x.out.below HB2.out).below HB3.out).below HB4.out).below HB5.out).below HB6.out).below HB7.out).below HB8.out).below HB9.out) (((((((H_y.out.below HB3.out).below HB4.out).below HB5.out).below HB6.out).below HB7.out).below HB8.out).below HB9.out) HVa.out HVb.out (by omega) (by omega) hc_x hc_y t HE_t.out).mono ?_
  rintro e w10 ⟨A_j2, c_j2, rfl, hc_j2, h_j2, hbx⟩
  have HB10 := Lib.hid hbx
  have HT10 := Lib.hid (HT9.out.trans (HB10.out.mono HT9.out.size))
  clear hbx
  have H_j2 := Lib.hid h_j2
  clear h_j2
  go_wp2_with fail
  refine (esub_n w10 A B ca cb xs ys a b (Ha.out.below HT10.out) (Hb.out.below HT10.out) HVa.out HVb.out (by omega) (by omega) hac hbc t HE_t.out).mono ?_
  rintro e w11 ⟨A_j3, c_j3, rfl, hc_j3, h_j3, hbx⟩
  have HB11 := Lib.hid hbx
  have HT11 := Lib.hid (HT10.out.trans (HB11.out.mono HT10.out.size))
  clear hbx
  have H_j3 := Lib.hid h_j3
  clear h_j3
  go_wp2_with fail
  refine (same_v w11 A_j2 A_j3 c_j2 c_j3 t t (H_j2.out.below HB11.out) H_j3.out rfl (Nat.le_trans HL_t.out (by omega))).mono ?_
  rintro e w12 ⟨rfl, hbx⟩
  have HB12 := Lib.hid hbx
  have HT12 := Lib.hid (HT11.out.trans (HB12.out.mono HT11.out.size))
  clear hbx
  go_wp2_with fail
  refine (mul_n w12 A_x A_y c_x c_y xs ys a b (((((((((((H_x.out.below HB2.out).below HB3.out).below HB4.out).below HB5.out).below HB6.out).below HB7.out).below HB8.out).below HB9.out).below HB10.out).below HB11.out).below HB12.out) ((((((((((H_y.out.below HB3.out).below HB4.out).below HB5.out).below HB6.out).below HB7.out).below HB8.out).below HB9.out).below HB10.out).below HB11.out).below HB12.out) HVa.out HVb.out (by omega) (by omega) hc_x hc_y m HE_m.out).mono ?_
  rintro e w13 ⟨A_j4, c_j4, rfl, hc_j4, h_j4, hbx⟩
  have HB13 := Lib.hid hbx
  have HT13 := Lib.hid (HT12.out.trans (HB13.out.mono HT12.out.size))
  clear hbx
  have H_j4 := Lib.hid h_j4
  clear h_j4
  go_wp2_with fail
  refine (emul_n w13 A B ca cb xs ys a b (Ha.out.below HT13.out) (Hb.out.below HT13.out) HVa.out HVb.out (by omega) (by omega) hac hbc m HE_m.out).mono ?_
  rintro e w14 ⟨A_j5, c_j5, rfl, hc_j5, h_j5, hbx⟩
  have HB14 := Lib.hid hbx
  have HT14 := Lib.hid (HT13.out.trans (HB14.out.mono HT13.out.size))
  clear hbx
  have H_j5 := Lib.hid h_j5
  clear h_j5
  go_wp2_with fail
  refine (same_v w14 A_j4 A_j5 c_j4 c_j5 m m (H_j4.out.below HB14.out) H_j5.out rfl (Nat.le_trans HL_m.out (by omega))).mono ?_
  rintro e w15 ⟨rfl, hbx⟩
  have HB15 := Lib.hid hbx
  have HT15 := Lib.hid (HT14.out.trans (HB15.out.mono HT14.out.size))
  clear hbx
  go_wp2_with fail
  refine (cmp_n w15 A_x A_y c_x c_y xs ys a b ((((((((((((((H_x.out.below HB2.out).below HB3.out).below HB4.out).below HB5.out).below HB6.out).below HB7.out).below HB8.out).below HB9.out).below HB10.out).below HB11.out).below HB12.out).below HB13.out).below HB14.out).below HB15.out) (((((((((((((H_y.out.below HB3.out).below HB4.out).below HB5.out).below HB6.out).below HB7.out).below HB8.out).below HB9.out).below HB10.out).below HB11.out).below HB12.out).below HB13.out).below HB14.out).below HB15.out) HVa.out HVb.out (by omega) (by omega) hc_x hc_y kc HKC.out).mono ?_
  rintro e w16 ⟨rfl, hbx⟩
  have HB16 := Lib.hid hbx
  have HT16 := Lib.hid (HT15.out.trans (HB16.out.mono HT15.out.size))
  clear hbx
  go_wp2_with fail
  refine (ecmp_n w16 A B ca cb xs ys a b (Ha.out.below HT16.out) (Hb.out.below HT16.out) HVa.out HVb.out (by omega) (by omega) hac hbc kc HKC.out).mono ?_
  rintro e w17 ⟨rfl, hbx⟩
  have HB17 := Lib.hid hbx
  have HT17 := Lib.hid (HT16.out.trans (HB17.out.mono HT16.out.size))
  clear hbx
  go_wp2_with fail
  refine (bits_n w17 A_x c_x xs a ((((((((((((((((H_x.out.below HB2.out).below HB3.out).below HB4.out).below HB5.out).below HB6.out).below HB7.out).below HB8.out).below HB9.out).below HB10.out).below HB11.out).below HB12.out).below HB13.out).below HB14.out).below HB15.out).below HB16.out).below HB17.out) HVa.out (by omega) hc_x kb HKB.out).mono ?_
  rintro e w18 ⟨rfl, hbx⟩
  have HB18 := Lib.hid hbx
  have HT18 := Lib.hid (HT17.out.trans (HB18.out.mono HT17.out.size))
  clear hbx
  go_wp2_with fail
  refine (ebits_n w18 A ca xs a (Ha.out.below HT18.out) HVa.out (by omega) hac kb HKB.out).mono ?_
  rintro e w19 ⟨rfl, hbx⟩
  have HB19 := Lib.hid hbx
  have HT19 := Lib.hid (HT18.out.trans (HB19.out.mono HT18.out.size))
  clear hbx
  go_wp2_with fail
  refine (shl_n w19 A_x c_x xs a ((((((((((((((((((H_x.out.below HB2.out).below HB3.out).below HB4.out).below HB5.out).below HB6.out).below HB7.out).below HB8.out).below HB9.out).below HB10.out).below HB11.out).below HB12.out).below HB13.out).below HB14.out).below HB15.out).below HB16.out).below HB17.out).below HB18.out).below HB19.out) HVa.out (by omega) hc_x z  u HE_u.out).mono ?_
  rintro e w20 ⟨A_k1, c_k1, rfl, hc_k1, h_k1, hbx⟩
  have HB20 := Lib.hid hbx
  have HT20 := Lib.hid (HT19.out.trans (HB20.out.mono HT19.out.size))
  clear hbx
  have H_k1 := Lib.hid h_k1
  clear h_k1
  go_wp2_with fail
  refine (eshl_n w20 A ca xs a (Ha.out.below HT20.out) HVa.out (by omega) hac z  u HE_u.out).mono ?_
  rintro e w21 ⟨A_k2, c_k2, rfl, hc_k2, h_k2, hbx⟩
  have HB21 := Lib.hid hbx
  have HT21 := Lib.hid (HT20.out.trans (HB21.out.mono HT20.out.size))
  clear hbx
  have H_k2 := Lib.hid h_k2
  clear h_k2
  go_wp2_with fail
  refine (same_v w21 A_k1 A_k2 c_k1 c_k2 u u (H_k1.out.below HB21.out) H_k2.out rfl (Nat.le_trans HL_u.out (by omega))).mono ?_
  rintro e w22 ⟨rfl, hbx⟩
  have HB22 := Lib.hid hbx
  have HT22 := Lib.hid (HT21.out.trans (HB22.out.mono HT21.out.size))
  clear hbx
  go_wp2_with fail
  refine (shr_n w22 A_x c_x xs a (((((((((((((((((((((H_x.out.below HB2.out).below HB3.out).below HB4.out).below HB5.out).below HB6.out).below HB7.out).below HB8.out).below HB9.out).below HB10.out).below HB11.out).below HB12.out).below HB13.out).below HB14.out).below HB15.out).below HB16.out).below HB17.out).below HB18.out).below HB19.out).below HB20.out).below HB21.out).below HB22.out) HVa.out (by omega) hc_x z hzm v HE_v.out).mono ?_
  rintro e w23 ⟨A_k3, c_k3, rfl, hc_k3, h_k3, hbx⟩
  have HB23 := Lib.hid hbx
  have HT23 := Lib.hid (HT22.out.trans (HB23.out.mono HT22.out.size))
  clear hbx
  have H_k3 := Lib.hid h_k3
  clear h_k3
  go_wp2_with fail
  refine (eshr_n w23 A ca xs a (Ha.out.below HT23.out) HVa.out (by omega) hac z hzm v HE_v.out).mono ?_
  rintro e w24 ⟨A_k4, c_k4, rfl, hc_k4, h_k4, hbx⟩
  have HB24 := Lib.hid hbx
  have HT24 := Lib.hid (HT23.out.trans (HB24.out.mono HT23.out.size))
  clear hbx
  have H_k4 := Lib.hid h_k4
  clear h_k4
  go_wp2_with fail
  refine (same_v w24 A_k3 A_k4 c_k3 c_k4 v v (H_k3.out.below HB24.out) H_k4.out rfl (Nat.le_trans HL_v.out (by omega))).mono ?_
  rintro e w25 ⟨rfl, hbx⟩
  have HB25 := Lib.hid hbx
  have HT25 := Lib.hid (HT24.out.trans (HB25.out.mono HT24.out.size))
  clear hbx
  go_wp2_with fail
  refine (trim_n w25 A_x c_x xs a ((((((((((((((((((((((((H_x.out.below HB2.out).below HB3.out).below HB4.out).below HB5.out).below HB6.out).below HB7.out).below HB8.out).below HB9.out).below HB10.out).below HB11.out).below HB12.out).below HB13.out).below HB14.out).below HB15.out).below HB16.out).below HB17.out).below HB18.out).below HB19.out).below HB20.out).below HB21.out).below HB22.out).below HB23.out).below HB24.out).below HB25.out) HVa.out (by omega) hc_x a rfl).mono ?_
  rintro e w26 ⟨A_k5, c_k5, rfl, hc_k5, h_k5, hbx⟩
  have HB26 := Lib.hid hbx
  have HT26 := Lib.hid (HT25.out.trans (HB26.out.mono HT25.out.size))
  clear hbx
  have H_k5 := Lib.hid h_k5
  clear h_k5
  go_wp2_with fail
  refine (esmall_n w26 A ca xs a (Ha.out.below HT26.out) HVa.out (by omega) hac a rfl).mono ?_
  rintro e w27 ⟨A_k6, c_k6, rfl, hc_k6, h_k6, hbx⟩
  have HB27 := Lib.hid hbx
  have HT27 := Lib.hid (HT26.out.trans (HB27.out.mono HT26.out.size))
  clear hbx
  have H_k6 := Lib.hid h_k6
  clear h_k6
  go_wp2_with fail
  refine (elarge_n w27 A_k6 c_k6 a H_k6.out hc_k6 (Nat.le_trans HL_a.out (by omega))).mono ?_
  rintro e w28 ⟨A_k7, c_k7, rfl, hc_k7, h_k7, hbx⟩
  have HB28 := Lib.hid hbx
  have HT28 := Lib.hid (HT27.out.trans (HB28.out.mono HT27.out.size))
  clear hbx
  have H_k7 := Lib.hid h_k7
  clear h_k7
  go_wp2_with fail
  refine (same_v w28 A_k5 A_k7 c_k5 c_k7 a a ((H_k5.out.below HB27.out).below HB28.out) H_k7.out rfl (Nat.le_trans HL_a.out (by omega))).mono ?_
  rintro e w29 ⟨rfl, hbx⟩
  have HB29 := Lib.hid hbx
  have HT29 := Lib.hid (HT28.out.trans (HB29.out.mono HT28.out.size))
  clear hbx
  go_wp2_with fail
  refine (same_l w29 A_x A c_x ca xs ((((((((((((((((((((((((((((H_x.out.below HB2.out).below HB3.out).below HB4.out).below HB5.out).below HB6.out).below HB7.out).below HB8.out).below HB9.out).below HB10.out).below HB11.out).below HB12.out).below HB13.out).below HB14.out).below HB15.out).below HB16.out).below HB17.out).below HB18.out).below HB19.out).below HB20.out).below HB21.out).below HB22.out).below HB23.out).below HB24.out).below HB25.out).below HB26.out).below HB27.out).below HB28.out).below HB29.out) (Ha.out.below HT29.out) (by omega)).mono ?_
  rintro e w30 ⟨rfl, hbx⟩
  have HB30 := Lib.hid hbx
  have HT30 := Lib.hid (HT29.out.trans (HB30.out.mono HT29.out.size))
  clear hbx
  go_wp2_with fail
  refine (same_l w30 A_y B c_y cb ys ((((((((((((((((((((((((((((H_y.out.below HB3.out).below HB4.out).below HB5.out).below HB6.out).below HB7.out).below HB8.out).below HB9.out).below HB10.out).below HB11.out).below HB12.out).below HB13.out).below HB14.out).below HB15.out).below HB16.out).below HB17.out).below HB18.out).below HB19.out).below HB20.out).below HB21.out).below HB22.out).below HB23.out).below HB24.out).below HB25.out).below HB26.out).below HB27.out).below HB28.out).below HB29.out).below HB30.out) (Hb.out.below HT30.out) (by omega)).mono ?_
  rintro e w31 ⟨rfl, hbx⟩
  have HB31 := Lib.hid hbx
  have HT31 := Lib.hid (HT30.out.trans (HB31.out.mono HT30.out.size))
  clear hbx
  go_wp2_with fail
  refine (awake_any w31).mono ?_
  rintro e w32 ⟨rfl, hbx⟩
  have HB32 := Lib.hid hbx
  have HT32 := Lib.hid (HT31.out.trans (HB32.out.mono HT31.out.size))
  clear hbx
  go_wp2_with fail
  go_ret
  exact ⟨rfl, HT32.out⟩

set_option maxRecDepth 100000 in
set_option maxHeartbeats 16000000 in
theorem tells_far (w : World) (A B : Option Addr) (ca cb : Nat) (xs ys : List Nat) (a b : Nat) (ha : Num w A xs) (hb : Num w B ys) (hva : val xs = a) (hvb : val ys = b) (hac : xs.length ≤ ca) (hbc : ys.length ≤ cb) (z : Int) (hzm : z ≤ 9223372036854775807) (hAn : A = none → ca = 0) (hBn : B = none → cb = 0) (l1 : xs.length ≤ 24) (l2 : ys.length ≤ 24) (h6 : 1048576 < z) :
    Calls Try.prog 3 #[.slice A xs.length ca, .slice B ys.length cb, .int .i64 z] w (RetB w true) := by
  have g6 : (600 : Int) < z := by omega
  have d6 : decide ((600 : Int) < z) = true := decide_eq_true g6
  have g7 : ¬ z ≤ 1048576 := by omega
  have d7 : decide (z ≤ (1048576 : Int)) = false := decide_eq_false g7
  have hz : z ≤ 600 ∨ 1048576 < z := .inr h6
  have HVa := Lib.hid hva
  have HVb := Lib.hid hvb
  have HL_a : Hid ((dig a).length ≤ 24) := Nat.le_trans (dl_val ha.1 hva) l1
  have HL_b : Hid ((dig b).length ≤ 24) := Nat.le_trans (dl_val hb.1 hvb) l2
  have Ha := Lib.hid ha
  have Hb := Lib.hid hb
  have HT0 := Lib.hid (Below.refl w.heap.size w)
  clear ha hb hva hvb
  obtain ⟨q, he_q⟩ : ∃ v : Nat, dmq a b = v := ⟨_, rfl⟩
  have HL_q : Hid ((dig q).length ≤ 24) := by
    have h := And.intro (dl_dmq a b) (And.intro HL_a.out HL_b.out)
    rw [he_q] at h
    show _ ≤ _
    omega
  have HE_q := Lib.hid he_q
  clear he_q
  obtain ⟨r, he_r⟩ : ∃ v : Nat, dmr a b = v := ⟨_, rfl⟩
  have HL_r : Hid ((dig r).length ≤ 24) := by
    have h := And.intro (dl_dmr a b) (And.intro HL_a.out HL_b.out)
    rw [he_r] at h
    show _ ≤ _
    omega
  have HE_r := Lib.hid he_r
  clear he_r
  obtain ⟨s, he_s⟩ : ∃ v : Nat, a + b = v := ⟨_, rfl⟩
  have HL_s : Hid ((dig s).length ≤ 49) := by
    have h := And.intro (dl_add a b) (And.intro HL_a.out HL_b.out)
    rw [he_s] at h
    show _ ≤ _
    omega
  have HE_s := Lib.hid he_s
  clear he_s
  obtain ⟨t, he_t⟩ : ∃ v : Nat, a - b = v := ⟨_, rfl⟩
  have HL_t : Hid ((dig t).length ≤ 24) := by
    have h := And.intro (dl_le (Nat.sub_le a b)) (And.intro HL_a.out HL_b.out)
    rw [he_t] at h
    show _ ≤ _
    omega
  have HE_t := Lib.hid he_t
  clear he_t
  obtain ⟨m, he_m⟩ : ∃ v : Nat, a * b = v := ⟨_, rfl⟩
  have HL_m : Hid ((dig m).length ≤ 48) := by
    have h := And.intro (dl_mul a b) (And.intro HL_a.out HL_b.out)
    rw [he_m] at h
    show _ ≤ _
    omega
  have HE_m := Lib.hid he_m
  clear he_m
  obtain ⟨u, he_u⟩ : ∃ v : Nat, shlv a z = v := ⟨_, rfl⟩
  have HL_u : Hid ((dig u).length ≤ 34) := by
    have h := And.intro (dl_blen_shl a z hz) (And.intro HL_a.out HL_b.out)
    rw [he_u] at h
    show _ ≤ _
    omega
  have HE_u := Lib.hid he_u
  clear he_u
  obtain ⟨v, he_v⟩ : ∃ v : Nat, shrv a z = v := ⟨_, rfl⟩
  have HL_v : Hid ((dig v).length ≤ 24) := by
    have h := And.intro (dl_shr a z) (And.intro HL_a.out HL_b.out)
    rw [he_v] at h
    show _ ≤ _
    omega
  have HE_v := Lib.hid he_v
  clear he_v
  obtain ⟨kc, hkc⟩ : ∃ k, cmpv a b = k := ⟨_, rfl⟩
  have HKC := Lib.hid hkc
  obtain ⟨kb, hkb⟩ : ∃ k, blen a = k := ⟨_, rfl⟩
  have HKB := Lib.hid hkb
  have ekc : (kc == kc) = true := beq_self_eq_true kc
  have ekb : ((kb : Int) == (kb : Int)) = true := beq_self_eq_true (kb : Int)
  clear hkc hkb ekc ekb
  have n1 : ¬ (24 : Int) < (xs.length : Int) := by omega
  have n2 : ¬ (24 : Int) < (ys.length : Int) := by omega
  have HZ := Lib.hid hz
  clear hz
  go_enter Try.func3, Try.ntmps3
  go_wp2_with fail
  refine (copyw_any w A ca xs (Ha.out.below HT0.out) hAn (by omega)).mono ?_
  rintro e w1 ⟨A_x, c_x, rfl, hc_x, h_x, hbx⟩
  have HB1 := Lib.hid hbx
  have HT1 := Lib.hid (HT0.out.trans (HB1.out.mono HT0.out.size))
  clear hbx
  have H_x := Lib.hid h_x
  clear h_x
  go_wp2_with fail
  refine (copyw_any w1 B cb ys (Hb.out.below HT1.out) hBn (by omega)).mono ?_
  rintro e w2 ⟨A_y, c_y, rfl, hc_y, h_y, hbx⟩
  have HB2 := Lib.hid hbx
  have HT2 := Lib.hid (HT1.out.trans (HB2.out.mono HT1.out.size))
  clear hbx
  have H_y := Lib.hid h_y
  clear h_y
  go_wp2_with fail
  refine (dm_n w2 A_x A_y c_x c_y xs ys a b (H_x.out.below HB2.out) H_y.out HVa.out HVb.out (by omega) (by omega) hc_x hc_y q r HE_q.out HE_r.out).mono ?_
  rintro e w3 ⟨A_i1, c_i1, A_i2, c_i2, rfl, hc_i1, hc_i2, h_i1, h_i2, hbx⟩
  have HB3 := Lib.hid hbx
  have HT3 := Lib.hid (HT2.out.trans (HB3.out.mono HT2.out.size))
  clear hbx
  have H_i1 := Lib.hid h_i1
  clear h_i1
  have H_i2 := Lib.hid h_i2
  clear h_i2
  go_wp2_with fail
  refine (edm_n w3 A B ca cb xs ys a b (Ha.out.below HT3.out) (Hb.out.below HT3.out) HVa.out HVb.out (by omega) (by omega) hac hbc q r HE_q.out HE_r.out).mono ?_
  rintro e w4 ⟨A_i3, c_i3, A_i4, c_i4, rfl, hc_i3, hc_i4, h_i3, h_i4, hbx⟩
  have HB4 := Lib.hid hbx
  have HT4 := Lib.hid (HT3.out.trans (HB4.out.mono HT3.out.size))
  clear hbx
  have H_i3 := Lib.hid h_i3
  clear h_i3
  have H_i4 := Lib.hid h_i4
  clear h_i4
  go_wp2_with fail
  refine (same_v w4 A_i1 A_i3 c_i1 c_i3 q q (H_i1.out.below HB4.out) H_i3.out rfl (Nat.le_trans HL_q.out (by omega))).mono ?_
  rintro e w5 ⟨rfl, hbx⟩
  have HB5 := Lib.hid hbx
  have HT5 := Lib.hid (HT4.out.trans (HB5.out.mono HT4.out.size))
  clear hbx
  go_wp2_with fail
  refine (same_v w5 A_i2 A_i4 c_i2 c_i4 r r ((H_i2.out.below HB4.out).below HB5.out) (H_i4.out.below HB5.out) rfl (Nat.le_trans HL_r.out (by omega))).mono ?_
  rintro e w6 ⟨rfl, hbx⟩
  have HB6 := Lib.hid hbx
  have HT6 := Lib.hid (HT5.out.trans (HB6.out.mono HT5.out.size))
  clear hbx
  go_wp2_with fail
  refine (add_n w6 A_x A_y c_x c_y xs ys a b (((((H_x.out.below HB2.out).below HB3.out).below HB4.out).below HB5.out).below HB6.out) ((((H_y.out.below HB3.out).below HB4.out).below HB5.out).below HB6.out) HVa.out HVb.out (by omega) (by omega) hc_x hc_y s HE_s.out).mono ?_
  rintro e w7 ⟨A_j0, c_j0, rfl, hc_j0, h_j0, hbx⟩
  have HB7 := Lib.hid hbx
  have HT7 := Lib.hid (HT6.out.trans (HB7.out.mono HT6.out.size))
  clear hbx
  have H_j0 := Lib.hid h_j0
  clear h_j0
  go_wp2_with fail
  refine (eadd_n w7 A B ca cb xs ys a b (Ha.out.below HT7.out) (Hb.out.below HT7.out) HVa.out HVb.out (by omega) (by omega) hac hbc s HE_s.out).mono ?_
  rintro e w8 ⟨A_j1, c_j1, rfl, hc_j1, h_j1, hbx⟩
  have HB8 := Lib.hid hbx
  have HT8 := Lib.hid (HT7.out.trans (HB8.out.mono HT7.out.size))
  clear hbx
  have H_j1 := Lib.hid h_j1
  clear h_j1
  go_wp2_with fail
  refine (same_v w8 A_j0 A_j1 c_j0 c_j1 s s (H_j0.out.below HB8.out) H_j1.out rfl (Nat.le_trans HL_s.out (by omega))).mono ?_
  rintro e w9 ⟨rfl, hbx⟩
  have HB9 := Lib.hid hbx
  have HT9 := Lib.hid (HT8.out.trans (HB9.out.mono HT8.out.size))
  clear hbx
  go_wp2_with fail
  refine (sub_n w9 A_x A_y c_x c_y xs ys a b ((((((((H_x.out.below HB2.out).below HB3.out).below HB4.out).below HB5.out).below HB6.out).below HB7.out).below HB8.out).below HB9.out) (((((((H_y.out.below HB3.out).below HB4.out).below HB5.out).below HB6.out).below HB7.out).below HB8.out).below HB9.out) HVa.out HVb.out (by omega) (by omega) hc_x hc_y t HE_t.out).mono ?_
  rintro e w10 ⟨A_j2, c_j2, rfl, hc_j2, h_j2, hbx⟩
  have HB10 := Lib.hid hbx
  have HT10 := Lib.hid (HT9.out.trans (HB10.out.mono HT9.out.size))
  clear hbx
  have H_j2 := Lib.hid h_j2
  clear h_j2
  go_wp2_with fail
  refine (esub_n w10 A B ca cb xs ys a b (Ha.out.below HT10.out) (Hb.out.below HT10.out) HVa.out HVb.out (by omega) (by omega) hac hbc t HE_t.out).mono ?_
  rintro e w11 ⟨A_j3, c_j3, rfl, hc_j3, h_j3, hbx⟩
  have HB11 := Lib.hid hbx
  have HT11 := Lib.hid (HT10.out.trans (HB11.out.mono HT10.out.size))
  clear hbx
  have H_j3 := Lib.hid h_j3
  clear h_j3
  go_wp2_with fail
  refine (same_v w11 A_j2 A_j3 c_j2 c_j3 t t (H_j2.out.below HB11.out) H_j3.out rfl (Nat.le_trans HL_t.out (by omega))).mono ?_
  rintro e w12 ⟨rfl, hbx⟩
  have HB12 := Lib.hid hbx
  have HT12 := Lib.hid (HT11.out.trans (HB12.out.mono HT11.out.size))
  clear hbx
  go_wp2_with fail
  refine (mul_n w12 A_x A_y c_x c_y xs ys a b (((((((((((H_x.out.below HB2.out).below HB3.out).below HB4.out).below HB5.out).below HB6.out).below HB7.out).below HB8.out).below HB9.out).below HB10.out).below HB11.out).below HB12.out) ((((((((((H_y.out.below HB3.out).below HB4.out).below HB5.out).below HB6.out).below HB7.out).below HB8.out).below HB9.out).below HB10.out).below HB11.out).below HB12.out) HVa.out HVb.out (by omega) (by omega) hc_x hc_y m HE_m.out).mono ?_
  rintro e w13 ⟨A_j4, c_j4, rfl, hc_j4, h_j4, hbx⟩
  have HB13 := Lib.hid hbx
  have HT13 := Lib.hid (HT12.out.trans (HB13.out.mono HT12.out.size))
  clear hbx
  have H_j4 := Lib.hid h_j4
  clear h_j4
  go_wp2_with fail
  refine (emul_n w13 A B ca cb xs ys a b (Ha.out.below HT13.out) (Hb.out.below HT13.out) HVa.out HVb.out (by omega) (by omega) hac hbc m HE_m.out).mono ?_
  rintro e w14 ⟨A_j5, c_j5, rfl, hc_j5, h_j5, hbx⟩
  have HB14 := Lib.hid hbx
  have HT14 := Lib.hid (HT13.out.trans (HB14.out.mono HT13.out.size))
  clear hbx
  have H_j5 := Lib.hid h_j5
  clear h_j5
  go_wp2_with fail
  refine (same_v w14 A_j4 A_j5 c_j4 c_j5 m m (H_j4.out.below HB14.out) H_j5.out rfl (Nat.le_trans HL_m.out (by omega))).mono ?_
  rintro e w15 ⟨rfl, hbx⟩
  have HB15 := Lib.hid hbx
  have HT15 := Lib.hid (HT14.out.trans (HB15.out.mono HT14.out.size))
  clear hbx
  go_wp2_with fail
  refine (cmp_n w15 A_x A_y c_x c_y xs ys a b ((((((((((((((H_x.out.below HB2.out).below HB3.out).below HB4.out).below HB5.out).below HB6.out).below HB7.out).below HB8.out).below HB9.out).below HB10.out).below HB11.out).below HB12.out).below HB13.out).below HB14.out).below HB15.out) (((((((((((((H_y.out.below HB3.out).below HB4.out).below HB5.out).below HB6.out).below HB7.out).below HB8.out).below HB9.out).below HB10.out).below HB11.out).below HB12.out).below HB13.out).below HB14.out).below HB15.out) HVa.out HVb.out (by omega) (by omega) hc_x hc_y kc HKC.out).mono ?_
  rintro e w16 ⟨rfl, hbx⟩
  have HB16 := Lib.hid hbx
  have HT16 := Lib.hid (HT15.out.trans (HB16.out.mono HT15.out.size))
  clear hbx
  go_wp2_with fail
  refine (ecmp_n w16 A B ca cb xs ys a b (Ha.out.below HT16.out) (Hb.out.below HT16.out) HVa.out HVb.out (by omega) (by omega) hac hbc kc HKC.out).mono ?_
  rintro e w17 ⟨rfl, hbx⟩
  have HB17 := Lib.hid hbx
  have HT17 := Lib.hid (HT16.out.trans (HB17.out.mono HT16.out.size))
  clear hbx
  go_wp2_with fail
  refine (bits_n w17 A_x c_x xs a ((((((((((((((((H_x.out.below HB2.out).below HB3.out).below HB4.out).below HB5.out).below HB6.out).below HB7.out).below HB8.out).below HB9.out).below HB10.out).below HB11.out).below HB12.out).below HB13.out).below HB14.out).below HB15.out).below HB16.out).below HB17.out) HVa.out (by omega) hc_x kb HKB.out).mono ?_
  rintro e w18 ⟨rfl, hbx⟩
  have HB18 := Lib.hid hbx
  have HT18 := Lib.hid (HT17.out.trans (HB18.out.mono HT17.out.size))
  clear hbx
  go_wp2_with fail
  refine (ebits_n w18 A ca xs a (Ha.out.below HT18.out) HVa.out (by omega) hac kb HKB.out).mono ?_
  rintro e w19 ⟨rfl, hbx⟩
  have HB19 := Lib.hid hbx
  have HT19 := Lib.hid (HT18.out.trans (HB19.out.mono HT18.out.size))
  clear hbx
  go_wp2_with fail
  refine (shl_n w19 A_x c_x xs a ((((((((((((((((((H_x.out.below HB2.out).below HB3.out).below HB4.out).below HB5.out).below HB6.out).below HB7.out).below HB8.out).below HB9.out).below HB10.out).below HB11.out).below HB12.out).below HB13.out).below HB14.out).below HB15.out).below HB16.out).below HB17.out).below HB18.out).below HB19.out) HVa.out (by omega) hc_x z  u HE_u.out).mono ?_
  rintro e w20 ⟨A_k1, c_k1, rfl, hc_k1, h_k1, hbx⟩
  have HB20 := Lib.hid hbx
  have HT20 := Lib.hid (HT19.out.trans (HB20.out.mono HT19.out.size))
  clear hbx
  have H_k1 := Lib.hid h_k1
  clear h_k1
  go_wp2_with fail
  refine (eshl_n w20 A ca xs a (Ha.out.below HT20.out) HVa.out (by omega) hac z  u HE_u.out).mono ?_
  rintro e w21 ⟨A_k2, c_k2, rfl, hc_k2, h_k2, hbx⟩
  have HB21 := Lib.hid hbx
  have HT21 := Lib.hid (HT20.out.trans (HB21.out.mono HT20.out.size))
  clear hbx
  have H_k2 := Lib.hid h_k2
  clear h_k2
  go_wp2_with fail
  refine (same_v w21 A_k1 A_k2 c_k1 c_k2 u u (H_k1.out.below HB21.out) H_k2.out rfl (Nat.le_trans HL_u.out (by omega))).mono ?_
  rintro e w22 ⟨rfl, hbx⟩
  have HB22 := Lib.hid hbx
  have HT22 := Lib.hid (HT21.out.trans (HB22.out.mono HT21.out.size))
  clear hbx
  go_wp2_with fail
  refine (shr_n w22 A_x c_x xs a (((((((((((((((((((((H_x.out.below HB2.out).below HB3.out).below HB4.out).below HB5.out).below HB6.out).below HB7.out).below HB8.out).below HB9.out).below HB10.out).below HB11.out).below HB12.out).below HB13.out).below HB14.out).below HB15.out).below HB16.out).below HB17.out).below HB18.out).below HB19.out).below HB20.out).below HB21.out).below HB22.out) HVa.out (by omega) hc_x z hzm v HE_v.out).mono ?_
  rintro e w23 ⟨A_k3, c_k3, rfl, hc_k3, h_k3, hbx⟩
  have HB23 := Lib.hid hbx
  have HT23 := Lib.hid (HT22.out.trans (HB23.out.mono HT22.out.size))
  clear hbx
  have H_k3 := Lib.hid h_k3
  clear h_k3
  go_wp2_with fail
  refine (eshr_n w23 A ca xs a (Ha.out.below HT23.out) HVa.out (by omega) hac z hzm v HE_v.out).mono ?_
  rintro e w24 ⟨A_k4, c_k4, rfl, hc_k4, h_k4, hbx⟩
  have HB24 := Lib.hid hbx
  have HT24 := Lib.hid (HT23.out.trans (HB24.out.mono HT23.out.size))
  clear hbx
  have H_k4 := Lib.hid h_k4
  clear h_k4
  go_wp2_with fail
  refine (same_v w24 A_k3 A_k4 c_k3 c_k4 v v (H_k3.out.below HB24.out) H_k4.out rfl (Nat.le_trans HL_v.out (by omega))).mono ?_
  rintro e w25 ⟨rfl, hbx⟩
  have HB25 := Lib.hid hbx
  have HT25 := Lib.hid (HT24.out.trans (HB25.out.mono HT24.out.size))
  clear hbx
  go_wp2_with fail
  refine (trim_n w25 A_x c_x xs a ((((((((((((((((((((((((H_x.out.below HB2.out).below HB3.out).below HB4.out).below HB5.out).below HB6.out).below HB7.out).below HB8.out).below HB9.out).below HB10.out).below HB11.out).below HB12.out).below HB13.out).below HB14.out).below HB15.out).below HB16.out).below HB17.out).below HB18.out).below HB19.out).below HB20.out).below HB21.out).below HB22.out).below HB23.out).below HB24.out).below HB25.out) HVa.out (by omega) hc_x a rfl).mono ?_
  rintro e w26 ⟨A_k5, c_k5, rfl, hc_k5, h_k5, hbx⟩
  have HB26 := Lib.hid hbx
  have HT26 := Lib.hid (HT25.out.trans (HB26.out.mono HT25.out.size))
  clear hbx
  have H_k5 := Lib.hid h_k5
  clear h_k5
  go_wp2_with fail
  refine (esmall_n w26 A ca xs a (Ha.out.below HT26.out) HVa.out (by omega) hac a rfl).mono ?_
  rintro e w27 ⟨A_k6, c_k6, rfl, hc_k6, h_k6, hbx⟩
  have HB27 := Lib.hid hbx
  have HT27 := Lib.hid (HT26.out.trans (HB27.out.mono HT26.out.size))
  clear hbx
  have H_k6 := Lib.hid h_k6
  clear h_k6
  go_wp2_with fail
  refine (elarge_n w27 A_k6 c_k6 a H_k6.out hc_k6 (Nat.le_trans HL_a.out (by omega))).mono ?_
  rintro e w28 ⟨A_k7, c_k7, rfl, hc_k7, h_k7, hbx⟩
  have HB28 := Lib.hid hbx
  have HT28 := Lib.hid (HT27.out.trans (HB28.out.mono HT27.out.size))
  clear hbx
  have H_k7 := Lib.hid h_k7
  clear h_k7
  go_wp2_with fail
  refine (same_v w28 A_k5 A_k7 c_k5 c_k7 a a ((H_k5.out.below HB27.out).below HB28.out) H_k7.out rfl (Nat.le_trans HL_a.out (by omega))).mono ?_
  rintro e w29 ⟨rfl, hbx⟩
  have HB29 := Lib.hid hbx
  have HT29 := Lib.hid (HT28.out.trans (HB29.out.mono HT28.out.size))
  clear hbx
  go_wp2_with fail
  refine (same_l w29 A_x A c_x ca xs ((((((((((((((((((((((((((((H_x.out.below HB2.out).below HB3.out).below HB4.out).below HB5.out).below HB6.out).below HB7.out).below HB8.out).below HB9.out).below HB10.out).below HB11.out).below HB12.out).below HB13.out).below HB14.out).below HB15.out).below HB16.out).below HB17.out).below HB18.out).below HB19.out).below HB20.out).below HB21.out).below HB22.out).below HB23.out).below HB24.out).below HB25.out).below HB26.out).below HB27.out).below HB28.out).below HB29.out) (Ha.out.below HT29.out) (by omega)).mono ?_
  rintro e w30 ⟨rfl, hbx⟩
  have HB30 := Lib.hid hbx
  have HT30 := Lib.hid (HT29.out.trans (HB30.out.mono HT29.out.size))
  clear hbx
  go_wp2_with fail
  refine (same_l w30 A_y B c_y cb ys ((((((((((((((((((((((((((((H_y.out.below HB3.out).below HB4.out).below HB5.out).below HB6.out).below HB7.out).below HB8.out).below HB9.out).below HB10.out).below HB11.out).below HB12.out).below HB13.out).below HB14.out).below HB15.out).below HB16.out).below HB17.out).below HB18.out).below HB19.out).below HB20.out).below HB21.out).below HB22.out).below HB23.out).below HB24.out).below HB25.out).below HB26.out).below HB27.out).below HB28.out).below HB29.out).below HB30.out) (Hb.out.below HT30.out) (by omega)).mono ?_
  rintro e w31 ⟨rfl, hbx⟩
  have HB31 := Lib.hid hbx
  have HT31 := Lib.hid (HT30.out.trans (HB31.out.mono HT30.out.size))
  clear hbx
  go_wp2_with fail
  refine (awake_any w31).mono ?_
  rintro e w32 ⟨rfl, hbx⟩
  have HB32 := Lib.hid hbx
  have HT32 := Lib.hid (HT31.out.trans (HB32.out.mono HT31.out.size))
  clear hbx
  go_wp2_with fail
  go_ret
  exact ⟨rfl, HT32.out⟩

set_option maxHeartbeats 4000000 in
theorem tells_walk (w : World) (A B : Option Addr) (ca cb : Nat) (xs ys : List Nat) (z : Int) (hzm : z ≤ 9223372036854775807) (ha : Num w A xs) (hb : Num w B ys) (hac : xs.length ≤ ca) (hbc : ys.length ≤ cb) (hAn : A = none → ca = 0) (hBn : B = none → cb = 0) :
    Calls Try.prog 3 #[.slice A xs.length ca, .slice B ys.length cb, .int .i64 z] w (RetB w true) := by
  by_cases l1 : xs.length ≤ 24
  · have g1 : ¬ (24 : Int) < (xs.length : Int) := by omega
    by_cases l2 : ys.length ≤ 24
    · have g2 : ¬ (24 : Int) < (ys.length : Int) := by omega
      by_cases h6 : z ≤ 600
      · exact tells_few w A B ca cb xs ys _ _ ha hb rfl rfl hac hbc z hzm hAn hBn l1 l2 h6
      · by_cases h7 : 1048576 < z
        · exact tells_far w A B ca cb xs ys _ _ ha hb rfl rfl hac hbc z hzm hAn hBn l1 l2 h7
        · have g6 : (600 : Int) < z := by omega
          have d6 : decide ((600 : Int) < z) = true := decide_eq_true g6
          have g7 : z ≤ 1048576 := by omega
          have d7 : decide (z ≤ (1048576 : Int)) = true := decide_eq_true g7
          have e1 : decide ((24 : Int) < (xs.length : Int)) = false := decide_eq_false g1
          have e2 : decide ((24 : Int) < (ys.length : Int)) = false := decide_eq_false g2
          clear ha hb l1 l2 h6 h7 hAn hBn
          go_enter Try.func3, Try.ntmps3
          go_wp2_with fail
          refine (awake_any w).mono ?_
          rintro e w1 ⟨rfl, hb⟩
          go_wp2_with fail
          go_ret
          exact ⟨rfl, hb⟩
    · have g2 : (24 : Int) < (ys.length : Int) := by omega
      have e1 : decide ((24 : Int) < (xs.length : Int)) = false := decide_eq_false g1
      have e2 : decide ((24 : Int) < (ys.length : Int)) = true := decide_eq_true g2
      clear ha hb l1 l2 hAn hBn
      go_enter Try.func3, Try.ntmps3
      go_wp2_with fail
      refine (awake_any w).mono ?_
      rintro e w1 ⟨rfl, hb⟩
      go_wp2_with fail
      go_ret
      exact ⟨rfl, hb⟩
  · have g1 : (24 : Int) < (xs.length : Int) := by omega
    have e1 : decide ((24 : Int) < (xs.length : Int)) = true := decide_eq_true g1
    clear ha hb l1 hAn hBn
    go_enter Try.func3, Try.ntmps3
    go_wp2_with fail
    refine (awake_any w).mono ?_
    rintro e w1 ⟨rfl, hb⟩
    go_wp2_with fail
    go_ret
    exact ⟨rfl, hb⟩
end Go.Proofs.Ytginajegbknfhaa
