/- LimbsRings: its walk, a part. -/
import Derived.Test.YtmkmlcpffplnnaaRingsW
namespace Go.Proofs.Ytmkmlcpffplnnaa
open Go.RowKit

set_option maxRecDepth 100000 in
set_option maxHeartbeats 16000000 in
theorem rings_zero (w : World) (A B C : Option Addr) (ca cb cc : Nat) (xs ys zs : List Nat) (ha : Num w A xs) (hb : Num w B ys) (hc : Num w C zs) (hac : xs.length ≤ ca) (hbc : ys.length ≤ cb) (hcc : zs.length ≤ cc)
    (l1 : xs.length ≤ 60) (l2 : ys.length ≤ 60) (l3 : zs.length ≤ 60) (hyp : val ys = 0) :
    Calls Try.prog 6 #[.slice A xs.length ca, .slice B ys.length cb, .slice C zs.length cc] w (RetB w true) := by
  obtain ⟨a, hva⟩ : ∃ a, val xs = a := ⟨_, rfl⟩
  obtain ⟨b, hvb⟩ : ∃ b, val ys = b := ⟨_, rfl⟩
  obtain ⟨c, hvc⟩ : ∃ c, val zs = c := ⟨_, rfl⟩
  have hb0 : b = 0 := by rw [← hvb]; exact hyp
  clear hyp
  have la := Nat.le_trans (dl_val ha.1 hva) l1
  have lb := Nat.le_trans (dl_val hb.1 hvb) l2
  have lc := Nat.le_trans (dl_val hc.1 hvc) l3
  have Ha := Lib.hid ha
  have Hb := Lib.hid hb
  have Hc := Lib.hid hc
  have HVa := Lib.hid hva
  have HVb := Lib.hid hvb
  have HVc := Lib.hid hvc
  clear ha hb hc hva hvb hvc
  have g1 : ¬ (60 : Int) < (xs.length : Int) := by omega
  have g2 : ¬ (60 : Int) < (ys.length : Int) := by omega
  have g3 : ¬ (60 : Int) < (zs.length : Int) := by omega
  have HB0 := Lib.hid hb0
  have hz : (((dig b).length : Int) == 0) = true := by rw [hb0, dig_zero]; rfl
  have hzq : (((dig (dmq a b)).length : Int) == 0) = true := by rw [hb0]; unfold dmq; rw [Nat.div_zero, dig_zero]; rfl
  have hzr : (((dig (dmr a b)).length : Int) == 0) = true := by rw [hb0]; unfold dmr; rw [if_pos rfl, dig_zero]; rfl
  clear hb0
  go_enter Try.func6, Try.ntmps6
  go_wp2_with fail
  refine (add_v w A B ca cb xs ys a b Ha.out Hb.out HVa.out HVb.out (by omega) (by omega) hac hbc).mono ?_
  rintro e w1 ⟨A_p1, c_p1, rfl, hc_p1, h_p1, hb⟩
  have H_p1 := Lib.hid h_p1
  have HL_p1 : Hid ((dig (a + b)).length ≤ 121) := by
    have hl := And.intro (dl_add a b) (And.intro la lb)
    show _ ≤ _
    omega
  clear h_p1
  have HB1 := Lib.hid hb
  have HT1 := Lib.hid hb
  clear hb
  go_wp2_with fail
  refine (add_v w1 B A cb ca ys xs b a (Hb.out.below HB1.out) (Ha.out.below HB1.out) HVb.out HVa.out (by omega) (by omega) hbc hac).mono ?_
  rintro e w2 ⟨A_p2, c_p2, rfl, hc_p2, h_p2, hb⟩
  have H_p2 := Lib.hid h_p2
  have HL_p2 : Hid ((dig (b + a)).length ≤ 121) := by
    have hl := And.intro (dl_add b a) (And.intro lb la)
    show _ ≤ _
    omega
  clear h_p2
  have HB2 := Lib.hid hb
  have HT2 := Lib.hid (HT1.out.trans (HB2.out.mono HT1.out.size))
  clear hb
  go_wp2_with fail
  refine (same_v w2 A_p1 A_p2 c_p1 c_p2 (a + b) (b + a) (H_p1.out.below HB2.out) H_p2.out (Nat.add_comm _ _) (Nat.le_trans HL_p1.out (by omega))).mono ?_
  rintro e w3 ⟨rfl, hb⟩
  have HB3 := Lib.hid hb
  have HT3 := Lib.hid (HT2.out.trans (HB3.out.mono HT2.out.size))
  clear hb
  go_wp2_with fail
  refine (add_v w3 A B ca cb xs ys a b (((Ha.out.below HB1.out).below HB2.out).below HB3.out) (((Hb.out.below HB1.out).below HB2.out).below HB3.out) HVa.out HVb.out (by omega) (by omega) hac hbc).mono ?_
  rintro e w4 ⟨A_p3, c_p3, rfl, hc_p3, h_p3, hb⟩
  have H_p3 := Lib.hid h_p3
  have HL_p3 : Hid ((dig (a + b)).length ≤ 121) := by
    have hl := And.intro (dl_add a b) (And.intro la lb)
    show _ ≤ _
    omega
  clear h_p3
  have HB4 := Lib.hid hb
  have HT4 := Lib.hid (HT3.out.trans (HB4.out.mono HT3.out.size))
  clear hb
  go_wp2_with fail
  refine (add_v w4 A_p3 C c_p3 cc (dig (a + b)) zs (a + b) c H_p3.out ((((Hc.out.below HB1.out).below HB2.out).below HB3.out).below HB4.out) (val_dig _) HVc.out (Nat.le_trans HL_p3.out (by omega)) (by omega) hc_p3 hcc).mono ?_
  rintro e w5 ⟨A_p4, c_p4, rfl, hc_p4, h_p4, hb⟩
  have H_p4 := Lib.hid h_p4
  have HL_p4 : Hid ((dig ((a + b) + c)).length ≤ 182) := by
    have hl := And.intro (dl_add (a + b) c) (And.intro (HL_p3.out) lc)
    show _ ≤ _
    omega
  clear h_p4
  have HB5 := Lib.hid hb
  have HT5 := Lib.hid (HT4.out.trans (HB5.out.mono HT4.out.size))
  clear hb
  go_wp2_with fail
  refine (add_v w5 B C cb cc ys zs b c (((((Hb.out.below HB1.out).below HB2.out).below HB3.out).below HB4.out).below HB5.out) (((((Hc.out.below HB1.out).below HB2.out).below HB3.out).below HB4.out).below HB5.out) HVb.out HVc.out (by omega) (by omega) hbc hcc).mono ?_
  rintro e w6 ⟨A_p5, c_p5, rfl, hc_p5, h_p5, hb⟩
  have H_p5 := Lib.hid h_p5
  have HL_p5 : Hid ((dig (b + c)).length ≤ 121) := by
    have hl := And.intro (dl_add b c) (And.intro lb lc)
    show _ ≤ _
    omega
  clear h_p5
  have HB6 := Lib.hid hb
  have HT6 := Lib.hid (HT5.out.trans (HB6.out.mono HT5.out.size))
  clear hb
  go_wp2_with fail
  refine (add_v w6 A A_p5 ca c_p5 xs (dig (b + c)) a (b + c) ((((((Ha.out.below HB1.out).below HB2.out).below HB3.out).below HB4.out).below HB5.out).below HB6.out) H_p5.out HVa.out (val_dig _) (by omega) (Nat.le_trans HL_p5.out (by omega)) hac hc_p5).mono ?_
  rintro e w7 ⟨A_p6, c_p6, rfl, hc_p6, h_p6, hb⟩
  have H_p6 := Lib.hid h_p6
  have HL_p6 : Hid ((dig (a + (b + c))).length ≤ 182) := by
    have hl := And.intro (dl_add a (b + c)) (And.intro la (HL_p5.out))
    show _ ≤ _
    omega
  clear h_p6
  have HB7 := Lib.hid hb
  have HT7 := Lib.hid (HT6.out.trans (HB7.out.mono HT6.out.size))
  clear hb
  go_wp2_with fail
  refine (same_v w7 A_p4 A_p6 c_p4 c_p6 ((a + b) + c) (a + (b + c)) ((H_p4.out.below HB6.out).below HB7.out) H_p6.out (Nat.add_assoc _ _ _) (Nat.le_trans HL_p4.out (by omega))).mono ?_
  rintro e w8 ⟨rfl, hb⟩
  have HB8 := Lib.hid hb
  have HT8 := Lib.hid (HT7.out.trans (HB8.out.mono HT7.out.size))
  clear hb
  go_wp2_with fail
  refine (add_v w8 A B ca cb xs ys a b ((((((((Ha.out.below HB1.out).below HB2.out).below HB3.out).below HB4.out).below HB5.out).below HB6.out).below HB7.out).below HB8.out) ((((((((Hb.out.below HB1.out).below HB2.out).below HB3.out).below HB4.out).below HB5.out).below HB6.out).below HB7.out).below HB8.out) HVa.out HVb.out (by omega) (by omega) hac hbc).mono ?_
  rintro e w9 ⟨A_p7, c_p7, rfl, hc_p7, h_p7, hb⟩
  have H_p7 := Lib.hid h_p7
  have HL_p7 : Hid ((dig (a + b)).length ≤ 121) := by
    have hl := And.intro (dl_add a b) (And.intro la lb)
    show _ ≤ _
    omega
  clear h_p7
  have HB9 := Lib.hid hb
  have HT9 := Lib.hid (HT8.out.trans (HB9.out.mono HT8.out.size))
  clear hb
  go_wp2_with fail
  refine (sub_r w9 A_p7 B c_p7 cb (dig (a + b)) ys (a + b) b H_p7.out (((((((((Hb.out.below HB1.out).below HB2.out).below HB3.out).below HB4.out).below HB5.out).below HB6.out).below HB7.out).below HB8.out).below HB9.out) (val_dig _) HVb.out (Nat.le_trans HL_p7.out (by omega)) (by omega) hc_p7 hbc a (Nat.add_sub_cancel _ _)).mono ?_
  rintro e w10 ⟨A_p8, c_p8, rfl, hc_p8, h_p8, hb⟩
  have H_p8 := Lib.hid h_p8
  have HL_p8 : Hid ((dig (a)).length ≤ 60) := by
    have hl := And.intro la la
    show _ ≤ _
    omega
  clear h_p8
  have HB10 := Lib.hid hb
  have HT10 := Lib.hid (HT9.out.trans (HB10.out.mono HT9.out.size))
  clear hb
  go_wp2_with fail
  refine (trim_v w10 A ca xs a ((((((((((Ha.out.below HB1.out).below HB2.out).below HB3.out).below HB4.out).below HB5.out).below HB6.out).below HB7.out).below HB8.out).below HB9.out).below HB10.out) HVa.out (by omega) hac).mono ?_
  rintro e w11 ⟨A_p9, c_p9, rfl, hc_p9, h_p9, hb⟩
  have H_p9 := Lib.hid h_p9
  have HL_p9 : Hid ((dig (a)).length ≤ 1000) := by
    have hl := And.intro la la
    show _ ≤ _
    omega
  clear h_p9
  have HB11 := Lib.hid hb
  have HT11 := Lib.hid (HT10.out.trans (HB11.out.mono HT10.out.size))
  clear hb
  go_wp2_with fail
  refine (same_v w11 A_p8 A_p9 c_p8 c_p9 (a) (a) (H_p8.out.below HB11.out) H_p9.out rfl (Nat.le_trans HL_p8.out (by omega))).mono ?_
  rintro e w12 ⟨rfl, hb⟩
  have HB12 := Lib.hid hb
  have HT12 := Lib.hid (HT11.out.trans (HB12.out.mono HT11.out.size))
  clear hb
  go_wp2_with fail
  refine (mul_v w12 A B ca cb xs ys a b ((((((((((((Ha.out.below HB1.out).below HB2.out).below HB3.out).below HB4.out).below HB5.out).below HB6.out).below HB7.out).below HB8.out).below HB9.out).below HB10.out).below HB11.out).below HB12.out) ((((((((((((Hb.out.below HB1.out).below HB2.out).below HB3.out).below HB4.out).below HB5.out).below HB6.out).below HB7.out).below HB8.out).below HB9.out).below HB10.out).below HB11.out).below HB12.out) HVa.out HVb.out (by omega) (by omega) hac hbc).mono ?_
  rintro e w13 ⟨A_q1, c_q1, rfl, hc_q1, h_q1, hb⟩
  have H_q1 := Lib.hid h_q1
  have HL_q1 : Hid ((dig (a * b)).length ≤ 120) := by
    have hl := And.intro (dl_mul a b) (And.intro la lb)
    show _ ≤ _
    omega
  clear h_q1
  have HB13 := Lib.hid hb
  have HT13 := Lib.hid (HT12.out.trans (HB13.out.mono HT12.out.size))
  clear hb
  go_wp2_with fail
  refine (mul_v w13 B A cb ca ys xs b a (((((((((((((Hb.out.below HB1.out).below HB2.out).below HB3.out).below HB4.out).below HB5.out).below HB6.out).below HB7.out).below HB8.out).below HB9.out).below HB10.out).below HB11.out).below HB12.out).below HB13.out) (((((((((((((Ha.out.below HB1.out).below HB2.out).below HB3.out).below HB4.out).below HB5.out).below HB6.out).below HB7.out).below HB8.out).below HB9.out).below HB10.out).below HB11.out).below HB12.out).below HB13.out) HVb.out HVa.out (by omega) (by omega) hbc hac).mono ?_
  rintro e w14 ⟨A_q2, c_q2, rfl, hc_q2, h_q2, hb⟩
  have H_q2 := Lib.hid h_q2
  have HL_q2 : Hid ((dig (b * a)).length ≤ 120) := by
    have hl := And.intro (dl_mul b a) (And.intro lb la)
    show _ ≤ _
    omega
  clear h_q2
  have HB14 := Lib.hid hb
  have HT14 := Lib.hid (HT13.out.trans (HB14.out.mono HT13.out.size))
  clear hb
  go_wp2_with fail
  refine (same_v w14 A_q1 A_q2 c_q1 c_q2 (a * b) (b * a) (H_q1.out.below HB14.out) H_q2.out (Nat.mul_comm _ _) (Nat.le_trans HL_q1.out (by omega))).mono ?_
  rintro e w15 ⟨rfl, hb⟩
  have HB15 := Lib.hid hb
  have HT15 := Lib.hid (HT14.out.trans (HB15.out.mono HT14.out.size))
  clear hb
  go_wp2_with fail
  refine (mul_v w15 A B ca cb xs ys a b (((((((((((((((Ha.out.below HB1.out).below HB2.out).below HB3.out).below HB4.out).below HB5.out).below HB6.out).below HB7.out).below HB8.out).below HB9.out).below HB10.out).below HB11.out).below HB12.out).below HB13.out).below HB14.out).below HB15.out) (((((((((((((((Hb.out.below HB1.out).below HB2.out).below HB3.out).below HB4.out).below HB5.out).below HB6.out).below HB7.out).below HB8.out).below HB9.out).below HB10.out).below HB11.out).below HB12.out).below HB13.out).below HB14.out).below HB15.out) HVa.out HVb.out (by omega) (by omega) hac hbc).mono ?_
  rintro e w16 ⟨A_q3, c_q3, rfl, hc_q3, h_q3, hb⟩
  have H_q3 := Lib.hid h_q3
  have HL_q3 : Hid ((dig (a * b)).length ≤ 120) := by
    have hl := And.intro (dl_mul a b) (And.intro la lb)
    show _ ≤ _
    omega
  clear h_q3
  have HB16 := Lib.hid hb
  have HT16 := Lib.hid (HT15.out.trans (HB16.out.mono HT15.out.size))
  clear hb
  go_wp2_with fail
  refine (mul_v w16 A_q3 C c_q3 cc (dig (a * b)) zs (a * b) c H_q3.out ((((((((((((((((Hc.out.below HB1.out).below HB2.out).below HB3.out).below HB4.out).below HB5.out).below HB6.out).below HB7.out).below HB8.out).below HB9.out).below HB10.out).below HB11.out).below HB12.out).below HB13.out).below HB14.out).below HB15.out).below HB16.out) (val_dig _) HVc.out (Nat.le_trans HL_q3.out (by omega)) (by omega) hc_q3 hcc).mono ?_
  rintro e w17 ⟨A_q4, c_q4, rfl, hc_q4, h_q4, hb⟩
  have H_q4 := Lib.hid h_q4
  have HL_q4 : Hid ((dig ((a * b) * c)).length ≤ 180) := by
    have hl := And.intro (dl_mul (a * b) c) (And.intro (HL_q3.out) lc)
    show _ ≤ _
    omega
  clear h_q4
  have HB17 := Lib.hid hb
  have HT17 := Lib.hid (HT16.out.trans (HB17.out.mono HT16.out.size))
  clear hb
  go_wp2_with fail
  refine (mul_v w17 B C cb cc ys zs b c (((((((((((((((((Hb.out.below HB1.out).below HB2.out).below HB3.out).below HB4.out).below HB5.out).below HB6.out).below HB7.out).below HB8.out).below HB9.out).below HB10.out).below HB11.out).below HB12.out).below HB13.out).below HB14.out).below HB15.out).below HB16.out).below HB17.out) (((((((((((((((((Hc.out.below HB1.out).below HB2.out).below HB3.out).below HB4.out).below HB5.out).below HB6.out).below HB7.out).below HB8.out).below HB9.out).below HB10.out).below HB11.out).below HB12.out).below HB13.out).below HB14.out).below HB15.out).below HB16.out).below HB17.out) HVb.out HVc.out (by omega) (by omega) hbc hcc).mono ?_
  rintro e w18 ⟨A_q5, c_q5, rfl, hc_q5, h_q5, hb⟩
  have H_q5 := Lib.hid h_q5
  have HL_q5 : Hid ((dig (b * c)).length ≤ 120) := by
    have hl := And.intro (dl_mul b c) (And.intro lb lc)
    show _ ≤ _
    omega
  clear h_q5
  have HB18 := Lib.hid hb
  have HT18 := Lib.hid (HT17.out.trans (HB18.out.mono HT17.out.size))
  clear hb
  go_wp2_with fail
  refine (mul_v w18 A A_q5 ca c_q5 xs (dig (b * c)) a (b * c) ((((((((((((((((((Ha.out.below HB1.out).below HB2.out).below HB3.out).below HB4.out).below HB5.out).below HB6.out).below HB7.out).below HB8.out).below HB9.out).below HB10.out).below HB11.out).below HB12.out).below HB13.out).below HB14.out).below HB15.out).below HB16.out).below HB17.out).below HB18.out) H_q5.out HVa.out (val_dig _) (by omega) (Nat.le_trans HL_q5.out (by omega)) hac hc_q5).mono ?_
  rintro e w19 ⟨A_q6, c_q6, rfl, hc_q6, h_q6, hb⟩
  have H_q6 := Lib.hid h_q6
  have HL_q6 : Hid ((dig (a * (b * c))).length ≤ 180) := by
    have hl := And.intro (dl_mul a (b * c)) (And.intro la (HL_q5.out))
    show _ ≤ _
    omega
  clear h_q6
  have HB19 := Lib.hid hb
  have HT19 := Lib.hid (HT18.out.trans (HB19.out.mono HT18.out.size))
  clear hb
  go_wp2_with fail
  refine (same_v w19 A_q4 A_q6 c_q4 c_q6 ((a * b) * c) (a * (b * c)) ((H_q4.out.below HB18.out).below HB19.out) H_q6.out (Nat.mul_assoc _ _ _) (Nat.le_trans HL_q4.out (by omega))).mono ?_
  rintro e w20 ⟨rfl, hb⟩
  have HB20 := Lib.hid hb
  have HT20 := Lib.hid (HT19.out.trans (HB20.out.mono HT19.out.size))
  clear hb
  go_wp2_with fail
  refine (add_v w20 B C cb cc ys zs b c ((((((((((((((((((((Hb.out.below HB1.out).below HB2.out).below HB3.out).below HB4.out).below HB5.out).below HB6.out).below HB7.out).below HB8.out).below HB9.out).below HB10.out).below HB11.out).below HB12.out).below HB13.out).below HB14.out).below HB15.out).below HB16.out).below HB17.out).below HB18.out).below HB19.out).below HB20.out) ((((((((((((((((((((Hc.out.below HB1.out).below HB2.out).below HB3.out).below HB4.out).below HB5.out).below HB6.out).below HB7.out).below HB8.out).below HB9.out).below HB10.out).below HB11.out).below HB12.out).below HB13.out).below HB14.out).below HB15.out).below HB16.out).below HB17.out).below HB18.out).below HB19.out).below HB20.out) HVb.out HVc.out (by omega) (by omega) hbc hcc).mono ?_
  rintro e w21 ⟨A_q7, c_q7, rfl, hc_q7, h_q7, hb⟩
  have H_q7 := Lib.hid h_q7
  have HL_q7 : Hid ((dig (b + c)).length ≤ 121) := by
    have hl := And.intro (dl_add b c) (And.intro lb lc)
    show _ ≤ _
    omega
  clear h_q7
  have HB21 := Lib.hid hb
  have HT21 := Lib.hid (HT20.out.trans (HB21.out.mono HT20.out.size))
  clear hb
  go_wp2_with fail
  refine (mul_v w21 A A_q7 ca c_q7 xs (dig (b + c)) a (b + c) (((((((((((((((((((((Ha.out.below HB1.out).below HB2.out).below HB3.out).below HB4.out).below HB5.out).below HB6.out).below HB7.out).below HB8.out).below HB9.out).below HB10.out).below HB11.out).below HB12.out).below HB13.out).below HB14.out).below HB15.out).below HB16.out).below HB17.out).below HB18.out).below HB19.out).below HB20.out).below HB21.out) H_q7.out HVa.out (val_dig _) (by omega) (Nat.le_trans HL_q7.out (by omega)) hac hc_q7).mono ?_
  rintro e w22 ⟨A_q8, c_q8, rfl, hc_q8, h_q8, hb⟩
  have H_q8 := Lib.hid h_q8
  have HL_q8 : Hid ((dig (a * (b + c))).length ≤ 181) := by
    have hl := And.intro (dl_mul a (b + c)) (And.intro la (HL_q7.out))
    show _ ≤ _
    omega
  clear h_q8
  have HB22 := Lib.hid hb
  have HT22 := Lib.hid (HT21.out.trans (HB22.out.mono HT21.out.size))
  clear hb
  go_wp2_with fail
  refine (mul_v w22 A B ca cb xs ys a b ((((((((((((((((((((((Ha.out.below HB1.out).below HB2.out).below HB3.out).below HB4.out).below HB5.out).below HB6.out).below HB7.out).below HB8.out).below HB9.out).below HB10.out).below HB11.out).below HB12.out).below HB13.out).below HB14.out).below HB15.out).below HB16.out).below HB17.out).below HB18.out).below HB19.out).below HB20.out).below HB21.out).below HB22.out) ((((((((((((((((((((((Hb.out.below HB1.out).below HB2.out).below HB3.out).below HB4.out).below HB5.out).below HB6.out).below HB7.out).below HB8.out).below HB9.out).below HB10.out).below HB11.out).below HB12.out).below HB13.out).below HB14.out).below HB15.out).below HB16.out).below HB17.out).below HB18.out).below HB19.out).below HB20.out).below HB21.out).below HB22.out) HVa.out HVb.out (by omega) (by omega) hac hbc).mono ?_
  rintro e w23 ⟨A_q9, c_q9, rfl, hc_q9, h_q9, hb⟩
  have H_q9 := Lib.hid h_q9
  have HL_q9 : Hid ((dig (a * b)).length ≤ 120) := by
    have hl := And.intro (dl_mul a b) (And.intro la lb)
    show _ ≤ _
    omega
  clear h_q9
  have HB23 := Lib.hid hb
  have HT23 := Lib.hid (HT22.out.trans (HB23.out.mono HT22.out.size))
  clear hb
  go_wp2_with fail
  refine (mul_v w23 A C ca cc xs zs a c (((((((((((((((((((((((Ha.out.below HB1.out).below HB2.out).below HB3.out).below HB4.out).below HB5.out).below HB6.out).below HB7.out).below HB8.out).below HB9.out).below HB10.out).below HB11.out).below HB12.out).below HB13.out).below HB14.out).below HB15.out).below HB16.out).below HB17.out).below HB18.out).below HB19.out).below HB20.out).below HB21.out).below HB22.out).below HB23.out) (((((((((((((((((((((((Hc.out.below HB1.out).below HB2.out).below HB3.out).below HB4.out).below HB5.out).below HB6.out).below HB7.out).below HB8.out).below HB9.out).below HB10.out).below HB11.out).below HB12.out).below HB13.out).below HB14.out).below HB15.out).below HB16.out).below HB17.out).below HB18.out).below HB19.out).below HB20.out).below HB21.out).below HB22.out).below HB23.out) HVa.out HVc.out (by omega) (by omega) hac hcc).mono ?_
  rintro e w24 ⟨A_qa, c_qa, rfl, hc_qa, h_qa, hb⟩
  have H_qa := Lib.hid h_qa
  have HL_qa : Hid ((dig (a * c)).length ≤ 120) := by
    have hl := And.intro (dl_mul a c) (And.intro la lc)
    show _ ≤ _
    omega
  clear h_qa
  have HB24 := Lib.hid hb
  have HT24 := Lib.hid (HT23.out.trans (HB24.out.mono HT23.out.size))
  clear hb
  go_wp2_with fail
  refine (add_v w24 A_q9 A_qa c_q9 c_qa (dig (a * b)) (dig (a * c)) (a * b) (a * c) (H_q9.out.below HB24.out) H_qa.out (val_dig _) (val_dig _) (Nat.le_trans HL_q9.out (by omega)) (Nat.le_trans HL_qa.out (by omega)) hc_q9 hc_qa).mono ?_
  rintro e w25 ⟨A_qb, c_qb, rfl, hc_qb, h_qb, hb⟩
  have H_qb := Lib.hid h_qb
  have HL_qb : Hid ((dig ((a * b) + (a * c))).length ≤ 241) := by
    have hl := And.intro (dl_add (a * b) (a * c)) (And.intro (HL_q9.out) (HL_qa.out))
    show _ ≤ _
    omega
  clear h_qb
  have HB25 := Lib.hid hb
  have HT25 := Lib.hid (HT24.out.trans (HB25.out.mono HT24.out.size))
  clear hb
  go_wp2_with fail
  refine (same_v w25 A_q8 A_qb c_q8 c_qb (a * (b + c)) ((a * b) + (a * c)) (((H_q8.out.below HB23.out).below HB24.out).below HB25.out) H_qb.out (Nat.mul_add _ _ _) (Nat.le_trans HL_q8.out (by omega))).mono ?_
  rintro e w26 ⟨rfl, hb⟩
  have HB26 := Lib.hid hb
  have HT26 := Lib.hid (HT25.out.trans (HB26.out.mono HT25.out.size))
  clear hb
  go_wp2_with fail
  refine (dm_v w26 A B ca cb xs ys a b ((((((((((((((((((((((((((Ha.out.below HB1.out).below HB2.out).below HB3.out).below HB4.out).below HB5.out).below HB6.out).below HB7.out).below HB8.out).below HB9.out).below HB10.out).below HB11.out).below HB12.out).below HB13.out).below HB14.out).below HB15.out).below HB16.out).below HB17.out).below HB18.out).below HB19.out).below HB20.out).below HB21.out).below HB22.out).below HB23.out).below HB24.out).below HB25.out).below HB26.out) ((((((((((((((((((((((((((Hb.out.below HB1.out).below HB2.out).below HB3.out).below HB4.out).below HB5.out).below HB6.out).below HB7.out).below HB8.out).below HB9.out).below HB10.out).below HB11.out).below HB12.out).below HB13.out).below HB14.out).below HB15.out).below HB16.out).below HB17.out).below HB18.out).below HB19.out).below HB20.out).below HB21.out).below HB22.out).below HB23.out).below HB24.out).below HB25.out).below HB26.out) HVa.out HVb.out (by omega) (by omega) hac hbc).mono ?_
  rintro e w27 ⟨A_Q, c_Q, A_R, c_R, rfl, hc_Q, hc_R, h_Q, h_R, hb⟩
  have H_Q := Lib.hid h_Q
  have HL_Q : Hid ((dig (dmq a b)).length ≤ 60) := by
    have hl := And.intro (dl_le (dmq_le a b)) la
    show _ ≤ _
    omega
  clear h_Q
  have H_R := Lib.hid h_R
  have HL_R : Hid ((dig (dmr a b)).length ≤ 60) := by
    have hl := And.intro (dl_le (dmr_le a b)) la
    show _ ≤ _
    omega
  clear h_R
  have HB27 := Lib.hid hb
  have HT27 := Lib.hid (HT26.out.trans (HB27.out.mono HT26.out.size))
  clear hb
  go_wp2_with fail
  refine (trim_v w27 B cb ys b (((((((((((((((((((((((((((Hb.out.below HB1.out).below HB2.out).below HB3.out).below HB4.out).below HB5.out).below HB6.out).below HB7.out).below HB8.out).below HB9.out).below HB10.out).below HB11.out).below HB12.out).below HB13.out).below HB14.out).below HB15.out).below HB16.out).below HB17.out).below HB18.out).below HB19.out).below HB20.out).below HB21.out).below HB22.out).below HB23.out).below HB24.out).below HB25.out).below HB26.out).below HB27.out) HVb.out (by omega) hbc).mono ?_
  rintro e w28 ⟨A_t1, c_t1, rfl, hc_t1, h_t1, hb⟩
  have H_t1 := Lib.hid h_t1
  have HL_t1 : Hid ((dig (b)).length ≤ 1000) := by
    have hl := And.intro lb lb
    show _ ≤ _
    omega
  clear h_t1
  have HB28 := Lib.hid hb
  have HT28 := Lib.hid (HT27.out.trans (HB28.out.mono HT27.out.size))
  clear hb
  go_wp2_with fail
  refine (awake_any w28).mono ?_
  rintro e w29 ⟨rfl, hb⟩
  have HB29 := Lib.hid hb
  have HT29 := Lib.hid (HT28.out.trans (HB29.out.mono HT28.out.size))
  clear hb
  go_wp2_with fail
  go_ret
  exact ⟨rfl, HT29.out⟩
end Go.Proofs.Ytmkmlcpffplnnaa
