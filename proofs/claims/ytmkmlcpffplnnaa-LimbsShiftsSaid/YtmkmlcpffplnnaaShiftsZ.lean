/- LimbsShifts: its walk, a part. -/
import Derived.Test.YtmkmlcpffplnnaaPick
import Derived.Test.YtmkmlcpffplnnaaRingsW
namespace Go.Proofs.Ytmkmlcpffplnnaa
open Go.RowKit

set_option maxRecDepth 100000 in
set_option maxHeartbeats 16000000 in
theorem shifts_zero (w : World) (A : Option Addr) (ca : Nat) (xs : List Nat) (n : Int) (ha : Num w A xs) (hac : xs.length ≤ ca) (l1 : xs.length ≤ 60) (hn1 : -9223372036854775808 ≤ n) (hn2 : n ≤ 9223372036854775807) (hyp : blen (val xs) = 0) :
    Calls Try.prog 7 #[.slice A xs.length ca, .int .i64 n] w (RetB w true) := by
  obtain ⟨a, hva⟩ : ∃ a, val xs = a := ⟨_, rfl⟩
  have la := Nat.le_trans (dl_val ha.1 hva) l1
  have Ha := Lib.hid ha
  have HVa := Lib.hid hva
  rw [hva] at hyp
  have hbl := dl_bits a
  have hab := blen_lt a
  obtain ⟨k, hk0⟩ : ∃ k, blen a = k := ⟨_, rfl⟩
  rw [hk0] at hbl hab hyp
  have hk := Lib.hid hk0
  have habove := Lib.hid hab
  have hk3 : k ≤ 3840 := by omega
  have hlk := dl_pow k
  have HLK : Hid ((dig (2 ^ k)).length ≤ 61) := by
    show _ ≤ _
    omega
  have hkz : ((k : Int) == 0) = true := by rw [hyp]; rfl
  clear hyp
  clear ha hva hk0 hbl hab hlk
  have g1 : ¬ (60 : Int) < (xs.length : Int) := by omega
  go_enter Try.func7, Try.ntmps7
  go_wp2_with fail
  refine (pick_any n 301 hn1 hn2 (by omega) (by omega) w).mono ?_
  rintro e w' ⟨⟨p, hp, rfl⟩, rfl⟩
  have hp300 : p ≤ 300 := by omega
  clear hp
  have hlp := dl_pow p
  have HLP : Hid ((dig (2 ^ p)).length ≤ 5) := by
    show _ ≤ _
    omega
  have hla : ((p : Int) + 1 == (p : Int) + 1) = true := by simp
  clear hlp
  go_wp2_with fail
  refine (shl_one w (p : Int) (2 ^ p) ((shlv_nat 1 p (by omega)).trans (Nat.one_mul _))).mono ?_
  rintro e w1 ⟨A_P, c_P, rfl, hc_P, h_P, hb⟩
  have H_P := Lib.hid h_P
  have HL_P : Hid ((dig (2 ^ p)).length ≤ 5) := by
    have hl := And.intro HLP.out HLP.out
    show _ ≤ _
    omega
  clear h_P
  have HB1 := Lib.hid hb
  have HT1 := Lib.hid hb
  clear hb
  go_wp2_with fail
  refine (dm_v w1 A A_P ca c_P xs (dig (2 ^ p)) a (2 ^ p) (Ha.out.below HB1.out) H_P.out HVa.out (val_dig _) (by omega) (Nat.le_trans HL_P.out (by omega)) hac hc_P).mono ?_
  rintro e w2 ⟨A_Q, c_Q, A_R, c_R, rfl, hc_Q, hc_R, h_Q, h_R, hb⟩
  have H_Q := Lib.hid h_Q
  have HL_Q : Hid ((dig (dmq a (2 ^ p))).length ≤ 60) := by
    have hl := And.intro (dl_le (dmq_le a (2 ^ p))) la
    show _ ≤ _
    omega
  clear h_Q
  have H_R := Lib.hid h_R
  have HL_R : Hid ((dig (dmr a (2 ^ p))).length ≤ 60) := by
    have hl := And.intro (dl_le (dmr_le a (2 ^ p))) la
    show _ ≤ _
    omega
  clear h_R
  have HB2 := Lib.hid hb
  have HT2 := Lib.hid (HT1.out.trans (HB2.out.mono HT1.out.size))
  clear hb
  go_wp2_with fail
  refine (bits_r w2 A ca xs a ((Ha.out.below HB1.out).below HB2.out) HVa.out (by omega) hac k hk.out).mono ?_
  rintro e w3 ⟨rfl, hb⟩
  have HB3 := Lib.hid hb
  have HT3 := Lib.hid (HT2.out.trans (HB3.out.mono HT2.out.size))
  clear hb
  go_wp2_with fail
  refine (shl_one w3 (k : Int) (2 ^ k) ((shlv_nat 1 k (by omega)).trans (Nat.one_mul _))).mono ?_
  rintro e w4 ⟨A_U, c_U, rfl, hc_U, h_U, hb⟩
  have H_U := Lib.hid h_U
  have HL_U : Hid ((dig (2 ^ k)).length ≤ 61) := by
    have hl := And.intro HLK.out HLK.out
    show _ ≤ _
    omega
  clear h_U
  have HB4 := Lib.hid hb
  have HT4 := Lib.hid (HT3.out.trans (HB4.out.mono HT3.out.size))
  clear hb
  go_wp2_with fail
  have HC1 := cmp_v w4 A A_U ca c_U xs (dig (2 ^ k)) a (2 ^ k) ((((Ha.out.below HB1.out).below HB2.out).below HB3.out).below HB4.out) H_U.out HVa.out (val_dig _) (by omega) (Nat.le_trans HL_U.out (by omega)) hac hc_U
  rw [cmpv_lt habove.out] at HC1
  refine (HC1).mono ?_
  rintro e w5 ⟨rfl, hb⟩
  have HB5 := Lib.hid hb
  have HT5 := Lib.hid (HT4.out.trans (HB5.out.mono HT4.out.size))
  clear hb
  go_wp2_with fail
  refine (shl_r w5 A ca xs a (((((Ha.out.below HB1.out).below HB2.out).below HB3.out).below HB4.out).below HB5.out) HVa.out (by omega) hac (p : Int) (a * 2 ^ p) (shlv_nat a p (by omega))).mono ?_
  rintro e w6 ⟨A_S1, c_S1, rfl, hc_S1, h_S1, hb⟩
  have H_S1 := Lib.hid h_S1
  have HL_S1 : Hid ((dig (a * 2 ^ p)).length ≤ 65) := by
    have hl := And.intro (dl_mul a (2 ^ p)) (And.intro la HLP.out)
    show _ ≤ _
    omega
  clear h_S1
  have HB6 := Lib.hid hb
  have HT6 := Lib.hid (HT5.out.trans (HB6.out.mono HT5.out.size))
  clear hb
  go_wp2_with fail
  refine (mul_v w6 A A_P ca c_P xs (dig (2 ^ p)) a (2 ^ p) ((((((Ha.out.below HB1.out).below HB2.out).below HB3.out).below HB4.out).below HB5.out).below HB6.out) (((((H_P.out.below HB2.out).below HB3.out).below HB4.out).below HB5.out).below HB6.out) HVa.out (val_dig _) (by omega) (Nat.le_trans HL_P.out (by omega)) hac hc_P).mono ?_
  rintro e w7 ⟨A_S2, c_S2, rfl, hc_S2, h_S2, hb⟩
  have H_S2 := Lib.hid h_S2
  have HL_S2 : Hid ((dig (a * 2 ^ p)).length ≤ 65) := by
    have hl := And.intro (dl_mul a (2 ^ p)) (And.intro la HLP.out)
    show _ ≤ _
    omega
  clear h_S2
  have HB7 := Lib.hid hb
  have HT7 := Lib.hid (HT6.out.trans (HB7.out.mono HT6.out.size))
  clear hb
  go_wp2_with fail
  refine (same_v w7 A_S1 A_S2 c_S1 c_S2 (a * 2 ^ p) (a * 2 ^ p) (H_S1.out.below HB7.out) H_S2.out rfl (Nat.le_trans HL_S1.out (by omega))).mono ?_
  rintro e w8 ⟨rfl, hb⟩
  have HB8 := Lib.hid hb
  have HT8 := Lib.hid (HT7.out.trans (HB8.out.mono HT7.out.size))
  clear hb
  go_wp2_with fail
  refine (shr_r w8 A ca xs a ((((((((Ha.out.below HB1.out).below HB2.out).below HB3.out).below HB4.out).below HB5.out).below HB6.out).below HB7.out).below HB8.out) HVa.out (by omega) hac (p : Int) (dmq a (2 ^ p)) (shrv_nat a p) (by omega)).mono ?_
  rintro e w9 ⟨A_S3, c_S3, rfl, hc_S3, h_S3, hb⟩
  have H_S3 := Lib.hid h_S3
  have HL_S3 : Hid ((dig (dmq a (2 ^ p))).length ≤ 60) := by
    have hl := And.intro (dl_le (dmq_le a (2 ^ p))) la
    show _ ≤ _
    omega
  clear h_S3
  have HB9 := Lib.hid hb
  have HT9 := Lib.hid (HT8.out.trans (HB9.out.mono HT8.out.size))
  clear hb
  go_wp2_with fail
  refine (same_v w9 A_S3 A_Q c_S3 c_Q (dmq a (2 ^ p)) (dmq a (2 ^ p)) H_S3.out (((((((H_Q.out.below HB3.out).below HB4.out).below HB5.out).below HB6.out).below HB7.out).below HB8.out).below HB9.out) rfl (Nat.le_trans HL_S3.out (by omega))).mono ?_
  rintro e w10 ⟨rfl, hb⟩
  have HB10 := Lib.hid hb
  have HT10 := Lib.hid (HT9.out.trans (HB10.out.mono HT9.out.size))
  clear hb
  go_wp2_with fail
  refine (shl_r w10 A ca xs a ((((((((((Ha.out.below HB1.out).below HB2.out).below HB3.out).below HB4.out).below HB5.out).below HB6.out).below HB7.out).below HB8.out).below HB9.out).below HB10.out) HVa.out (by omega) hac (p : Int) (a * 2 ^ p) (shlv_nat a p (by omega))).mono ?_
  rintro e w11 ⟨A_S4, c_S4, rfl, hc_S4, h_S4, hb⟩
  have H_S4 := Lib.hid h_S4
  have HL_S4 : Hid ((dig (a * 2 ^ p)).length ≤ 65) := by
    have hl := And.intro (dl_mul a (2 ^ p)) (And.intro la HLP.out)
    show _ ≤ _
    omega
  clear h_S4
  have HB11 := Lib.hid hb
  have HT11 := Lib.hid (HT10.out.trans (HB11.out.mono HT10.out.size))
  clear hb
  go_wp2_with fail
  refine (shr_r w11 A_S4 c_S4 (dig (a * 2 ^ p)) (a * 2 ^ p) H_S4.out (val_dig _) (Nat.le_trans HL_S4.out (by omega)) hc_S4 (p : Int) a ((shrv_nat (a * 2 ^ p) p).trans (Nat.mul_div_cancel _ (Nat.pow_pos (by omega)))) (by omega)).mono ?_
  rintro e w12 ⟨A_S5, c_S5, rfl, hc_S5, h_S5, hb⟩
  have H_S5 := Lib.hid h_S5
  have HL_S5 : Hid ((dig (a)).length ≤ 60) := by
    have hl := And.intro la la
    show _ ≤ _
    omega
  clear h_S5
  have HB12 := Lib.hid hb
  have HT12 := Lib.hid (HT11.out.trans (HB12.out.mono HT11.out.size))
  clear hb
  go_wp2_with fail
  refine (trim_v w12 A ca xs a ((((((((((((Ha.out.below HB1.out).below HB2.out).below HB3.out).below HB4.out).below HB5.out).below HB6.out).below HB7.out).below HB8.out).below HB9.out).below HB10.out).below HB11.out).below HB12.out) HVa.out (by omega) hac).mono ?_
  rintro e w13 ⟨A_S6, c_S6, rfl, hc_S6, h_S6, hb⟩
  have H_S6 := Lib.hid h_S6
  have HL_S6 : Hid ((dig (a)).length ≤ 60) := by
    have hl := And.intro la la
    show _ ≤ _
    omega
  clear h_S6
  have HB13 := Lib.hid hb
  have HT13 := Lib.hid (HT12.out.trans (HB13.out.mono HT12.out.size))
  clear hb
  go_wp2_with fail
  refine (same_v w13 A_S5 A_S6 c_S5 c_S6 (a) (a) (H_S5.out.below HB13.out) H_S6.out rfl (Nat.le_trans HL_S5.out (by omega))).mono ?_
  rintro e w14 ⟨rfl, hb⟩
  have HB14 := Lib.hid hb
  have HT14 := Lib.hid (HT13.out.trans (HB14.out.mono HT13.out.size))
  clear hb
  go_wp2_with fail
  refine (bits_r w14 A_P c_P (dig (2 ^ p)) (2 ^ p) (((((((((((((H_P.out.below HB2.out).below HB3.out).below HB4.out).below HB5.out).below HB6.out).below HB7.out).below HB8.out).below HB9.out).below HB10.out).below HB11.out).below HB12.out).below HB13.out).below HB14.out) (val_dig _) (Nat.le_trans HL_P.out (by omega)) hc_P (p + 1) (blen_pow p)).mono ?_
  rintro e w15 ⟨rfl, hb⟩
  have HB15 := Lib.hid hb
  have HT15 := Lib.hid (HT14.out.trans (HB15.out.mono HT14.out.size))
  clear hb
  go_wp2_with fail
  refine (awake_any w15).mono ?_
  rintro e w16 ⟨rfl, hb⟩
  have HB16 := Lib.hid hb
  have HT16 := Lib.hid (HT15.out.trans (HB16.out.mono HT15.out.size))
  clear hb
  go_wp2_with fail
  go_ret
  exact ⟨rfl, HT16.out⟩

end Go.Proofs.Ytmkmlcpffplnnaa
