/- LimbsNumbers: its walk, out of the contracts. -/
import Derived.Test.YtmkmlcpffplnnaaLits
namespace Go.Proofs.Ytmkmlcpffplnnaa
open Go.RowKit

set_option maxRecDepth 100000 in
set_option maxHeartbeats 16000000 in
theorem numbers_walk (w : World) : Calls Try.prog 3 #[] w (RetB w true) := by
  have hz0 : (((blen (val [0, 1]) : Nat) : Int)) = 65 := by decide +kernel
  have hz1 : (((blen (val [18446744073709551615]) : Nat) : Int)) = 64 := by decide +kernel
  have Z0 := Lib.hid hz0
  have Z1 := Lib.hid hz1
  clear hz0 hz1
  have hlen : (((dig (shlv (val [1]) 1048576)).length : Int) == 16385) = true := by
    rw [len_shl1 _ 16384 _ (by decide +kernel) (by omega) (by omega)]; rfl
  go_enter Try.func3, Try.ntmps3
  go_wp2_with fail
  refine (trim_lit w [1, 0, 0] 3 _ rfl rfl (digs_lit (by decide +kernel)) (by omega)).mono ?_
  rintro e w1 ⟨A_a1, c_a1, rfl, hc_a1, h_a1, hb⟩
  have H_a1 := Lib.hid h_a1
  have HL_a1 : Hid ((dig (val [1, 0, 0])).length ≤ 1) := by
    have hl := And.intro (dig_length_le (k := 1) (n := val [1, 0, 0]) (by rw [B64_eq]; decide +kernel)) (Nat.le_refl 0)
    show _ ≤ _
    omega
  clear h_a1
  have HB1 := Lib.hid hb
  have HT1 := Lib.hid hb
  clear hb
  go_wp2_with fail
  refine (is_lit w1 A_a1 c_a1 _ 1 [1] _ rfl rfl H_a1.out (digs_lit (by decide +kernel)) (by decide +kernel) (by decide) (by omega)).mono ?_
  rintro e w2 ⟨rfl, hb⟩
  have HB2 := Lib.hid hb
  have HT2 := Lib.hid (HT1.out.trans (HB2.out.mono HT1.out.size))
  clear hb
  go_wp2_with fail
  refine (trim_lit w2 [0] 1 _ rfl rfl (digs_lit (by decide +kernel)) (by omega)).mono ?_
  rintro e w3 ⟨A_a2, c_a2, rfl, hc_a2, h_a2, hb⟩
  have H_a2 := Lib.hid h_a2
  have HL_a2 : Hid ((dig (val [0])).length ≤ 1) := by
    have hl := And.intro (dig_length_le (k := 1) (n := val [0]) (by rw [B64_eq]; decide +kernel)) (Nat.le_refl 0)
    show _ ≤ _
    omega
  clear h_a2
  have HB3 := Lib.hid hb
  have HT3 := Lib.hid (HT2.out.trans (HB3.out.mono HT2.out.size))
  clear hb
  go_wp2_with fail
  refine (is_nil w3 A_a2 c_a2 _ (by decide +kernel)).mono ?_
  rintro e w4 ⟨rfl, hb⟩
  have HB4 := Lib.hid hb
  have HT4 := Lib.hid (HT3.out.trans (HB4.out.mono HT3.out.size))
  clear hb
  go_wp2_with fail
  refine (cmp_lit w4 [5, 0] [5] 2 1 _ _ rfl rfl rfl rfl (digs_lit (by decide +kernel)) (digs_lit (by decide +kernel)) (by omega) (by omega) 0 (by decide +kernel)).mono ?_
  rintro e w5 ⟨rfl, hb⟩
  have HB5 := Lib.hid hb
  have HT5 := Lib.hid (HT4.out.trans (HB5.out.mono HT4.out.size))
  clear hb
  go_wp2_with fail
  refine (cmp_lit w5 [0, 1] [18446744073709551615] 2 1 _ _ rfl rfl rfl rfl (digs_lit (by decide +kernel)) (digs_lit (by decide +kernel)) (by omega) (by omega) 1 (by decide +kernel)).mono ?_
  rintro e w6 ⟨rfl, hb⟩
  have HB6 := Lib.hid hb
  have HT6 := Lib.hid (HT5.out.trans (HB6.out.mono HT5.out.size))
  clear hb
  go_wp2_with fail
  refine (cmp_nl w6 [1] 1 _ rfl rfl (digs_lit (by decide +kernel)) (by omega) (-1) (by decide +kernel)).mono ?_
  rintro e w7 ⟨rfl, hb⟩
  have HB7 := Lib.hid hb
  have HT7 := Lib.hid (HT6.out.trans (HB7.out.mono HT6.out.size))
  clear hb
  go_wp2_with fail
  refine (sub_lit w7 [1] [2] 1 1 _ _ rfl rfl rfl rfl (digs_lit (by decide +kernel)) (digs_lit (by decide +kernel)) (by omega) (by omega)).mono ?_
  rintro e w8 ⟨A_a3, c_a3, rfl, hc_a3, h_a3, hb⟩
  have H_a3 := Lib.hid h_a3
  have HL_a3 : Hid ((dig (val [1] - val [2])).length ≤ 1) := by
    have hl := And.intro (dig_length_le (k := 1) (n := val [1] - val [2]) (by rw [B64_eq]; decide +kernel)) (Nat.le_refl 0)
    show _ ≤ _
    omega
  clear h_a3
  have HB8 := Lib.hid hb
  have HT8 := Lib.hid (HT7.out.trans (HB8.out.mono HT7.out.size))
  clear hb
  go_wp2_with fail
  refine (is_nil w8 A_a3 c_a3 _ (by decide +kernel)).mono ?_
  rintro e w9 ⟨rfl, hb⟩
  have HB9 := Lib.hid hb
  have HT9 := Lib.hid (HT8.out.trans (HB9.out.mono HT8.out.size))
  clear hb
  go_wp2_with fail
  refine (sub_lit w9 [0, 1] [1, 0] 2 2 _ _ rfl rfl rfl rfl (digs_lit (by decide +kernel)) (digs_lit (by decide +kernel)) (by omega) (by omega)).mono ?_
  rintro e w10 ⟨A_a4, c_a4, rfl, hc_a4, h_a4, hb⟩
  have H_a4 := Lib.hid h_a4
  have HL_a4 : Hid ((dig (val [0, 1] - val [1, 0])).length ≤ 2) := by
    have hl := And.intro (dig_length_le (k := 2) (n := val [0, 1] - val [1, 0]) (by rw [B64_eq]; decide +kernel)) (Nat.le_refl 0)
    show _ ≤ _
    omega
  clear h_a4
  have HB10 := Lib.hid hb
  have HT10 := Lib.hid (HT9.out.trans (HB10.out.mono HT9.out.size))
  clear hb
  go_wp2_with fail
  refine (is_lit w10 A_a4 c_a4 _ 1 [18446744073709551615] _ rfl rfl H_a4.out (digs_lit (by decide +kernel)) (by decide +kernel) (by decide) (by omega)).mono ?_
  rintro e w11 ⟨rfl, hb⟩
  have HB11 := Lib.hid hb
  have HT11 := Lib.hid (HT10.out.trans (HB11.out.mono HT10.out.size))
  clear hb
  go_wp2_with fail
  refine (shl_lit w11 [1] 1 _ rfl rfl (digs_lit (by decide +kernel)) (by omega) (64)).mono ?_
  rintro e w12 ⟨A_b1, c_b1, rfl, hc_b1, h_b1, hb⟩
  have H_b1 := Lib.hid h_b1
  have HL_b1 : Hid ((dig (shlv (val [1]) 64)).length ≤ 2) := by
    have hl := And.intro (dig_length_le (k := 2) (n := shlv (val [1]) 64) (by rw [B64_eq]; decide +kernel)) (Nat.le_refl 0)
    show _ ≤ _
    omega
  clear h_b1
  have HB12 := Lib.hid hb
  have HT12 := Lib.hid (HT11.out.trans (HB12.out.mono HT11.out.size))
  clear hb
  go_wp2_with fail
  refine (is_lit w12 A_b1 c_b1 _ 2 [0, 1] _ rfl rfl H_b1.out (digs_lit (by decide +kernel)) (by decide +kernel) (by decide) (by omega)).mono ?_
  rintro e w13 ⟨rfl, hb⟩
  have HB13 := Lib.hid hb
  have HT13 := Lib.hid (HT12.out.trans (HB13.out.mono HT12.out.size))
  clear hb
  go_wp2_with fail
  refine (shr_lit w13 [0, 1] 2 _ rfl rfl (digs_lit (by decide +kernel)) (by omega) (1) (by omega)).mono ?_
  rintro e w14 ⟨A_b2, c_b2, rfl, hc_b2, h_b2, hb⟩
  have H_b2 := Lib.hid h_b2
  have HL_b2 : Hid ((dig (shrv (val [0, 1]) 1)).length ≤ 2) := by
    have hl := And.intro (dig_length_le (k := 2) (n := shrv (val [0, 1]) 1) (by rw [B64_eq]; decide +kernel)) (Nat.le_refl 0)
    show _ ≤ _
    omega
  clear h_b2
  have HB14 := Lib.hid hb
  have HT14 := Lib.hid (HT13.out.trans (HB14.out.mono HT13.out.size))
  clear hb
  go_wp2_with fail
  refine (is_lit w14 A_b2 c_b2 _ 1 [9223372036854775808] _ rfl rfl H_b2.out (digs_lit (by decide +kernel)) (by decide +kernel) (by decide) (by omega)).mono ?_
  rintro e w15 ⟨rfl, hb⟩
  have HB15 := Lib.hid hb
  have HT15 := Lib.hid (HT14.out.trans (HB15.out.mono HT14.out.size))
  clear hb
  go_wp2_with fail
  refine (shl_lit w15 [3] 1 _ rfl rfl (digs_lit (by decide +kernel)) (by omega) (63)).mono ?_
  rintro e w16 ⟨A_b3, c_b3, rfl, hc_b3, h_b3, hb⟩
  have H_b3 := Lib.hid h_b3
  have HL_b3 : Hid ((dig (shlv (val [3]) 63)).length ≤ 2) := by
    have hl := And.intro (dig_length_le (k := 2) (n := shlv (val [3]) 63) (by rw [B64_eq]; decide +kernel)) (Nat.le_refl 0)
    show _ ≤ _
    omega
  clear h_b3
  have HB16 := Lib.hid hb
  have HT16 := Lib.hid (HT15.out.trans (HB16.out.mono HT15.out.size))
  clear hb
  go_wp2_with fail
  refine (is_lit w16 A_b3 c_b3 _ 2 [9223372036854775808, 1] _ rfl rfl H_b3.out (digs_lit (by decide +kernel)) (by decide +kernel) (by decide) (by omega)).mono ?_
  rintro e w17 ⟨rfl, hb⟩
  have HB17 := Lib.hid hb
  have HT17 := Lib.hid (HT16.out.trans (HB17.out.mono HT16.out.size))
  clear hb
  go_wp2_with fail
  refine (shl_lit w17 [1] 1 _ rfl rfl (digs_lit (by decide +kernel)) (by omega) 1048577).mono ?_
  rintro e w18 ⟨A_b4, c_b4, rfl, hc_b4, h_b4, hb⟩
  have H_b4 := Lib.hid h_b4
  have HL_b4 : Hid ((dig (shlv (val [1]) 1048577)).length ≤ 1) := by
    have hl := And.intro (show (dig (shlv (val [1]) 1048577)).length ≤ 0 by rw [shlv_far _ _ (by omega), dig_zero]; exact Nat.le_refl 0) (Nat.le_refl 0)
    show _ ≤ _
    omega
  clear h_b4
  have HB18 := Lib.hid hb
  have HT18 := Lib.hid (HT17.out.trans (HB18.out.mono HT17.out.size))
  clear hb
  go_wp2_with fail
  refine (is_nil w18 A_b4 c_b4 _ (shlv_far _ _ (by omega))).mono ?_
  rintro e w19 ⟨rfl, hb⟩
  have HB19 := Lib.hid hb
  have HT19 := Lib.hid (HT18.out.trans (HB19.out.mono HT18.out.size))
  clear hb
  go_wp2_with fail
  refine (shl_lit w19 [1] 1 _ rfl rfl (digs_lit (by decide +kernel)) (by omega) 1048576).mono ?_
  rintro e w20 ⟨A_b5, c_b5, rfl, -, -, hb⟩
  have HB20 := Lib.hid hb
  have HT20 := Lib.hid (HT19.out.trans (HB20.out.mono HT19.out.size))
  clear hb
  go_wp2_with fail
  refine (shl_lit w20 [7, 0] 2 _ rfl rfl (digs_lit (by decide +kernel)) (by omega) (-5)).mono ?_
  rintro e w21 ⟨A_b6, c_b6, rfl, hc_b6, h_b6, hb⟩
  have H_b6 := Lib.hid h_b6
  have HL_b6 : Hid ((dig (shlv (val [7, 0]) (-5))).length ≤ 1) := by
    have hl := And.intro (dig_length_le (k := 1) (n := shlv (val [7, 0]) (-5)) (by rw [B64_eq]; decide +kernel)) (Nat.le_refl 0)
    show _ ≤ _
    omega
  clear h_b6
  have HB21 := Lib.hid hb
  have HT21 := Lib.hid (HT20.out.trans (HB21.out.mono HT20.out.size))
  clear hb
  go_wp2_with fail
  refine (is_lit w21 A_b6 c_b6 _ 1 [7] _ rfl rfl H_b6.out (digs_lit (by decide +kernel)) (by decide +kernel) (by decide) (by omega)).mono ?_
  rintro e w22 ⟨rfl, hb⟩
  have HB22 := Lib.hid hb
  have HT22 := Lib.hid (HT21.out.trans (HB22.out.mono HT21.out.size))
  clear hb
  go_wp2_with fail
  refine (shr_lit w22 [7] 1 _ rfl rfl (digs_lit (by decide +kernel)) (by omega) (3) (by omega)).mono ?_
  rintro e w23 ⟨A_b7, c_b7, rfl, hc_b7, h_b7, hb⟩
  have H_b7 := Lib.hid h_b7
  have HL_b7 : Hid ((dig (shrv (val [7]) 3)).length ≤ 1) := by
    have hl := And.intro (dig_length_le (k := 1) (n := shrv (val [7]) 3) (by rw [B64_eq]; decide +kernel)) (Nat.le_refl 0)
    show _ ≤ _
    omega
  clear h_b7
  have HB23 := Lib.hid hb
  have HT23 := Lib.hid (HT22.out.trans (HB23.out.mono HT22.out.size))
  clear hb
  go_wp2_with fail
  refine (is_nil w23 A_b7 c_b7 _ (by decide +kernel)).mono ?_
  rintro e w24 ⟨rfl, hb⟩
  have HB24 := Lib.hid hb
  have HT24 := Lib.hid (HT23.out.trans (HB24.out.mono HT23.out.size))
  clear hb
  go_wp2_with fail
  refine (bits_lit w24 [0, 1] 2 _ rfl rfl (digs_lit (by decide +kernel)) (by omega) 65 Z0.out).mono ?_
  rintro e w25 ⟨rfl, hb⟩
  have HB25 := Lib.hid hb
  have HT25 := Lib.hid (HT24.out.trans (HB25.out.mono HT24.out.size))
  clear hb
  go_wp2_with fail
  refine (bits_nil w25).mono ?_
  rintro e w26 ⟨rfl, hb⟩
  have HB26 := Lib.hid hb
  have HT26 := Lib.hid (HT25.out.trans (HB26.out.mono HT25.out.size))
  clear hb
  go_wp2_with fail
  refine (bits_lit w26 [18446744073709551615] 1 _ rfl rfl (digs_lit (by decide +kernel)) (by omega) 64 Z1.out).mono ?_
  rintro e w27 ⟨rfl, hb⟩
  have HB27 := Lib.hid hb
  have HT27 := Lib.hid (HT26.out.trans (HB27.out.mono HT26.out.size))
  clear hb
  go_wp2_with fail
  refine (dm_ln w27 [5] 1 _ rfl rfl (digs_lit (by decide +kernel)) (by omega)).mono ?_
  rintro e w28 ⟨A_qa, c_qa, A_qb, c_qb, rfl, hc_qa, hc_qb, h_qa, h_qb, hb⟩
  have H_qa := Lib.hid h_qa
  have HL_qa : Hid ((dig (dmq (val [5]) (0))).length ≤ 1) := (dig_length_le (k := 1) (n := dmq (val [5]) (0)) (by rw [B64_eq]; decide +kernel))
  clear h_qa
  have H_qb := Lib.hid h_qb
  have HL_qb : Hid ((dig (dmr (val [5]) (0))).length ≤ 1) := (dig_length_le (k := 1) (n := dmr (val [5]) (0)) (by rw [B64_eq]; decide +kernel))
  clear h_qb
  have HB28 := Lib.hid hb
  have HT28 := Lib.hid (HT27.out.trans (HB28.out.mono HT27.out.size))
  clear hb
  go_wp2_with fail
  refine (divmod_lit w28 [0, 0, 9223372036854775808] [18446744073709551615, 9223372036854775808] 3 2 _ _ rfl rfl rfl rfl (digs_lit (by decide +kernel)) (digs_lit (by decide +kernel)) (by omega) (by omega)).mono ?_
  rintro e w29 ⟨A_qc, c_qc, A_qd, c_qd, rfl, hc_qc, hc_qd, h_qc, h_qd, hb⟩
  have H_qc := Lib.hid h_qc
  have HL_qc : Hid ((dig (dmq (val [0, 0, 9223372036854775808]) (val [18446744073709551615, 9223372036854775808]))).length ≤ 3) := (dig_length_le (k := 3) (n := dmq (val [0, 0, 9223372036854775808]) (val [18446744073709551615, 9223372036854775808])) (by rw [B64_eq]; decide +kernel))
  clear h_qc
  have H_qd := Lib.hid h_qd
  have HL_qd : Hid ((dig (dmr (val [0, 0, 9223372036854775808]) (val [18446744073709551615, 9223372036854775808]))).length ≤ 2) := (dig_length_le (k := 2) (n := dmr (val [0, 0, 9223372036854775808]) (val [18446744073709551615, 9223372036854775808])) (by rw [B64_eq]; decide +kernel))
  clear h_qd
  have HB29 := Lib.hid hb
  have HT29 := Lib.hid (HT28.out.trans (HB29.out.mono HT28.out.size))
  clear hb
  go_wp2_with fail
  refine (divmod_lit w29 [3, 0, 9223372036854775808] [1, 0, 2305843009213693952] 3 3 _ _ rfl rfl rfl rfl (digs_lit (by decide +kernel)) (digs_lit (by decide +kernel)) (by omega) (by omega)).mono ?_
  rintro e w30 ⟨A_qe, c_qe, A_qf, c_qf, rfl, hc_qe, hc_qf, h_qe, h_qf, hb⟩
  have H_qe := Lib.hid h_qe
  have HL_qe : Hid ((dig (dmq (val [3, 0, 9223372036854775808]) (val [1, 0, 2305843009213693952]))).length ≤ 3) := (dig_length_le (k := 3) (n := dmq (val [3, 0, 9223372036854775808]) (val [1, 0, 2305843009213693952])) (by rw [B64_eq]; decide +kernel))
  clear h_qe
  have H_qf := Lib.hid h_qf
  have HL_qf : Hid ((dig (dmr (val [3, 0, 9223372036854775808]) (val [1, 0, 2305843009213693952]))).length ≤ 3) := (dig_length_le (k := 3) (n := dmr (val [3, 0, 9223372036854775808]) (val [1, 0, 2305843009213693952])) (by rw [B64_eq]; decide +kernel))
  clear h_qf
  have HB30 := Lib.hid hb
  have HT30 := Lib.hid (HT29.out.trans (HB30.out.mono HT29.out.size))
  clear hb
  go_wp2_with fail
  refine (divmod_lit w30 [0, 18446744073709551614, 9223372036854775808] [18446744073709551615, 9223372036854775808] 3 2 _ _ rfl rfl rfl rfl (digs_lit (by decide +kernel)) (digs_lit (by decide +kernel)) (by omega) (by omega)).mono ?_
  rintro e w31 ⟨A_qg, c_qg, A_qh, c_qh, rfl, hc_qg, hc_qh, h_qg, h_qh, hb⟩
  have H_qg := Lib.hid h_qg
  have HL_qg : Hid ((dig (dmq (val [0, 18446744073709551614, 9223372036854775808]) (val [18446744073709551615, 9223372036854775808]))).length ≤ 3) := (dig_length_le (k := 3) (n := dmq (val [0, 18446744073709551614, 9223372036854775808]) (val [18446744073709551615, 9223372036854775808])) (by rw [B64_eq]; decide +kernel))
  clear h_qg
  have H_qh := Lib.hid h_qh
  have HL_qh : Hid ((dig (dmr (val [0, 18446744073709551614, 9223372036854775808]) (val [18446744073709551615, 9223372036854775808]))).length ≤ 2) := (dig_length_le (k := 2) (n := dmr (val [0, 18446744073709551614, 9223372036854775808]) (val [18446744073709551615, 9223372036854775808])) (by rw [B64_eq]; decide +kernel))
  clear h_qh
  have HB31 := Lib.hid hb
  have HT31 := Lib.hid (HT30.out.trans (HB31.out.mono HT30.out.size))
  clear hb
  go_wp2_with fail
  refine (is_nil w31 A_qa c_qa _ (by decide +kernel)).mono ?_
  rintro e w32 ⟨rfl, hb⟩
  have HB32 := Lib.hid hb
  have HT32 := Lib.hid (HT31.out.trans (HB32.out.mono HT31.out.size))
  clear hb
  go_wp2_with fail
  refine (is_nil w32 A_qb c_qb _ (by decide +kernel)).mono ?_
  rintro e w33 ⟨rfl, hb⟩
  have HB33 := Lib.hid hb
  have HT33 := Lib.hid (HT32.out.trans (HB33.out.mono HT32.out.size))
  clear hb
  go_wp2_with fail
  refine (mul_vl w33 A_qc c_qc _ [18446744073709551615, 9223372036854775808] 2 _ rfl rfl (digs_lit (by decide +kernel)) (by omega) ((((H_qc.out.below HB30.out).below HB31.out).below HB32.out).below HB33.out) (Nat.le_trans HL_qc.out (by omega)) hc_qc).mono ?_
  rintro e w34 ⟨A_xm, c_xm, rfl, hc_xm, h_xm, hb⟩
  have H_xm := Lib.hid h_xm
  have HL_xm : Hid ((dig ((dmq (val [0, 0, 9223372036854775808]) (val [18446744073709551615, 9223372036854775808])) * val [18446744073709551615, 9223372036854775808])).length ≤ 5) := by
    have hl := And.intro (dig_length_le (k := 5) (n := (dmq (val [0, 0, 9223372036854775808]) (val [18446744073709551615, 9223372036854775808])) * val [18446744073709551615, 9223372036854775808]) (by rw [B64_eq]; decide +kernel)) (Nat.le_refl 0)
    show _ ≤ _
    omega
  clear h_xm
  have HB34 := Lib.hid hb
  have HT34 := Lib.hid (HT33.out.trans (HB34.out.mono HT33.out.size))
  clear hb
  go_wp2_with fail
  refine (add_v w34 A_xm A_qd c_xm c_qd (dig ((dmq (val [0, 0, 9223372036854775808]) (val [18446744073709551615, 9223372036854775808])) * val [18446744073709551615, 9223372036854775808])) (dig (dmr (val [0, 0, 9223372036854775808]) (val [18446744073709551615, 9223372036854775808]))) ((dmq (val [0, 0, 9223372036854775808]) (val [18446744073709551615, 9223372036854775808])) * val [18446744073709551615, 9223372036854775808]) (dmr (val [0, 0, 9223372036854775808]) (val [18446744073709551615, 9223372036854775808])) H_xm.out (((((H_qd.out.below HB30.out).below HB31.out).below HB32.out).below HB33.out).below HB34.out) (val_dig _) (val_dig _) (Nat.le_trans HL_xm.out (by omega)) (Nat.le_trans HL_qd.out (by omega)) hc_xm hc_qd).mono ?_
  rintro e w35 ⟨A_xs, c_xs, rfl, hc_xs, h_xs, hb⟩
  have H_xs := Lib.hid h_xs
  have HL_xs : Hid ((dig ((dmq (val [0, 0, 9223372036854775808]) (val [18446744073709551615, 9223372036854775808])) * val [18446744073709551615, 9223372036854775808] + (dmr (val [0, 0, 9223372036854775808]) (val [18446744073709551615, 9223372036854775808])))).length ≤ 5) := by
    have hl := And.intro (dig_length_le (k := 5) (n := (dmq (val [0, 0, 9223372036854775808]) (val [18446744073709551615, 9223372036854775808])) * val [18446744073709551615, 9223372036854775808] + (dmr (val [0, 0, 9223372036854775808]) (val [18446744073709551615, 9223372036854775808]))) (by rw [B64_eq]; decide +kernel)) (Nat.le_refl 0)
    show _ ≤ _
    omega
  clear h_xs
  have HB35 := Lib.hid hb
  have HT35 := Lib.hid (HT34.out.trans (HB35.out.mono HT34.out.size))
  clear hb
  go_wp2_with fail
  refine (is_lit w35 A_xs c_xs _ 3 [0, 0, 9223372036854775808] _ rfl rfl H_xs.out (digs_lit (by decide +kernel)) (by decide +kernel) (by decide) (by omega)).mono ?_
  rintro e w36 ⟨rfl, hb⟩
  have HB36 := Lib.hid hb
  have HT36 := Lib.hid (HT35.out.trans (HB36.out.mono HT35.out.size))
  clear hb
  go_wp2_with fail
  refine (cmp_vl w36 A_qd c_qd _ [18446744073709551615, 9223372036854775808] 2 _ rfl rfl (digs_lit (by decide +kernel)) (by omega) (((((((H_qd.out.below HB30.out).below HB31.out).below HB32.out).below HB33.out).below HB34.out).below HB35.out).below HB36.out) (Nat.le_trans HL_qd.out (by omega)) hc_qd (-1) (by decide +kernel)).mono ?_
  rintro e w37 ⟨rfl, hb⟩
  have HB37 := Lib.hid hb
  have HT37 := Lib.hid (HT36.out.trans (HB37.out.mono HT36.out.size))
  clear hb
  go_wp2_with fail
  refine (is_lit w37 A_qe c_qe _ 1 [3] _ rfl rfl (((((((H_qe.out.below HB31.out).below HB32.out).below HB33.out).below HB34.out).below HB35.out).below HB36.out).below HB37.out) (digs_lit (by decide +kernel)) (by decide +kernel) (by decide) (by omega)).mono ?_
  rintro e w38 ⟨rfl, hb⟩
  have HB38 := Lib.hid hb
  have HT38 := Lib.hid (HT37.out.trans (HB38.out.mono HT37.out.size))
  clear hb
  go_wp2_with fail
  refine (is_lit w38 A_qf c_qf _ 3 [0, 0, 2305843009213693952] _ rfl rfl ((((((((H_qf.out.below HB31.out).below HB32.out).below HB33.out).below HB34.out).below HB35.out).below HB36.out).below HB37.out).below HB38.out) (digs_lit (by decide +kernel)) (by decide +kernel) (by decide) (by omega)).mono ?_
  rintro e w39 ⟨rfl, hb⟩
  have HB39 := Lib.hid hb
  have HT39 := Lib.hid (HT38.out.trans (HB39.out.mono HT38.out.size))
  clear hb
  go_wp2_with fail
  refine (mul_vl w39 A_qg c_qg _ [18446744073709551615, 9223372036854775808] 2 _ rfl rfl (digs_lit (by decide +kernel)) (by omega) ((((((((H_qg.out.below HB32.out).below HB33.out).below HB34.out).below HB35.out).below HB36.out).below HB37.out).below HB38.out).below HB39.out) (Nat.le_trans HL_qg.out (by omega)) hc_qg).mono ?_
  rintro e w40 ⟨A_ym, c_ym, rfl, hc_ym, h_ym, hb⟩
  have H_ym := Lib.hid h_ym
  have HL_ym : Hid ((dig ((dmq (val [0, 18446744073709551614, 9223372036854775808]) (val [18446744073709551615, 9223372036854775808])) * val [18446744073709551615, 9223372036854775808])).length ≤ 5) := by
    have hl := And.intro (dig_length_le (k := 5) (n := (dmq (val [0, 18446744073709551614, 9223372036854775808]) (val [18446744073709551615, 9223372036854775808])) * val [18446744073709551615, 9223372036854775808]) (by rw [B64_eq]; decide +kernel)) (Nat.le_refl 0)
    show _ ≤ _
    omega
  clear h_ym
  have HB40 := Lib.hid hb
  have HT40 := Lib.hid (HT39.out.trans (HB40.out.mono HT39.out.size))
  clear hb
  go_wp2_with fail
  refine (add_v w40 A_ym A_qh c_ym c_qh (dig ((dmq (val [0, 18446744073709551614, 9223372036854775808]) (val [18446744073709551615, 9223372036854775808])) * val [18446744073709551615, 9223372036854775808])) (dig (dmr (val [0, 18446744073709551614, 9223372036854775808]) (val [18446744073709551615, 9223372036854775808]))) ((dmq (val [0, 18446744073709551614, 9223372036854775808]) (val [18446744073709551615, 9223372036854775808])) * val [18446744073709551615, 9223372036854775808]) (dmr (val [0, 18446744073709551614, 9223372036854775808]) (val [18446744073709551615, 9223372036854775808])) H_ym.out (((((((((H_qh.out.below HB32.out).below HB33.out).below HB34.out).below HB35.out).below HB36.out).below HB37.out).below HB38.out).below HB39.out).below HB40.out) (val_dig _) (val_dig _) (Nat.le_trans HL_ym.out (by omega)) (Nat.le_trans HL_qh.out (by omega)) hc_ym hc_qh).mono ?_
  rintro e w41 ⟨A_ys, c_ys, rfl, hc_ys, h_ys, hb⟩
  have H_ys := Lib.hid h_ys
  have HL_ys : Hid ((dig ((dmq (val [0, 18446744073709551614, 9223372036854775808]) (val [18446744073709551615, 9223372036854775808])) * val [18446744073709551615, 9223372036854775808] + (dmr (val [0, 18446744073709551614, 9223372036854775808]) (val [18446744073709551615, 9223372036854775808])))).length ≤ 5) := by
    have hl := And.intro (dig_length_le (k := 5) (n := (dmq (val [0, 18446744073709551614, 9223372036854775808]) (val [18446744073709551615, 9223372036854775808])) * val [18446744073709551615, 9223372036854775808] + (dmr (val [0, 18446744073709551614, 9223372036854775808]) (val [18446744073709551615, 9223372036854775808]))) (by rw [B64_eq]; decide +kernel)) (Nat.le_refl 0)
    show _ ≤ _
    omega
  clear h_ys
  have HB41 := Lib.hid hb
  have HT41 := Lib.hid (HT40.out.trans (HB41.out.mono HT40.out.size))
  clear hb
  go_wp2_with fail
  refine (is_lit w41 A_ys c_ys _ 3 [0, 18446744073709551614, 9223372036854775808] _ rfl rfl H_ys.out (digs_lit (by decide +kernel)) (by decide +kernel) (by decide) (by omega)).mono ?_
  rintro e w42 ⟨rfl, hb⟩
  have HB42 := Lib.hid hb
  have HT42 := Lib.hid (HT41.out.trans (HB42.out.mono HT41.out.size))
  clear hb
  go_wp2_with fail
  refine (cmp_vl w42 A_qh c_qh _ [18446744073709551615, 9223372036854775808] 2 _ rfl rfl (digs_lit (by decide +kernel)) (by omega) (((((((((((H_qh.out.below HB32.out).below HB33.out).below HB34.out).below HB35.out).below HB36.out).below HB37.out).below HB38.out).below HB39.out).below HB40.out).below HB41.out).below HB42.out) (Nat.le_trans HL_qh.out (by omega)) hc_qh (-1) (by decide +kernel)).mono ?_
  rintro e w43 ⟨rfl, hb⟩
  have HB43 := Lib.hid hb
  have HT43 := Lib.hid (HT42.out.trans (HB43.out.mono HT42.out.size))
  clear hb
  go_wp2_with fail
  refine (gcd_nl w43 [4] 1 _ rfl rfl (digs_lit (by decide +kernel)) (by omega)).mono ?_
  rintro e w44 ⟨A_z1, c_z1, rfl, hc_z1, h_z1, hb⟩
  have H_z1 := Lib.hid h_z1
  have HL_z1 : Hid ((dig (Nat.gcd 0 (val [4]))).length ≤ 1) := by
    have hl := And.intro (dig_length_le (k := 1) (n := Nat.gcd 0 (val [4])) (by rw [B64_eq]; decide +kernel)) (Nat.le_refl 0)
    show _ ≤ _
    omega
  clear h_z1
  have HB44 := Lib.hid hb
  have HT44 := Lib.hid (HT43.out.trans (HB44.out.mono HT43.out.size))
  clear hb
  go_wp2_with fail
  refine (is_lit w44 A_z1 c_z1 _ 1 [4] _ rfl rfl H_z1.out (digs_lit (by decide +kernel)) (by decide +kernel) (by decide) (by omega)).mono ?_
  rintro e w45 ⟨rfl, hb⟩
  have HB45 := Lib.hid hb
  have HT45 := Lib.hid (HT44.out.trans (HB45.out.mono HT44.out.size))
  clear hb
  go_wp2_with fail
  refine (gcd_nn w45).mono ?_
  rintro e w46 ⟨A_z2, c_z2, rfl, hc_z2, h_z2, hb⟩
  have H_z2 := Lib.hid h_z2
  have HL_z2 : Hid ((dig (Nat.gcd 0 0)).length ≤ 1) := by
    have hl := And.intro (dig_length_le (k := 1) (n := Nat.gcd 0 0) (by rw [B64_eq]; decide +kernel)) (Nat.le_refl 0)
    show _ ≤ _
    omega
  clear h_z2
  have HB46 := Lib.hid hb
  have HT46 := Lib.hid (HT45.out.trans (HB46.out.mono HT45.out.size))
  clear hb
  go_wp2_with fail
  refine (is_nil w46 A_z2 c_z2 _ (by decide +kernel)).mono ?_
  rintro e w47 ⟨rfl, hb⟩
  have HB47 := Lib.hid hb
  have HT47 := Lib.hid (HT46.out.trans (HB47.out.mono HT46.out.size))
  clear hb
  go_wp2_with fail
  refine (awake_any w47).mono ?_
  rintro e w48 ⟨rfl, hb⟩
  have HB48 := Lib.hid hb
  have HT48 := Lib.hid (HT47.out.trans (HB48.out.mono HT47.out.size))
  clear hb
  go_wp2_with fail
  go_ret
  exact ⟨rfl, HT48.out⟩
end Go.Proofs.Ytmkmlcpffplnnaa
