/- ratio's law: awake. -/
import Derived.Test.YtbbncggaaibheaaGreatDoorQOps
import Derived.Test.YtbbncggaaibheaaGreatDoorRAdd
namespace Go.Proofs.YtbbncggaaibheaaGreatDoor.Q
open Go.RowKit
open Go.Proofs.YtbbncggaaibheaaGreatDoor.D (textOf parseV Tab RetS text_parse)

theorem ql_of {n d : Int} (h1 : -9223372036854775808 ≤ n) (h2 : n ≤ 9223372036854775807) (h3 : -9223372036854775808 ≤ d) (h4 : d ≤ 9223372036854775807) : ql (Rat.divInt n d) ≤ 1 := by
  have hn := zl_small h1 h2
  have hd := zl_small h3 h4
  rcases Int.lt_trichotomy d 0 with h | h | h
  · rw [← Rat.neg_divInt_neg]
    refine Nat.le_trans (ql_div (by omega)) ?_
    rw [zl_neg, zl_neg]
    omega
  · rw [h, Rat.divInt_zero]
    show max (zl 0) (dig 1).length ≤ 1
    have e1 : zl 0 ≤ 1 := zl_small (by omega) (by omega)
    have e2 : (dig 1).length ≤ 1 := dig_length_le (by rw [B64_eq]; omega)
    omega
  · refine Nat.le_trans (ql_div h) ?_
    omega
theorem tx_whole {q : Rat} (n : Int) (l : List UInt8) (h1 : q.den = 1) (h2 : q.num = n) (h : parseV l = (n, 0)) : qtext q = l := by
  unfold qtext
  rw [if_pos h1, h2]
  exact text_parse h
theorem tx_part {q : Rat} (n : Int) (d : Nat) (a b : List UInt8) (h1 : q.den = d) (hd : d ≠ 1) (h2 : q.num = n) (ha : parseV a = (n, 0)) (hb : parseV b = ((d : Int), 0)) : qtext q = a ++ 47 :: b := by
  unfold qtext
  rw [if_neg (by omega), h2, h1, text_parse ha, text_parse hb]

theorem field_den (s t : Bool) (A B : Option Addr) (n c m d : Nat) (w : World) : (Instr.field 28 (.agg #[.bool s, .slice A n c, .bool t, .slice B m d]) 1).run Tryz.prog w = .ok (.agg #[.bool t, .slice B m d]) w := by kernel_rfl
theorem field_abs (t : Bool) (B : Option Addr) (m d : Nat) (w : World) : (Instr.field 25 (.agg #[.bool t, .slice B m d]) 1).run Tryz.prog w = .ok (.slice B m d) w := by kernel_rfl

set_option maxRecDepth 100000 in
set_option maxHeartbeats 4000000 in
theorem awake_q (w : World) (htab : Tab w) : Calls Tryz.prog 28 #[] w (RetB w true) := by
  obtain ⟨q11, he_q11⟩ : ∃ v : Rat, Rat.divInt (1) (1) = v := ⟨_, rfl⟩
  have HE_q11 := Lib.hid he_q11
  have HL_q11 : Hid (ql q11 ≤ 1) := by
    show _ ≤ _
    have h := ql_of (n := 1) (d := 1) (by omega) (by omega) (by omega) (by omega)
    rw [he_q11] at h
    omega
  obtain ⟨q01, he_q01⟩ : ∃ v : Rat, Rat.divInt (0) (1) = v := ⟨_, rfl⟩
  have HE_q01 := Lib.hid he_q01
  have HL_q01 : Hid (ql q01 ≤ 1) := by
    show _ ≤ _
    have h := ql_of (n := 0) (d := 1) (by omega) (by omega) (by omega) (by omega)
    rw [he_q01] at h
    omega
  obtain ⟨qd, he_qd⟩ : ∃ v : Rat, q11 / q01 = v := ⟨_, rfl⟩
  have HE_qd := Lib.hid he_qd
  have HL_qd : Hid (ql qd ≤ 2) := by
    show _ ≤ _
    have h := (Nat.le_trans (ql_quo q11 q01) (by have := HL_q11.out; have := HL_q01.out; omega) : ql (q11 / q01) ≤ 2)
    rw [he_qd] at h
    omega
  obtain ⟨q64, he_q64⟩ : ∃ v : Rat, Rat.divInt (6) (-4) = v := ⟨_, rfl⟩
  have HE_q64 := Lib.hid he_q64
  have HL_q64 : Hid (ql q64 ≤ 1) := by
    show _ ≤ _
    have h := ql_of (n := 6) (d := -4) (by omega) (by omega) (by omega) (by omega)
    rw [he_q64] at h
    omega
  obtain ⟨q42, he_q42⟩ : ∃ v : Rat, Rat.divInt (4) (2) = v := ⟨_, rfl⟩
  have HE_q42 := Lib.hid he_q42
  have HL_q42 : Hid (ql q42 ≤ 1) := by
    show _ ≤ _
    have h := ql_of (n := 4) (d := 2) (by omega) (by omega) (by omega) (by omega)
    rw [he_q42] at h
    omega
  obtain ⟨q10, he_q10⟩ : ∃ v : Rat, Rat.divInt (1) (0) = v := ⟨_, rfl⟩
  have HE_q10 := Lib.hid he_q10
  have HL_q10 : Hid (ql q10 ≤ 1) := by
    show _ ≤ _
    have h := ql_of (n := 1) (d := 0) (by omega) (by omega) (by omega) (by omega)
    rw [he_q10] at h
    omega
  obtain ⟨q12, he_q12⟩ : ∃ v : Rat, Rat.divInt (1) (2) = v := ⟨_, rfl⟩
  have HE_q12 := Lib.hid he_q12
  have HL_q12 : Hid (ql q12 ≤ 1) := by
    show _ ≤ _
    have h := ql_of (n := 1) (d := 2) (by omega) (by omega) (by omega) (by omega)
    rw [he_q12] at h
    omega
  obtain ⟨q13, he_q13⟩ : ∃ v : Rat, Rat.divInt (1) (3) = v := ⟨_, rfl⟩
  have HE_q13 := Lib.hid he_q13
  have HL_q13 : Hid (ql q13 ≤ 1) := by
    show _ ≤ _
    have h := ql_of (n := 1) (d := 3) (by omega) (by omega) (by omega) (by omega)
    rw [he_q13] at h
    omega
  obtain ⟨qm14, he_qm14⟩ : ∃ v : Rat, Rat.divInt (-1) (4) = v := ⟨_, rfl⟩
  have HE_qm14 := Lib.hid he_qm14
  have HL_qm14 : Hid (ql qm14 ≤ 1) := by
    show _ ≤ _
    have h := ql_of (n := -1) (d := 4) (by omega) (by omega) (by omega) (by omega)
    rw [he_qm14] at h
    omega
  obtain ⟨qa, he_qa⟩ : ∃ v : Rat, q12 + q13 = v := ⟨_, rfl⟩
  have HE_qa := Lib.hid he_qa
  have HL_qa : Hid (ql qa ≤ 5) := by
    show _ ≤ _
    have h := (Nat.le_trans (ql_add q12 q13) (by have := HL_q12.out; have := HL_q13.out; omega) : ql (q12 + q13) ≤ 5)
    rw [he_qa] at h
    omega
  obtain ⟨qb, he_qb⟩ : ∃ v : Rat, q12 + q12 = v := ⟨_, rfl⟩
  have HE_qb := Lib.hid he_qb
  have HL_qb : Hid (ql qb ≤ 5) := by
    show _ ≤ _
    have h := (Nat.le_trans (ql_add q12 q12) (by have := HL_q12.out; have := HL_q12.out; omega) : ql (q12 + q12) ≤ 5)
    rw [he_qb] at h
    omega
  obtain ⟨qc, he_qc⟩ : ∃ v : Rat, q12 / qm14 = v := ⟨_, rfl⟩
  have HE_qc := Lib.hid he_qc
  have HL_qc : Hid (ql qc ≤ 2) := by
    show _ ≤ _
    have h := (Nat.le_trans (ql_quo q12 qm14) (by have := HL_q12.out; have := HL_qm14.out; omega) : ql (q12 / qm14) ≤ 2)
    rw [he_qc] at h
    omega
  have TX_64 : Hid (qtext q64 = [45, 51, 47, 50]) := by
    show _ = _
    exact tx_part (-3) 2 [45, 51] [50] (by rw [← he_q64]; kernel_rfl) (by decide) (by rw [← he_q64]; kernel_rfl) (by kernel_rfl) (by kernel_rfl)
  have TX_42 : Hid (qtext q42 = [50]) := by
    show _ = _
    exact tx_whole (2) [50] (by rw [← he_q42]; kernel_rfl) (by rw [← he_q42]; kernel_rfl) (by kernel_rfl)
  have TX_10 : Hid (qtext q10 = [48]) := by
    show _ = _
    exact tx_whole (0) [48] (by rw [← he_q10]; kernel_rfl) (by rw [← he_q10]; kernel_rfl) (by kernel_rfl)
  have TX_a : Hid (qtext qa = [53, 47, 54]) := by
    show _ = _
    exact tx_part (5) 6 [53] [54] (by rw [← he_qa, ← he_q12, ← he_q13]; kernel_rfl) (by decide) (by rw [← he_qa, ← he_q12, ← he_q13]; kernel_rfl) (by kernel_rfl) (by kernel_rfl)
  have TX_b : Hid (qtext qb = [49]) := by
    show _ = _
    exact tx_whole (1) [49] (by rw [← he_qb, ← he_q12]; kernel_rfl) (by rw [← he_qb, ← he_q12]; kernel_rfl) (by kernel_rfl)
  have TX_c : Hid (qtext qc = [45, 50]) := by
    show _ = _
    exact tx_whole (-2) [45, 50] (by rw [← he_qc, ← he_q12, ← he_qm14]; kernel_rfl) (by rw [← he_qc, ← he_q12, ← he_qm14]; kernel_rfl) (by kernel_rfl)
  have HC : Hid ((if q01 = 0 then 10 else 0 : Int) = 10) := by show _ = _; rw [if_pos (by rw [← he_q01]; rfl)]
  have HPV : Hid (qparse [45, 54, 47, 52] = (q64, 0)) := by show _ = _; rw [← he_q64]; kernel_rfl
  have HM42 : Hid (dden q42 = []) := by show _ = _; unfold dden; rw [if_pos (by rw [← he_q42]; rfl)]
  clear he_q11 he_q01 he_qd he_q64 he_q42 he_q10 he_q12 he_q13 he_qm14 he_qa he_qb he_qc
  have HT := Lib.hid htab
  have HB : Hid (Below w.heap.size w w) := Below.refl _ _
  clear htab
  go_enter Tryz.func28, Tryz.ntmps28
  go_wp2_with fail
  refine (of_q _ (1) (1) (by omega) (by omega) (by omega) (by omega) q11 HE_q11.out).mono ?_
  rintro e w1 ⟨s_x1, A_x1, n_x1, c_x1, t_x1, B_x1, m_x1, d_x1, rfl, h_x1, hbx⟩
  replace HB := Lib.hid (below_on HB.out hbx)
  have H_x1 := Lib.hid h_x1
  clear hbx
  go_wp2_with fail
  refine (of_q _ (0) (1) (by omega) (by omega) (by omega) (by omega) q01 HE_q01.out).mono ?_
  rintro e w2 ⟨s_x2, A_x2, n_x2, c_x2, t_x2, B_x2, m_x2, d_x2, rfl, h_x2, hbx⟩
  replace HB := Lib.hid (below_on HB.out hbx)
  replace H_x1 := Lib.hid (H_x1.out.below hbx)
  have H_x2 := Lib.hid h_x2
  clear hbx
  go_wp2_with fail
  refine (div_q (H_x1.out.isq (k := 700) (Nat.le_trans HL_q11.out (by omega))) (H_x2.out.isq (k := 700) (Nat.le_trans HL_q01.out (by omega))) (by omega) (by omega) qd 10 HE_qd.out HC.out).mono ?_
  rintro e w3 ⟨s_x3, A_x3, n_x3, c_x3, t_x3, B_x3, m_x3, d_x3, rfl, h_x3, hbx⟩
  replace HB := Lib.hid (below_on HB.out hbx)
  replace H_x1 := Lib.hid (H_x1.out.below hbx)
  replace H_x2 := Lib.hid (H_x2.out.below hbx)
  clear hbx
  clear h_x3
  clear H_x1 H_x2
  obtain ⟨V3, hV3⟩ : ∃ V, w3.alloc (.cells #[.bool s_x3, .slice A_x3 n_x3 c_x3, .bool t_x3, .slice B_x3 m_x3 d_x3] 28) = V := ⟨_, rfl⟩
  replace HB : Hid (Below w.heap.size w V3) := by rw [← hV3]; exact HB.out.alloc HB.out.size _
  go_wp2_with fail
  refine (parse_q _ [45, 54, 47, 52] q64 0 HPV.out (by simp)).mono ?_
  rintro e w4 ⟨s_x4, A_x4, n_x4, c_x4, t_x4, B_x4, m_x4, d_x4, rfl, h_x4, hbx⟩
  replace HB := Lib.hid (below_on HB.out hbx)
  clear hbx
  clear hV3
  obtain ⟨V4, hV4⟩ : ∃ V, w4.alloc (.cells #[.bool s_x4, .slice A_x4 n_x4 c_x4, .bool t_x4, .slice B_x4 m_x4 d_x4] 28) = V := ⟨_, rfl⟩
  have HI : Hid (Qbx V4 w4.heap.size s_x4 A_x4 n_x4 c_x4 t_x4 B_x4 m_x4 d_x4) := by rw [← hV4]; exact Qbx.new _ _ rfl
  have H_x4 : Hid (OneQ V4 s_x4 A_x4 n_x4 c_x4 t_x4 B_x4 m_x4 d_x4 q64) := by rw [← hV4]; exact h_x4.alloc _
  replace HB : Hid (Below w.heap.size w V4) := by rw [← hV4]; exact HB.out.alloc HB.out.size _
  clear h_x4
  go_wp2_with fail
  refine (of_q _ (6) (-4) (by omega) (by omega) (by omega) (by omega) q64 HE_q64.out).mono ?_
  rintro e w5 ⟨s_y1, A_y1, n_y1, c_y1, t_y1, B_y1, m_y1, d_y1, rfl, h_y1, hbx⟩
  replace HB := Lib.hid (below_on HB.out hbx)
  replace H_x4 := Lib.hid (H_x4.out.below hbx)
  replace HI := Lib.hid (HI.out.below hbx)
  have H_y1 := Lib.hid h_y1
  clear hV4
  clear hbx
  go_wp2_with fail
  refine (is_q H_y1.out (Nat.le_trans HL_q64.out (by omega)) (HT.out.below HB.out) _ TX_64.out).mono ?_
  rintro e w6 ⟨rfl, hbx⟩
  replace HB := Lib.hid (below_on HB.out hbx)
  replace H_x4 := Lib.hid (H_x4.out.below hbx)
  replace H_y1 := Lib.hid (H_y1.out.below hbx)
  replace HI := Lib.hid (HI.out.below hbx)
  clear hbx
  go_wp2_with fail
  clear H_y1
  refine (of_q _ (4) (2) (by omega) (by omega) (by omega) (by omega) q42 HE_q42.out).mono ?_
  rintro e w7 ⟨s_y2, A_y2, n_y2, c_y2, t_y2, B_y2, m_y2, d_y2, rfl, h_y2, hbx⟩
  replace HB := Lib.hid (below_on HB.out hbx)
  replace H_x4 := Lib.hid (H_x4.out.below hbx)
  replace HI := Lib.hid (HI.out.below hbx)
  have H_y2 := Lib.hid h_y2
  clear hbx
  go_wp2_with fail
  refine (is_q H_y2.out (Nat.le_trans HL_q42.out (by omega)) (HT.out.below HB.out) _ TX_42.out).mono ?_
  rintro e w8 ⟨rfl, hbx⟩
  replace HB := Lib.hid (below_on HB.out hbx)
  replace H_x4 := Lib.hid (H_x4.out.below hbx)
  replace H_y2 := Lib.hid (H_y2.out.below hbx)
  replace HI := Lib.hid (HI.out.below hbx)
  clear hbx
  go_wp2_with fail
  clear H_y2
  refine (of_q _ (4) (2) (by omega) (by omega) (by omega) (by omega) q42 HE_q42.out).mono ?_
  rintro e w9 ⟨s_y3, A_y3, n_y3, c_y3, t_y3, B_y3, m_y3, d_y3, rfl, h_y3, hbx⟩
  replace HB := Lib.hid (below_on HB.out hbx)
  replace H_x4 := Lib.hid (H_x4.out.below hbx)
  replace HI := Lib.hid (HI.out.below hbx)
  have H_y3 := Lib.hid h_y3
  clear hbx
  have hm0 : ((m_y3 : Int) == 0) = true := by have h := h_y3.em; rw [HM42.out] at h; rw [h]; rfl
  have hfd := field_den s_y3 t_y3 A_y3 B_y3 n_y3 c_y3 m_y3 d_y3
  have hfa := field_abs t_y3 B_y3 m_y3 d_y3
  go_wp2_with fail
  clear hfd hfa hm0
  clear H_y3
  refine (of_q _ (1) (0) (by omega) (by omega) (by omega) (by omega) q10 HE_q10.out).mono ?_
  rintro e w10 ⟨s_y4, A_y4, n_y4, c_y4, t_y4, B_y4, m_y4, d_y4, rfl, h_y4, hbx⟩
  replace HB := Lib.hid (below_on HB.out hbx)
  replace H_x4 := Lib.hid (H_x4.out.below hbx)
  replace HI := Lib.hid (HI.out.below hbx)
  have H_y4 := Lib.hid h_y4
  clear hbx
  go_wp2_with fail
  refine (is_q H_y4.out (Nat.le_trans HL_q10.out (by omega)) (HT.out.below HB.out) _ TX_10.out).mono ?_
  rintro e w11 ⟨rfl, hbx⟩
  replace HB := Lib.hid (below_on HB.out hbx)
  replace H_x4 := Lib.hid (H_x4.out.below hbx)
  replace H_y4 := Lib.hid (H_y4.out.below hbx)
  replace HI := Lib.hid (HI.out.below hbx)
  clear hbx
  go_wp2_with fail
  clear H_y4
  refine (of_q _ (1) (2) (by omega) (by omega) (by omega) (by omega) q12 HE_q12.out).mono ?_
  rintro e w12 ⟨s_y5, A_y5, n_y5, c_y5, t_y5, B_y5, m_y5, d_y5, rfl, h_y5, hbx⟩
  replace HB := Lib.hid (below_on HB.out hbx)
  replace H_x4 := Lib.hid (H_x4.out.below hbx)
  replace HI := Lib.hid (HI.out.below hbx)
  have H_y5 := Lib.hid h_y5
  clear hbx
  go_wp2_with fail
  refine (of_q _ (1) (3) (by omega) (by omega) (by omega) (by omega) q13 HE_q13.out).mono ?_
  rintro e w13 ⟨s_y6, A_y6, n_y6, c_y6, t_y6, B_y6, m_y6, d_y6, rfl, h_y6, hbx⟩
  replace HB := Lib.hid (below_on HB.out hbx)
  replace H_x4 := Lib.hid (H_x4.out.below hbx)
  replace H_y5 := Lib.hid (H_y5.out.below hbx)
  replace HI := Lib.hid (HI.out.below hbx)
  have H_y6 := Lib.hid h_y6
  clear hbx
  go_wp2_with fail
  refine (add_q (H_y5.out.isq (k := 700) (Nat.le_trans HL_q12.out (by omega))) (H_y6.out.isq (k := 700) (Nat.le_trans HL_q13.out (by omega))) (by omega) (by omega) qa HE_qa.out).mono ?_
  rintro e w14 ⟨s_y7, A_y7, n_y7, c_y7, t_y7, B_y7, m_y7, d_y7, rfl, h_y7, hbx⟩
  replace HB := Lib.hid (below_on HB.out hbx)
  replace H_x4 := Lib.hid (H_x4.out.below hbx)
  replace H_y5 := Lib.hid (H_y5.out.below hbx)
  replace H_y6 := Lib.hid (H_y6.out.below hbx)
  replace HI := Lib.hid (HI.out.below hbx)
  have H_y7 := Lib.hid h_y7
  clear hbx
  go_wp2_with fail
  refine (is_q H_y7.out (Nat.le_trans HL_qa.out (by omega)) (HT.out.below HB.out) _ TX_a.out).mono ?_
  rintro e w15 ⟨rfl, hbx⟩
  replace HB := Lib.hid (below_on HB.out hbx)
  replace H_x4 := Lib.hid (H_x4.out.below hbx)
  replace H_y5 := Lib.hid (H_y5.out.below hbx)
  replace H_y6 := Lib.hid (H_y6.out.below hbx)
  replace H_y7 := Lib.hid (H_y7.out.below hbx)
  replace HI := Lib.hid (HI.out.below hbx)
  clear hbx
  go_wp2_with fail
  clear H_y5 H_y6 H_y7
  refine (of_q _ (1) (2) (by omega) (by omega) (by omega) (by omega) q12 HE_q12.out).mono ?_
  rintro e w16 ⟨s_z1, A_z1, n_z1, c_z1, t_z1, B_z1, m_z1, d_z1, rfl, h_z1, hbx⟩
  replace HB := Lib.hid (below_on HB.out hbx)
  replace H_x4 := Lib.hid (H_x4.out.below hbx)
  replace HI := Lib.hid (HI.out.below hbx)
  have H_z1 := Lib.hid h_z1
  clear hbx
  go_wp2_with fail
  refine (of_q _ (1) (2) (by omega) (by omega) (by omega) (by omega) q12 HE_q12.out).mono ?_
  rintro e w17 ⟨s_z2, A_z2, n_z2, c_z2, t_z2, B_z2, m_z2, d_z2, rfl, h_z2, hbx⟩
  replace HB := Lib.hid (below_on HB.out hbx)
  replace H_x4 := Lib.hid (H_x4.out.below hbx)
  replace H_z1 := Lib.hid (H_z1.out.below hbx)
  replace HI := Lib.hid (HI.out.below hbx)
  have H_z2 := Lib.hid h_z2
  clear hbx
  go_wp2_with fail
  refine (add_q (H_z1.out.isq (k := 700) (Nat.le_trans HL_q12.out (by omega))) (H_z2.out.isq (k := 700) (Nat.le_trans HL_q12.out (by omega))) (by omega) (by omega) qb HE_qb.out).mono ?_
  rintro e w18 ⟨s_z3, A_z3, n_z3, c_z3, t_z3, B_z3, m_z3, d_z3, rfl, h_z3, hbx⟩
  replace HB := Lib.hid (below_on HB.out hbx)
  replace H_x4 := Lib.hid (H_x4.out.below hbx)
  replace H_z1 := Lib.hid (H_z1.out.below hbx)
  replace H_z2 := Lib.hid (H_z2.out.below hbx)
  replace HI := Lib.hid (HI.out.below hbx)
  have H_z3 := Lib.hid h_z3
  clear hbx
  go_wp2_with fail
  refine (is_q H_z3.out (Nat.le_trans HL_qb.out (by omega)) (HT.out.below HB.out) _ TX_b.out).mono ?_
  rintro e w19 ⟨rfl, hbx⟩
  replace HB := Lib.hid (below_on HB.out hbx)
  replace H_x4 := Lib.hid (H_x4.out.below hbx)
  replace H_z1 := Lib.hid (H_z1.out.below hbx)
  replace H_z2 := Lib.hid (H_z2.out.below hbx)
  replace H_z3 := Lib.hid (H_z3.out.below hbx)
  replace HI := Lib.hid (HI.out.below hbx)
  clear hbx
  go_wp2_with fail
  clear H_z1 H_z2 H_z3
  refine (of_q _ (1) (2) (by omega) (by omega) (by omega) (by omega) q12 HE_q12.out).mono ?_
  rintro e w20 ⟨s_u1, A_u1, n_u1, c_u1, t_u1, B_u1, m_u1, d_u1, rfl, h_u1, hbx⟩
  replace HB := Lib.hid (below_on HB.out hbx)
  replace H_x4 := Lib.hid (H_x4.out.below hbx)
  replace HI := Lib.hid (HI.out.below hbx)
  have H_u1 := Lib.hid h_u1
  clear hbx
  go_wp2_with fail
  refine (of_q _ (-1) (4) (by omega) (by omega) (by omega) (by omega) qm14 HE_qm14.out).mono ?_
  rintro e w21 ⟨s_u2, A_u2, n_u2, c_u2, t_u2, B_u2, m_u2, d_u2, rfl, h_u2, hbx⟩
  replace HB := Lib.hid (below_on HB.out hbx)
  replace H_x4 := Lib.hid (H_x4.out.below hbx)
  replace H_u1 := Lib.hid (H_u1.out.below hbx)
  replace HI := Lib.hid (HI.out.below hbx)
  have H_u2 := Lib.hid h_u2
  clear hbx
  go_wp2_with fail
  refine (quo_q (H_u1.out.isq (k := 700) (Nat.le_trans HL_q12.out (by omega))) (H_u2.out.isq (k := 700) (Nat.le_trans HL_qm14.out (by omega))) (by omega) (by omega) qc HE_qc.out).mono ?_
  rintro e w22 ⟨s_u3, A_u3, n_u3, c_u3, t_u3, B_u3, m_u3, d_u3, rfl, h_u3, hbx⟩
  replace HB := Lib.hid (below_on HB.out hbx)
  replace H_x4 := Lib.hid (H_x4.out.below hbx)
  replace H_u1 := Lib.hid (H_u1.out.below hbx)
  replace H_u2 := Lib.hid (H_u2.out.below hbx)
  replace HI := Lib.hid (HI.out.below hbx)
  have H_u3 := Lib.hid h_u3
  clear hbx
  go_wp2_with fail
  refine (is_q H_u3.out (Nat.le_trans HL_qc.out (by omega)) (HT.out.below HB.out) _ TX_c.out).mono ?_
  rintro e w23 ⟨rfl, hbx⟩
  replace HB := Lib.hid (below_on HB.out hbx)
  replace H_x4 := Lib.hid (H_x4.out.below hbx)
  replace H_u1 := Lib.hid (H_u1.out.below hbx)
  replace H_u2 := Lib.hid (H_u2.out.below hbx)
  replace H_u3 := Lib.hid (H_u3.out.below hbx)
  replace HI := Lib.hid (HI.out.below hbx)
  clear hbx
  clear H_u1 H_u2 H_u3
  have k0 := HI.out.c0
  have k1 := HI.out.c1
  have k2 := HI.out.c2
  have k3 := HI.out.c3
  go_wp2_with fail
  refine (is_q H_x4.out (Nat.le_trans HL_q64.out (by omega)) (HT.out.below HB.out) _ TX_64.out).mono ?_
  rintro e w24 ⟨rfl, hbx⟩
  replace HB := Lib.hid (below_on HB.out hbx)
  replace H_x4 := Lib.hid (H_x4.out.below hbx)
  replace HI := Lib.hid (HI.out.below hbx)
  clear hbx
  go_wp2_with fail
  go_ret
  exact ⟨rfl, HB.out⟩
end Go.Proofs.YtbbncggaaibheaaGreatDoor.Q