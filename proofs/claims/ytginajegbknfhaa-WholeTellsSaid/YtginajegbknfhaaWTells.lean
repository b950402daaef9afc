/- WholeTells: its walk. -/
import Derived.Test.YtginajegbknfhaaWTellsZ
namespace Go.Proofs.Ytginajegbknfhaa
open Go.RowKit

theorem zl_gcd (y z : Int) : zl ((Nat.gcd y.natAbs z.natAbs : Nat) : Int) ≤ max (zl y) (zl z) := by unfold zl; rw [Int.natAbs_natCast]; exact dl_gcd _ _

set_option maxRecDepth 100000 in
set_option maxHeartbeats 32000000 in
theorem wtells_core (w : World) (s t : Bool) (A B : Option Addr) (ca cb : Nat) (xs ys : List Nat) (a b : Int) (ha : Num w A xs) (hb : Num w B ys) (hva : zv s (val xs) = a) (hvb : zv t (val ys) = b) (hac : xs.length ≤ ca) (hbc : ys.length ≤ cb) (n : Int) (hn1 : -9223372036854775808 ≤ n) (hn2 : n ≤ 9223372036854775807) (hAn : A = none → ca = 0) (hBn : B = none → cb = 0) (l1 : xs.length ≤ 12) (l2 : ys.length ≤ 12) :
    Calls Try.prog 5 #[.agg #[.bool s, .slice A xs.length ca], .agg #[.bool t, .slice B ys.length cb], .int .i64 n] w (RetB w true) := by
  have HAn := Lib.hid hAn
  have HBn := Lib.hid hBn
  clear hAn hBn
  have HVa := Lib.hid hva
  have HVb := Lib.hid hvb
  have HL_a : Hid (zl a ≤ 12) := Nat.le_trans (zl_val ha.1 hva) l1
  have HL_b : Hid (zl b ≤ 12) := Nat.le_trans (zl_val hb.1 hvb) l2
  have Ha := Lib.hid ha
  have Hb := Lib.hid hb
  clear ha hb hva hvb
  obtain ⟨q, he_q⟩ : ∃ v : Int, a / b = v := ⟨_, rfl⟩
  have HL_q : Hid (zl q ≤ 14) := by
    have h := And.intro (zl_div a b) HL_a.out
    rw [he_q] at h
    show _ ≤ _
    omega
  have HE_q := Lib.hid he_q
  clear he_q
  obtain ⟨r, he_r⟩ : ∃ v : Int, zrem a b = v := ⟨_, rfl⟩
  have HL_r : Hid (zl r ≤ 12) := by
    have h := And.intro (zl_rem a b) (And.intro HL_a.out HL_b.out)
    rw [he_r] at h
    show _ ≤ _
    omega
  have HE_r := Lib.hid he_r
  clear he_r
  obtain ⟨s1, he_s1⟩ : ∃ v : Int, a + b = v := ⟨_, rfl⟩
  have HL_s1 : Hid (zl s1 ≤ 25) := by
    have h := And.intro (zl_add a b) (And.intro HL_a.out HL_b.out)
    rw [he_s1] at h
    show _ ≤ _
    omega
  have HE_s1 := Lib.hid he_s1
  clear he_s1
  obtain ⟨d1, he_d1⟩ : ∃ v : Int, a - b = v := ⟨_, rfl⟩
  have HL_d1 : Hid (zl d1 ≤ 25) := by
    have h := And.intro (zl_sub a b) (And.intro HL_a.out HL_b.out)
    rw [he_d1] at h
    show _ ≤ _
    omega
  have HE_d1 := Lib.hid he_d1
  clear he_d1
  obtain ⟨m1, he_m1⟩ : ∃ v : Int, a * b = v := ⟨_, rfl⟩
  have HL_m1 : Hid (zl m1 ≤ 24) := by
    have h := And.intro (zl_mul a b) (And.intro HL_a.out HL_b.out)
    rw [he_m1] at h
    show _ ≤ _
    omega
  have HE_m1 := Lib.hid he_m1
  clear he_m1
  obtain ⟨g1, he_g1⟩ : ∃ v : Int, ((Nat.gcd a.natAbs b.natAbs : Nat) : Int) = v := ⟨_, rfl⟩
  have HL_g1 : Hid (zl g1 ≤ 12) := by
    have h := And.intro (zl_gcd a b) (And.intro HL_a.out HL_b.out)
    rw [he_g1] at h
    show _ ≤ _
    omega
  have HE_g1 := Lib.hid he_g1
  clear he_g1
  obtain ⟨n1, he_n1⟩ : ∃ v : Int, -a = v := ⟨_, rfl⟩
  have HL_n1 : Hid (zl n1 ≤ 12) := by
    have h := And.intro (Nat.le_of_eq (zl_neg a)) HL_a.out
    rw [he_n1] at h
    show _ ≤ _
    omega
  have HE_n1 := Lib.hid he_n1
  clear he_n1
  obtain ⟨ab, he_ab⟩ : ∃ v : Int, ((a.natAbs : Nat) : Int) = v := ⟨_, rfl⟩
  have HL_ab : Hid (zl ab ≤ 12) := by
    have h := And.intro (Nat.le_of_eq (zl_abs a)) HL_a.out
    rw [he_ab] at h
    show _ ≤ _
    omega
  have HE_ab := Lib.hid he_ab
  clear he_ab
  obtain ⟨nn, he_nn⟩ : ∃ v : Int, n = v := ⟨_, rfl⟩
  have HLO_nn : Hid (-9223372036854775808 ≤ nn) := by show _ ≤ _; omega
  have HHI_nn : Hid (nn ≤ 9223372036854775807) := by show _ ≤ _; omega
  have HL_nn : Hid (zl nn ≤ 1) := zl_small HLO_nn.out HHI_nn.out
  have HE_nn := Lib.hid he_nn
  clear he_nn
  obtain ⟨sa, he_sa⟩ : ∃ v : Int, a.sign = v := ⟨_, rfl⟩
  have HE_sa := Lib.hid he_sa
  clear he_sa
  obtain ⟨kab, he_kab⟩ : ∃ v : Int, zcmp a b = v := ⟨_, rfl⟩
  have HE_kab := Lib.hid he_kab
  clear he_kab
  obtain ⟨sv, he_sv⟩ : ∃ v : Int, smallv a = v := ⟨_, rfl⟩
  have HE_sv := Lib.hid he_sv
  clear he_sv
  obtain ⟨sb, he_sb⟩ : ∃ v : Bool, smallb a = v := ⟨_, rfl⟩
  have HE_sb := Lib.hid he_sb
  clear he_sb
  go_enter Try.func5, Try.ntmps5
  go_wp2_with fail
  have HKc := Lib.hid (C4.base w (.bool s) (.slice A xs.length ca) (.bool t) (.slice B ys.length cb) 37 37)
  have HT0 : Hid (Below w.heap.size w ((w.alloc (.cells #[.bool s, .slice A xs.length ca] 37)).alloc (.cells #[.bool t, .slice B ys.length cb] 37))) := ((Below.refl _ _).alloc (Nat.le_refl _) _).alloc (by simp) _
  obtain ⟨w0, hw0⟩ : ∃ W, W = ((w.alloc (.cells #[.bool s, .slice A xs.length ca] 37)).alloc (.cells #[.bool t, .slice B ys.length cb] 37)) := ⟨_, rfl⟩
  rw [← hw0] at HKc HT0
  rw [← hw0]
  clear hw0
  have Na := Lib.hid (Ha.out.below HT0.out)
  have Nb := Lib.hid (Hb.out.below HT0.out)
  obtain ⟨k0, k1, k2, k3⟩ := HKc.out
  refine (short_t w0 s A xs.length ca 12 (by omega)).mono ?_
  rintro e w1 ⟨rfl, hbx⟩
  have HB1 := Lib.hid hbx
  have HT1 := Lib.hid (HT0.out.trans (HB1.out.mono HT0.out.size))
  have HS1 := HB1
  have HKc := Lib.hid (C4.below hbx HKc.out)
  obtain ⟨k0, k1, k2, k3⟩ := HKc.out
  clear hbx
  go_wp2_with fail
  refine (short_t w1 t B ys.length cb 12 (by omega)).mono ?_
  rintro e w2 ⟨rfl, hbx⟩
  have HB2 := Lib.hid hbx
  have HT2 := Lib.hid (HT1.out.trans (HB2.out.mono HT1.out.size))
  have HS2 := Lib.hid (HS1.out.trans (HB2.out.mono HS1.out.size))
  have HKc := Lib.hid (C4.below hbx HKc.out)
  obtain ⟨k0, k1, k2, k3⟩ := HKc.out
  clear hbx
  go_upto_region 3 with fail
  go_region_held3 (fun W => W.cell? ⟨w.heap.size, 0, none⟩ = some (.bool s) ∧ W.cell? ⟨w.heap.size, 1, none⟩ = some (.slice A xs.length ca) ∧ W.cell? ⟨w.heap.size + 1, 0, none⟩ = some (.bool t) ∧ W.cell? ⟨w.heap.size + 1, 1, none⟩ = some (.slice B ys.length cb))
   (first | exact HKc.out | exact C4.drew HKc.out)
   (first
    | (go_at_call 7; refine (copyw_any w3 B cb ys (Nb.out.below HS3.out) HBn.out (by omega)).mono ?_; rintro e w4 ⟨A_y, c_y, rfl, hc_y, h_y, hbx⟩; have HB4 := Lib.hid hbx; have HT4 := Lib.hid (HT3.out.trans (HB4.out.mono HT3.out.size)); have HS4 := Lib.hid (HS3.out.trans (HB4.out.mono HS3.out.size)); have H_y := Lib.hid h_y; clear h_y; have HKc := Lib.hid (C4.below hbx HKc.out))
    | (go_at_call 7; refine (copyw_any w2.drew A ca xs ((Na.out.below HS2.out)).drew HAn.out (by omega)).mono ?_; rintro e w3 ⟨A_x, c_x, rfl, hc_x, h_x, hbx⟩; have hbx := Below.of_drew hbx; have HB3 := Lib.hid hbx; have HT3 := Lib.hid (HT2.out.trans (HB3.out.mono HT2.out.size)); have HS3 := Lib.hid (HS2.out.trans (HB3.out.mono HS2.out.size)); have H_x := Lib.hid h_x; clear h_x; have HKc := Lib.hid (C4.below hbx HKc.out))
   )
  obtain ⟨k0, k1, k2, k3⟩ := HKc.out
  go_upto_region 5 with fail
  go_wp2_with fail
  refine (divmod_z w4 s t A B ca cb xs ys a b (Na.out.below HS4.out) (Nb.out.below HS4.out) HVa.out HVb.out (by omega) (by omega) hac hbc q r HE_q.out HE_r.out).mono ?_
  rintro e v5 ⟨A_Q1, c_Q1, A_R1, c_R1, rfl, hc_Q1, hc_R1, h_Q1, h_R1, hbx⟩
  have HBq := Lib.hid hbx
  have HKd := Lib.hid (C4.below hbx HKc.out)
  have HQn := Lib.hid h_Q1
  have HRn := Lib.hid h_R1
  clear h_Q1 h_R1 hbx
  go_upto_region 6 with fail
  have hC := C4.base v5 (.bool (zneg q)) (.slice A_Q1 (dig q.natAbs).length c_Q1) (.bool (zneg r)) (.slice A_R1 (dig r.natAbs).length c_R1) 37 37
  have hW : Below v5.heap.size v5 ((v5.alloc (.cells #[.bool (zneg q), .slice A_Q1 (dig q.natAbs).length c_Q1] 37)).alloc (.cells #[.bool (zneg r), .slice A_R1 (dig r.natAbs).length c_R1] 37)) := ((Below.refl _ _).alloc (Nat.le_refl _) _).alloc (by simp) _
  obtain ⟨w5, hw5⟩ : ∃ W, W = ((v5.alloc (.cells #[.bool (zneg q), .slice A_Q1 (dig q.natAbs).length c_Q1] 37)).alloc (.cells #[.bool (zneg r), .slice A_R1 (dig r.natAbs).length c_R1] 37)) := ⟨_, rfl⟩
  rw [← hw5] at hC hW
  rw [← hw5]
  clear hw5
  have HB5 : Hid (Below w4.heap.size w4 w5) := HBq.out.trans (hW.mono HBq.out.size)
  have HT5 := Lib.hid (HT4.out.trans (HB5.out.mono HT4.out.size))
  have HS5 := Lib.hid (HS4.out.trans (HB5.out.mono HS4.out.size))
  have HKe := C4.below hW HKd.out
  have HKc := Lib.hid (K4.of ⟨HKe.1, HKe.2.1⟩ ⟨HKe.2.2.1, HKe.2.2.2⟩ ⟨hC.1, hC.2.1⟩ ⟨hC.2.2.1, hC.2.2.2⟩)
  have H_Q1 := Lib.hid (HQn.out.below hW)
  have H_R1 := Lib.hid (HRn.out.below hW)
  clear hC hW HKe HKd HBq HQn HRn k0 k1 k2 k3
  obtain ⟨k0, k1, k2, k3, k4, k5, k6, k7⟩ := HKc.out
  go_upto_region 6 with fail
  go_wp2_with fail
  refine (wdivmod_z w5 s t A B ca cb xs ys a b (Na.out.below HS5.out) (Nb.out.below HS5.out) HVa.out HVb.out (by omega) (by omega) hac hbc q r HE_q.out HE_r.out).mono ?_
  rintro e v6 ⟨A_Q2, c_Q2, A_R2, c_R2, rfl, hc_Q2, hc_R2, h_Q2, h_R2, hbx⟩
  have HBq := Lib.hid hbx
  have HKd := Lib.hid (K4.below hbx HKc.out)
  have HQn := Lib.hid h_Q2
  have HRn := Lib.hid h_R2
  clear h_Q2 h_R2 hbx
  go_upto_region 7 with fail
  have hC := C4.base v6 (.bool (zneg q)) (.slice A_Q2 (dig q.natAbs).length c_Q2) (.bool (zneg r)) (.slice A_R2 (dig r.natAbs).length c_R2) 37 37
  have hW : Below v6.heap.size v6 ((v6.alloc (.cells #[.bool (zneg q), .slice A_Q2 (dig q.natAbs).length c_Q2] 37)).alloc (.cells #[.bool (zneg r), .slice A_R2 (dig r.natAbs).length c_R2] 37)) := ((Below.refl _ _).alloc (Nat.le_refl _) _).alloc (by simp) _
  obtain ⟨w6, hw6⟩ : ∃ W, W = ((v6.alloc (.cells #[.bool (zneg q), .slice A_Q2 (dig q.natAbs).length c_Q2] 37)).alloc (.cells #[.bool (zneg r), .slice A_R2 (dig r.natAbs).length c_R2] 37)) := ⟨_, rfl⟩
  rw [← hw6] at hC hW
  rw [← hw6]
  clear hw6
  have HB6 : Hid (Below w5.heap.size w5 w6) := HBq.out.trans (hW.mono HBq.out.size)
  have HT6 := Lib.hid (HT5.out.trans (HB6.out.mono HT5.out.size))
  have HS6 := Lib.hid (HS5.out.trans (HB6.out.mono HS5.out.size))
  have HKe := K4.below hW HKd.out
  have HKc := Lib.hid (K6.of (K3.of HKe.a HKe.b HKe.c) (K3.of HKe.d ⟨hC.1, hC.2.1⟩ ⟨hC.2.2.1, hC.2.2.2⟩))
  have H_Q2 := Lib.hid (HQn.out.below hW)
  have H_R2 := Lib.hid (HRn.out.below hW)
  clear hC hW HKe HKd HBq HQn HRn k0 k1 k2 k3 k4 k5 k6 k7
  obtain ⟨k0, k1, k2, k3, k4, k5, k6, k7, k8, k9, k10, k11⟩ := HKc.out
  go_wp2_with fail
  refine (small_z w6 s A ca xs a (Na.out.below HS6.out) HVa.out (by omega) hac sv sb HE_sv.out HE_sb.out).mono ?_
  rintro e w7 ⟨rfl, hbx⟩
  have HB7 := Lib.hid hbx
  have HT7 := Lib.hid (HT6.out.trans (HB7.out.mono HT6.out.size))
  have HS7 := Lib.hid (HS6.out.trans (HB7.out.mono HS6.out.size))
  have HKc := Lib.hid (K6.below hbx HKc.out)
  obtain ⟨k0, k1, k2, k3, k4, k5, k6, k7, k8, k9, k10, k11⟩ := HKc.out
  clear hbx
  go_wp2_with fail
  refine (wsmall_z w7 s A ca xs a (Na.out.below HS7.out) HVa.out (by omega) hac sv sb HE_sv.out HE_sb.out).mono ?_
  rintro e w8 ⟨rfl, hbx⟩
  have HB8 := Lib.hid hbx
  have HT8 := Lib.hid (HT7.out.trans (HB8.out.mono HT7.out.size))
  have HS8 := Lib.hid (HS7.out.trans (HB8.out.mono HS7.out.size))
  have HKc := Lib.hid (K6.below hbx HKc.out)
  obtain ⟨k0, k1, k2, k3, k4, k5, k6, k7, k8, k9, k10, k11⟩ := HKc.out
  clear hbx
  go_upto_region 9 with fail
  go_region_held3 (fun W => W.cell? ⟨w.heap.size, 0, none⟩ = some (.bool s) ∧ W.cell? ⟨w.heap.size, 1, none⟩ = some (.slice A xs.length ca) ∧ W.cell? ⟨w.heap.size + 1, 0, none⟩ = some (.bool t) ∧ W.cell? ⟨w.heap.size + 1, 1, none⟩ = some (.slice B ys.length cb) ∧ W.cell? ⟨v5.heap.size, 0, none⟩ = some (.bool (zneg q)) ∧ W.cell? ⟨v5.heap.size, 1, none⟩ = some (.slice A_Q1 (dig q.natAbs).length c_Q1) ∧ W.cell? ⟨v5.heap.size + 1, 0, none⟩ = some (.bool (zneg r)) ∧ W.cell? ⟨v5.heap.size + 1, 1, none⟩ = some (.slice A_R1 (dig r.natAbs).length c_R1) ∧ W.cell? ⟨v6.heap.size, 0, none⟩ = some (.bool (zneg q)) ∧ W.cell? ⟨v6.heap.size, 1, none⟩ = some (.slice A_Q2 (dig q.natAbs).length c_Q2) ∧ W.cell? ⟨v6.heap.size + 1, 0, none⟩ = some (.bool (zneg r)) ∧ W.cell? ⟨v6.heap.size + 1, 1, none⟩ = some (.slice A_R2 (dig r.natAbs).length c_R2))
   (first | exact HKc.out | exact K6.drew HKc.out)
   (first
    | (go_at_call 32; refine (same2_any w21 A_i6 A_i7 c_i6 c_i7 g1 g1 (H_i6.out.below HB21.out) H_i7.out rfl (Nat.le_trans HL_g1.out (by omega))).mono ?_; rintro e w22 ⟨rfl, hbx⟩; have HB22 := Lib.hid hbx; have HT22 := Lib.hid (HT21.out.trans (HB22.out.mono HT21.out.size)); have HS22 := Lib.hid (HS21.out.trans (HB22.out.mono HS21.out.size)); have HKc := Lib.hid (K6.below hbx HKc.out))
    | (go_at_call 44; refine (wgcd_z w20 s t A B ca cb xs ys a b (Na.out.below HS20.out) (Nb.out.below HS20.out) HVa.out HVb.out (by omega) (by omega) hac hbc g1 HE_g1.out).mono ?_; rintro e w21 ⟨A_i7, c_i7, rfl, hc_i7, h_i7, hbx⟩; have HB21 := Lib.hid hbx; have HT21 := Lib.hid (HT20.out.trans (HB21.out.mono HT20.out.size)); have HS21 := Lib.hid (HS20.out.trans (HB21.out.mono HS20.out.size)); have H_i7 := Lib.hid h_i7; clear h_i7; have HKc := Lib.hid (K6.below hbx HKc.out))
    | (go_at_call 43; refine (gcdg_z w19 s t A B ca cb xs ys a b (Na.out.below HS19.out) (Nb.out.below HS19.out) HVa.out HVb.out (by omega) (by omega) hac hbc g1 HE_g1.out).mono ?_; rintro e w20 ⟨A_i6, c_i6, rfl, hc_i6, h_i6, hbx⟩; have HB20 := Lib.hid hbx; have HT20 := Lib.hid (HT19.out.trans (HB20.out.mono HT19.out.size)); have HS20 := Lib.hid (HS19.out.trans (HB20.out.mono HS19.out.size)); have H_i6 := Lib.hid h_i6; clear h_i6; have HKc := Lib.hid (K6.below hbx HKc.out))
    | (go_at_call 32; refine (same2_any w18 A_i4 A_i5 c_i4 c_i5 m1 m1 (H_i4.out.below HB18.out) H_i5.out rfl (Nat.le_trans HL_m1.out (by omega))).mono ?_; rintro e w19 ⟨rfl, hbx⟩; have HB19 := Lib.hid hbx; have HT19 := Lib.hid (HT18.out.trans (HB19.out.mono HT18.out.size)); have HS19 := Lib.hid (HS18.out.trans (HB19.out.mono HS18.out.size)); have HKc := Lib.hid (K6.below hbx HKc.out))
    | (go_at_call 42; refine (wmul_z w17 s t A B ca cb xs ys a b (Na.out.below HS17.out) (Nb.out.below HS17.out) HVa.out HVb.out (by omega) (by omega) hac hbc m1 HE_m1.out).mono ?_; rintro e w18 ⟨A_i5, c_i5, rfl, hc_i5, h_i5, hbx⟩; have HB18 := Lib.hid hbx; have HT18 := Lib.hid (HT17.out.trans (HB18.out.mono HT17.out.size)); have HS18 := Lib.hid (HS17.out.trans (HB18.out.mono HS17.out.size)); have H_i5 := Lib.hid h_i5; clear h_i5; have HKc := Lib.hid (K6.below hbx HKc.out))
    | (go_at_call 41; refine (mul_z w16 s t A B ca cb xs ys a b (Na.out.below HS16.out) (Nb.out.below HS16.out) HVa.out HVb.out (by omega) (by omega) hac hbc m1 HE_m1.out).mono ?_; rintro e w17 ⟨A_i4, c_i4, rfl, hc_i4, h_i4, hbx⟩; have HB17 := Lib.hid hbx; have HT17 := Lib.hid (HT16.out.trans (HB17.out.mono HT16.out.size)); have HS17 := Lib.hid (HS16.out.trans (HB17.out.mono HS16.out.size)); have H_i4 := Lib.hid h_i4; clear h_i4; have HKc := Lib.hid (K6.below hbx HKc.out))
    | (go_at_call 32; refine (same2_any w15 A_i2 A_i3 c_i2 c_i3 d1 d1 (H_i2.out.below HB15.out) H_i3.out rfl (Nat.le_trans HL_d1.out (by omega))).mono ?_; rintro e w16 ⟨rfl, hbx⟩; have HB16 := Lib.hid hbx; have HT16 := Lib.hid (HT15.out.trans (HB16.out.mono HT15.out.size)); have HS16 := Lib.hid (HS15.out.trans (HB16.out.mono HS15.out.size)); have HKc := Lib.hid (K6.below hbx HKc.out))
    | (go_at_call 40; refine (wsub_z w14 s t A B ca cb xs ys a b (Na.out.below HS14.out) (Nb.out.below HS14.out) HVa.out HVb.out (by omega) (by omega) hac hbc d1 HE_d1.out).mono ?_; rintro e w15 ⟨A_i3, c_i3, rfl, hc_i3, h_i3, hbx⟩; have HB15 := Lib.hid hbx; have HT15 := Lib.hid (HT14.out.trans (HB15.out.mono HT14.out.size)); have HS15 := Lib.hid (HS14.out.trans (HB15.out.mono HS14.out.size)); have H_i3 := Lib.hid h_i3; clear h_i3; have HKc := Lib.hid (K6.below hbx HKc.out))
    | (go_at_call 39; refine (sub_z w13 s t A B ca cb xs ys a b (Na.out.below HS13.out) (Nb.out.below HS13.out) HVa.out HVb.out (by omega) (by omega) hac hbc d1 HE_d1.out).mono ?_; rintro e w14 ⟨A_i2, c_i2, rfl, hc_i2, h_i2, hbx⟩; have HB14 := Lib.hid hbx; have HT14 := Lib.hid (HT13.out.trans (HB14.out.mono HT13.out.size)); have HS14 := Lib.hid (HS13.out.trans (HB14.out.mono HS13.out.size)); have H_i2 := Lib.hid h_i2; clear h_i2; have HKc := Lib.hid (K6.below hbx HKc.out))
    | (go_at_call 32; refine (same2_any w12 A_i0 A_i1 c_i0 c_i1 s1 s1 (H_i0.out.below HB12.out) H_i1.out rfl (Nat.le_trans HL_s1.out (by omega))).mono ?_; rintro e w13 ⟨rfl, hbx⟩; have HB13 := Lib.hid hbx; have HT13 := Lib.hid (HT12.out.trans (HB13.out.mono HT12.out.size)); have HS13 := Lib.hid (HS12.out.trans (HB13.out.mono HS12.out.size)); have HKc := Lib.hid (K6.below hbx HKc.out))
    | (go_at_call 38; refine (wadd_z w11 s t A B ca cb xs ys a b (Na.out.below HS11.out) (Nb.out.below HS11.out) HVa.out HVb.out (by omega) (by omega) hac hbc s1 HE_s1.out).mono ?_; rintro e w12 ⟨A_i1, c_i1, rfl, hc_i1, h_i1, hbx⟩; have HB12 := Lib.hid hbx; have HT12 := Lib.hid (HT11.out.trans (HB12.out.mono HT11.out.size)); have HS12 := Lib.hid (HS11.out.trans (HB12.out.mono HS11.out.size)); have H_i1 := Lib.hid h_i1; clear h_i1; have HKc := Lib.hid (K6.below hbx HKc.out))
    | (go_at_call 37; refine (add_z w10 s t A B ca cb xs ys a b (Na.out.below HS10.out) (Nb.out.below HS10.out) HVa.out HVb.out (by omega) (by omega) hac hbc s1 HE_s1.out).mono ?_; rintro e w11 ⟨A_i0, c_i0, rfl, hc_i0, h_i0, hbx⟩; have HB11 := Lib.hid hbx; have HT11 := Lib.hid (HT10.out.trans (HB11.out.mono HT10.out.size)); have HS11 := Lib.hid (HS10.out.trans (HB11.out.mono HS10.out.size)); have H_i0 := Lib.hid h_i0; clear h_i0; have HKc := Lib.hid (K6.below hbx HKc.out))
    | (go_at_call 32; refine (same2_any w9 A_R1 A_R2 c_R1 c_R2 r r ((((H_R1.out.below HB6.out).below HB7.out).below HB8.out).below HB9.out) (((H_R2.out.below HB7.out).below HB8.out).below HB9.out) rfl (Nat.le_trans HL_r.out (by omega))).mono ?_; rintro e w10 ⟨rfl, hbx⟩; have HB10 := Lib.hid hbx; have HT10 := Lib.hid (HT9.out.trans (HB10.out.mono HT9.out.size)); have HS10 := Lib.hid (HS9.out.trans (HB10.out.mono HS9.out.size)); have HKc := Lib.hid (K6.below hbx HKc.out))
    | (go_at_call 32; refine (same2_any w8.drew A_Q1 A_Q2 c_Q1 c_Q2 q q ((((H_Q1.out.below HB6.out).below HB7.out).below HB8.out)).drew (((H_Q2.out.below HB7.out).below HB8.out)).drew rfl (Nat.le_trans HL_q.out (by omega))).mono ?_; rintro e w9 ⟨rfl, hbx⟩; have hbx := Below.of_drew hbx; have HB9 := Lib.hid hbx; have HT9 := Lib.hid (HT8.out.trans (HB9.out.mono HT8.out.size)); have HS9 := Lib.hid (HS8.out.trans (HB9.out.mono HS8.out.size)); have HKc := Lib.hid (K6.below hbx HKc.out))
   )
  obtain ⟨k0, k1, k2, k3, k4, k5, k6, k7, k8, k9, k10, k11⟩ := HKc.out
  go_upto_region 10 with fail
  go_region_held3 (fun W => W.cell? ⟨w.heap.size, 0, none⟩ = some (.bool s) ∧ W.cell? ⟨w.heap.size, 1, none⟩ = some (.slice A xs.length ca) ∧ W.cell? ⟨w.heap.size + 1, 0, none⟩ = some (.bool t) ∧ W.cell? ⟨w.heap.size + 1, 1, none⟩ = some (.slice B ys.length cb) ∧ W.cell? ⟨v5.heap.size, 0, none⟩ = some (.bool (zneg q)) ∧ W.cell? ⟨v5.heap.size, 1, none⟩ = some (.slice A_Q1 (dig q.natAbs).length c_Q1) ∧ W.cell? ⟨v5.heap.size + 1, 0, none⟩ = some (.bool (zneg r)) ∧ W.cell? ⟨v5.heap.size + 1, 1, none⟩ = some (.slice A_R1 (dig r.natAbs).length c_R1) ∧ W.cell? ⟨v6.heap.size, 0, none⟩ = some (.bool (zneg q)) ∧ W.cell? ⟨v6.heap.size, 1, none⟩ = some (.slice A_Q2 (dig q.natAbs).length c_Q2) ∧ W.cell? ⟨v6.heap.size + 1, 0, none⟩ = some (.bool (zneg r)) ∧ W.cell? ⟨v6.heap.size + 1, 1, none⟩ = some (.slice A_R2 (dig r.natAbs).length c_R2))
   (first | exact HKc.out | exact K6.drew HKc.out)
   (first
    | (go_at_call 56; refine (wcmp_z w37 s t A B ca cb xs ys a b (Na.out.below HS37.out) (Nb.out.below HS37.out) HVa.out HVb.out (by omega) (by omega) hac hbc kab HE_kab.out).mono ?_; rintro e w38 ⟨rfl, hbx⟩; have HB38 := Lib.hid hbx; have HT38 := Lib.hid (HT37.out.trans (HB38.out.mono HT37.out.size)); have HS38 := Lib.hid (HS37.out.trans (HB38.out.mono HS37.out.size)); have HKc := Lib.hid (K6.below hbx HKc.out))
    | (go_at_call 55; refine (cmp_z w36 s t A B ca cb xs ys a b (Na.out.below HS36.out) (Nb.out.below HS36.out) HVa.out HVb.out (by omega) (by omega) hac hbc kab HE_kab.out).mono ?_; rintro e w37 ⟨rfl, hbx⟩; have HB37 := Lib.hid hbx; have HT37 := Lib.hid (HT36.out.trans (HB37.out.mono HT36.out.size)); have HS37 := Lib.hid (HS36.out.trans (HB37.out.mono HS36.out.size)); have HKc := Lib.hid (K6.below hbx HKc.out))
    | (go_at_call 54; refine (wsign_z w35 s A ca xs a (Na.out.below HS35.out) HVa.out (by omega) hac sa HE_sa.out).mono ?_; rintro e w36 ⟨rfl, hbx⟩; have HB36 := Lib.hid hbx; have HT36 := Lib.hid (HT35.out.trans (HB36.out.mono HT35.out.size)); have HS36 := Lib.hid (HS35.out.trans (HB36.out.mono HS35.out.size)); have HKc := Lib.hid (K6.below hbx HKc.out))
    | (go_at_call 53; refine (sign_z w34 s A ca xs a (Na.out.below HS34.out) HVa.out (by omega) hac sa HE_sa.out).mono ?_; rintro e w35 ⟨rfl, hbx⟩; have HB35 := Lib.hid hbx; have HT35 := Lib.hid (HT34.out.trans (HB35.out.mono HT34.out.size)); have HS35 := Lib.hid (HS34.out.trans (HB35.out.mono HS34.out.size)); have HKc := Lib.hid (K6.below hbx HKc.out))
    | (go_at_call 32; refine (same2_any w33 A_j6 A_j7 c_j6 c_j7 ab ab (H_j6.out.below HB33.out) H_j7.out rfl (Nat.le_trans HL_ab.out (by omega))).mono ?_; rintro e w34 ⟨rfl, hbx⟩; have HB34 := Lib.hid hbx; have HT34 := Lib.hid (HT33.out.trans (HB34.out.mono HT33.out.size)); have HS34 := Lib.hid (HS33.out.trans (HB34.out.mono HS33.out.size)); have HKc := Lib.hid (K6.below hbx HKc.out))
    | (go_at_call 52; refine (wabs_z w32 s A ca xs a (Na.out.below HS32.out) HVa.out (by omega) hac ab HE_ab.out).mono ?_; rintro e w33 ⟨A_j7, c_j7, rfl, hc_j7, h_j7, hbx⟩; have HB33 := Lib.hid hbx; have HT33 := Lib.hid (HT32.out.trans (HB33.out.mono HT32.out.size)); have HS33 := Lib.hid (HS32.out.trans (HB33.out.mono HS32.out.size)); have H_j7 := Lib.hid h_j7; clear h_j7; have HKc := Lib.hid (K6.below hbx HKc.out))
    | (go_at_call 51; refine (abs_z w31 s A ca xs a (Na.out.below HS31.out) HVa.out (by omega) hac ab HE_ab.out).mono ?_; rintro e w32 ⟨A_j6, c_j6, rfl, hc_j6, h_j6, hbx⟩; have HB32 := Lib.hid hbx; have HT32 := Lib.hid (HT31.out.trans (HB32.out.mono HT31.out.size)); have HS32 := Lib.hid (HS31.out.trans (HB32.out.mono HS31.out.size)); have H_j6 := Lib.hid h_j6; clear h_j6; have HKc := Lib.hid (K6.below hbx HKc.out))
    | (go_at_call 32; refine (same2_any w30 A_j4 A_j5 c_j4 c_j5 n1 n1 (H_j4.out.below HB30.out) H_j5.out rfl (Nat.le_trans HL_n1.out (by omega))).mono ?_; rintro e w31 ⟨rfl, hbx⟩; have HB31 := Lib.hid hbx; have HT31 := Lib.hid (HT30.out.trans (HB31.out.mono HT30.out.size)); have HS31 := Lib.hid (HS30.out.trans (HB31.out.mono HS30.out.size)); have HKc := Lib.hid (K6.below hbx HKc.out))
    | (go_at_call 50; refine (wneg_z w29 s A ca xs a (Na.out.below HS29.out) HVa.out (by omega) hac n1 HE_n1.out).mono ?_; rintro e w30 ⟨A_j5, c_j5, rfl, hc_j5, h_j5, hbx⟩; have HB30 := Lib.hid hbx; have HT30 := Lib.hid (HT29.out.trans (HB30.out.mono HT29.out.size)); have HS30 := Lib.hid (HS29.out.trans (HB30.out.mono HS29.out.size)); have H_j5 := Lib.hid h_j5; clear h_j5; have HKc := Lib.hid (K6.below hbx HKc.out))
    | (go_at_call 49; refine (neg_z w28 s A ca xs a (Na.out.below HS28.out) HVa.out (by omega) hac n1 HE_n1.out).mono ?_; rintro e w29 ⟨A_j4, c_j4, rfl, hc_j4, h_j4, hbx⟩; have HB29 := Lib.hid hbx; have HT29 := Lib.hid (HT28.out.trans (HB29.out.mono HT28.out.size)); have HS29 := Lib.hid (HS28.out.trans (HB29.out.mono HS28.out.size)); have H_j4 := Lib.hid h_j4; clear h_j4; have HKc := Lib.hid (K6.below hbx HKc.out))
    | (go_at_call 32; refine (same2_any w27 A_j2 A_j3 c_j2 c_j3 a a (H_j2.out.below HB27.out) H_j3.out rfl (Nat.le_trans HL_a.out (by omega))).mono ?_; rintro e w28 ⟨rfl, hbx⟩; have HB28 := Lib.hid hbx; have HT28 := Lib.hid (HT27.out.trans (HB28.out.mono HT27.out.size)); have HS28 := Lib.hid (HS27.out.trans (HB28.out.mono HS27.out.size)); have HKc := Lib.hid (K6.below hbx HKc.out))
    | (go_at_call 48; refine (wnorm_z w26 s A ca xs a (Na.out.below HS26.out) HVa.out (by omega) hac a rfl).mono ?_; rintro e w27 ⟨A_j3, c_j3, rfl, hc_j3, h_j3, hbx⟩; have HB27 := Lib.hid hbx; have HT27 := Lib.hid (HT26.out.trans (HB27.out.mono HT26.out.size)); have HS27 := Lib.hid (HS26.out.trans (HB27.out.mono HS26.out.size)); have H_j3 := Lib.hid h_j3; clear h_j3; have HKc := Lib.hid (K6.below hbx HKc.out))
    | (go_at_call 47; refine (norm_z w25 s A ca xs a (Na.out.below HS25.out) HVa.out (by omega) hac a rfl).mono ?_; rintro e w26 ⟨A_j2, c_j2, rfl, hc_j2, h_j2, hbx⟩; have HB26 := Lib.hid hbx; have HT26 := Lib.hid (HT25.out.trans (HB26.out.mono HT25.out.size)); have HS26 := Lib.hid (HS25.out.trans (HB26.out.mono HS25.out.size)); have H_j2 := Lib.hid h_j2; clear h_j2; have HKc := Lib.hid (K6.below hbx HKc.out))
    | (go_at_call 32; refine (same2_any w24 A_j0 A_j1 c_j0 c_j1 nn nn (H_j0.out.below HB24.out) H_j1.out rfl (Nat.le_trans HL_nn.out (by omega))).mono ?_; rintro e w25 ⟨rfl, hbx⟩; have HB25 := Lib.hid hbx; have HT25 := Lib.hid (HT24.out.trans (HB25.out.mono HT24.out.size)); have HS25 := Lib.hid (HS24.out.trans (HB25.out.mono HS24.out.size)); have HKc := Lib.hid (K6.below hbx HKc.out))
    | (go_at_call 46; refine (wof_z w23 n nn HE_nn.out HLO_nn.out HHI_nn.out).mono ?_; rintro e w24 ⟨A_j1, c_j1, rfl, hc_j1, h_j1, hbx⟩; have HB24 := Lib.hid hbx; have HT24 := Lib.hid (HT23.out.trans (HB24.out.mono HT23.out.size)); have HS24 := Lib.hid (HS23.out.trans (HB24.out.mono HS23.out.size)); have H_j1 := Lib.hid h_j1; clear h_j1; have HKc := Lib.hid (K6.below hbx HKc.out))
    | (go_at_call 45; refine (of_z w22.drew n nn HE_nn.out HLO_nn.out HHI_nn.out).mono ?_; rintro e w23 ⟨A_j0, c_j0, rfl, hc_j0, h_j0, hbx⟩; have hbx := Below.of_drew hbx; have HB23 := Lib.hid hbx; have HT23 := Lib.hid (HT22.out.trans (HB23.out.mono HT22.out.size)); have HS23 := Lib.hid (HS22.out.trans (HB23.out.mono HS22.out.size)); have H_j0 := Lib.hid h_j0; clear h_j0; have HKc := Lib.hid (K6.below hbx HKc.out))
   )
  obtain ⟨k0, k1, k2, k3, k4, k5, k6, k7, k8, k9, k10, k11⟩ := HKc.out
  go_wp2_with fail
  refine (same_l w38 A_x A c_x ca xs (((((((((((((((((((((((((((((((((((H_x.out.below HB4.out).below HB5.out).below HB6.out).below HB7.out).below HB8.out).below HB9.out).below HB10.out).below HB11.out).below HB12.out).below HB13.out).below HB14.out).below HB15.out).below HB16.out).below HB17.out).below HB18.out).below HB19.out).below HB20.out).below HB21.out).below HB22.out).below HB23.out).below HB24.out).below HB25.out).below HB26.out).below HB27.out).below HB28.out).below HB29.out).below HB30.out).below HB31.out).below HB32.out).below HB33.out).below HB34.out).below HB35.out).below HB36.out).below HB37.out).below HB38.out) (Na.out.below HS38.out) (by omega)).mono ?_
  rintro e w39 ⟨rfl, hbx⟩
  have HB39 := Lib.hid hbx
  have HT39 := Lib.hid (HT38.out.trans (HB39.out.mono HT38.out.size))
  have HS39 := Lib.hid (HS38.out.trans (HB39.out.mono HS38.out.size))
  have HKc := Lib.hid (K6.below hbx HKc.out)
  obtain ⟨k0, k1, k2, k3, k4, k5, k6, k7, k8, k9, k10, k11⟩ := HKc.out
  clear hbx
  go_wp2_with fail
  refine (same_l w39 A_y B c_y cb ys (((((((((((((((((((((((((((((((((((H_y.out.below HB5.out).below HB6.out).below HB7.out).below HB8.out).below HB9.out).below HB10.out).below HB11.out).below HB12.out).below HB13.out).below HB14.out).below HB15.out).below HB16.out).below HB17.out).below HB18.out).below HB19.out).below HB20.out).below HB21.out).below HB22.out).below HB23.out).below HB24.out).below HB25.out).below HB26.out).below HB27.out).below HB28.out).below HB29.out).below HB30.out).below HB31.out).below HB32.out).below HB33.out).below HB34.out).below HB35.out).below HB36.out).below HB37.out).below HB38.out).below HB39.out) (Nb.out.below HS39.out) (by omega)).mono ?_
  rintro e w40 ⟨rfl, hbx⟩
  have HB40 := Lib.hid hbx
  have HT40 := Lib.hid (HT39.out.trans (HB40.out.mono HT39.out.size))
  have HS40 := Lib.hid (HS39.out.trans (HB40.out.mono HS39.out.size))
  have HKc := Lib.hid (K6.below hbx HKc.out)
  obtain ⟨k0, k1, k2, k3, k4, k5, k6, k7, k8, k9, k10, k11⟩ := HKc.out
  clear hbx
  go_wp2_with fail
  refine (awake2_any w40).mono ?_
  rintro e w41 ⟨rfl, hbx⟩
  have HB41 := Lib.hid hbx
  have HT41 := Lib.hid (HT40.out.trans (HB41.out.mono HT40.out.size))
  have HS41 := Lib.hid (HS40.out.trans (HB41.out.mono HS40.out.size))
  clear hbx
  go_wp2_with fail
  go_ret
  exact ⟨rfl, HT41.out⟩
end Go.Proofs.Ytginajegbknfhaa
