/- WholeRing: its walk. -/
import Derived.Test.YtmcfdgcncpfilaaWholeJ
namespace Go.Proofs.Ytmcfdgcncpfilaa
open Go.RowKit

set_option maxRecDepth 100000 in
set_option maxHeartbeats 16000000 in
theorem wring_core (w : World) (s t u : Bool) (A B C : Option Addr) (ca cb cc : Nat) (xs ys zs : List Nat) (a b c : Int) (ha : Num w A xs) (hb : Num w B ys) (hc : Num w C zs) (hva : zv s (val xs) = a) (hvb : zv t (val ys) = b) (hvc : zv u (val zs) = c) (hac : xs.length ≤ ca) (hbc : ys.length ≤ cb) (hcc : zs.length ≤ cc) (l1 : xs.length ≤ 40) (l2 : ys.length ≤ 40) (l3 : zs.length ≤ 40) :
    Calls Try.prog 11 #[.agg #[.bool s, .slice A xs.length ca], .agg #[.bool t, .slice B ys.length cb], .agg #[.bool u, .slice C zs.length cc]] w (RetB w true) := by
  have HVa := Lib.hid hva
  have HVb := Lib.hid hvb
  have HVc := Lib.hid hvc
  have HL_a : Hid (zl a ≤ 40) := Nat.le_trans (zl_val ha.1 hva) l1
  have HL_b : Hid (zl b ≤ 40) := Nat.le_trans (zl_val hb.1 hvb) l2
  have HL_c : Hid (zl c ≤ 40) := Nat.le_trans (zl_val hc.1 hvc) l3
  have Ha := Lib.hid ha
  have Hb := Lib.hid hb
  have Hc := Lib.hid hc
  clear ha hb hc hva hvb hvc
  obtain ⟨p1, he_p1⟩ : ∃ v : Int, a + b = v := ⟨_, rfl⟩
  have HL_p1 : Hid (zl p1 ≤ 81) := by
    have h := And.intro (zl_add a b) (And.intro HL_a.out HL_b.out)
    rw [he_p1] at h
    show _ ≤ _
    omega
  have HE_p1 := Lib.hid he_p1
  clear he_p1
  obtain ⟨p2, he_p2⟩ : ∃ v : Int, b + a = v := ⟨_, rfl⟩
  have HL_p2 : Hid (zl p2 ≤ 81) := by
    have h := And.intro (zl_add b a) (And.intro HL_a.out HL_b.out)
    rw [he_p2] at h
    show _ ≤ _
    omega
  have HE_p2 := Lib.hid he_p2
  clear he_p2
  obtain ⟨p3, he_p3⟩ : ∃ v : Int, p1 + c = v := ⟨_, rfl⟩
  have HL_p3 : Hid (zl p3 ≤ 122) := by
    have h := And.intro (zl_add p1 c) (And.intro HL_p1.out HL_c.out)
    rw [he_p3] at h
    show _ ≤ _
    omega
  have HE_p3 := Lib.hid he_p3
  clear he_p3
  obtain ⟨p4, he_p4⟩ : ∃ v : Int, b + c = v := ⟨_, rfl⟩
  have HL_p4 : Hid (zl p4 ≤ 81) := by
    have h := And.intro (zl_add b c) (And.intro HL_b.out HL_c.out)
    rw [he_p4] at h
    show _ ≤ _
    omega
  have HE_p4 := Lib.hid he_p4
  clear he_p4
  obtain ⟨p5, he_p5⟩ : ∃ v : Int, a + p4 = v := ⟨_, rfl⟩
  have HL_p5 : Hid (zl p5 ≤ 122) := by
    have h := And.intro (zl_add a p4) (And.intro HL_a.out HL_p4.out)
    rw [he_p5] at h
    show _ ≤ _
    omega
  have HE_p5 := Lib.hid he_p5
  clear he_p5
  obtain ⟨z0, he_z0⟩ : ∃ v : Int, a - a = v := ⟨_, rfl⟩
  have HL_z0 : Hid (zl z0 ≤ 81) := by
    have h := And.intro (zl_sub a a) HL_a.out
    rw [he_z0] at h
    show _ ≤ _
    omega
  have HE_z0 := Lib.hid he_z0
  clear he_z0
  obtain ⟨n1, he_n1⟩ : ∃ v : Int, -a = v := ⟨_, rfl⟩
  have HL_n1 : Hid (zl n1 ≤ 40) := by
    have h := And.intro (Nat.le_of_eq (zl_neg a)) HL_a.out
    rw [he_n1] at h
    show _ ≤ _
    omega
  have HE_n1 := Lib.hid he_n1
  clear he_n1
  obtain ⟨p6, he_p6⟩ : ∃ v : Int, a + n1 = v := ⟨_, rfl⟩
  have HL_p6 : Hid (zl p6 ≤ 81) := by
    have h := And.intro (zl_add a n1) (And.intro HL_a.out HL_n1.out)
    rw [he_p6] at h
    show _ ≤ _
    omega
  have HE_p6 := Lib.hid he_p6
  clear he_p6
  obtain ⟨p7, he_p7⟩ : ∃ v : Int, p1 - b = v := ⟨_, rfl⟩
  have HL_p7 : Hid (zl p7 ≤ 122) := by
    have h := And.intro (zl_sub p1 b) (And.intro HL_p1.out HL_b.out)
    rw [he_p7] at h
    show _ ≤ _
    omega
  have HE_p7 := Lib.hid he_p7
  clear he_p7
  obtain ⟨n2, he_n2⟩ : ∃ v : Int, -n1 = v := ⟨_, rfl⟩
  have HL_n2 : Hid (zl n2 ≤ 40) := by
    have h := And.intro (Nat.le_of_eq (zl_neg n1)) HL_n1.out
    rw [he_n2] at h
    show _ ≤ _
    omega
  have HE_n2 := Lib.hid he_n2
  clear he_n2
  obtain ⟨m1, he_m1⟩ : ∃ v : Int, a * b = v := ⟨_, rfl⟩
  have HL_m1 : Hid (zl m1 ≤ 80) := by
    have h := And.intro (zl_mul a b) (And.intro HL_a.out HL_b.out)
    rw [he_m1] at h
    show _ ≤ _
    omega
  have HE_m1 := Lib.hid he_m1
  clear he_m1
  obtain ⟨m2, he_m2⟩ : ∃ v : Int, b * a = v := ⟨_, rfl⟩
  have HL_m2 : Hid (zl m2 ≤ 80) := by
    have h := And.intro (zl_mul b a) (And.intro HL_b.out HL_a.out)
    rw [he_m2] at h
    show _ ≤ _
    omega
  have HE_m2 := Lib.hid he_m2
  clear he_m2
  obtain ⟨m3, he_m3⟩ : ∃ v : Int, m1 * c = v := ⟨_, rfl⟩
  have HL_m3 : Hid (zl m3 ≤ 120) := by
    have h := And.intro (zl_mul m1 c) (And.intro HL_m1.out HL_c.out)
    rw [he_m3] at h
    show _ ≤ _
    omega
  have HE_m3 := Lib.hid he_m3
  clear he_m3
  obtain ⟨m4, he_m4⟩ : ∃ v : Int, b * c = v := ⟨_, rfl⟩
  have HL_m4 : Hid (zl m4 ≤ 80) := by
    have h := And.intro (zl_mul b c) (And.intro HL_b.out HL_c.out)
    rw [he_m4] at h
    show _ ≤ _
    omega
  have HE_m4 := Lib.hid he_m4
  clear he_m4
  obtain ⟨m5, he_m5⟩ : ∃ v : Int, a * m4 = v := ⟨_, rfl⟩
  have HL_m5 : Hid (zl m5 ≤ 120) := by
    have h := And.intro (zl_mul a m4) (And.intro HL_a.out HL_m4.out)
    rw [he_m5] at h
    show _ ≤ _
    omega
  have HE_m5 := Lib.hid he_m5
  clear he_m5
  obtain ⟨d1, he_d1⟩ : ∃ v : Int, b - c = v := ⟨_, rfl⟩
  have HL_d1 : Hid (zl d1 ≤ 81) := by
    have h := And.intro (zl_sub b c) (And.intro HL_b.out HL_c.out)
    rw [he_d1] at h
    show _ ≤ _
    omega
  have HE_d1 := Lib.hid he_d1
  clear he_d1
  obtain ⟨m6, he_m6⟩ : ∃ v : Int, a * d1 = v := ⟨_, rfl⟩
  have HL_m6 : Hid (zl m6 ≤ 121) := by
    have h := And.intro (zl_mul a d1) (And.intro HL_a.out HL_d1.out)
    rw [he_m6] at h
    show _ ≤ _
    omega
  have HE_m6 := Lib.hid he_m6
  clear he_m6
  obtain ⟨m7, he_m7⟩ : ∃ v : Int, a * c = v := ⟨_, rfl⟩
  have HL_m7 : Hid (zl m7 ≤ 80) := by
    have h := And.intro (zl_mul a c) (And.intro HL_a.out HL_c.out)
    rw [he_m7] at h
    show _ ≤ _
    omega
  have HE_m7 := Lib.hid he_m7
  clear he_m7
  obtain ⟨d2, he_d2⟩ : ∃ v : Int, m1 - m7 = v := ⟨_, rfl⟩
  have HL_d2 : Hid (zl d2 ≤ 161) := by
    have h := And.intro (zl_sub m1 m7) (And.intro HL_m1.out HL_m7.out)
    rw [he_d2] at h
    show _ ≤ _
    omega
  have HE_d2 := Lib.hid he_d2
  clear he_d2
  obtain ⟨m8, he_m8⟩ : ∃ v : Int, n1 * b = v := ⟨_, rfl⟩
  have HL_m8 : Hid (zl m8 ≤ 80) := by
    have h := And.intro (zl_mul n1 b) (And.intro HL_n1.out HL_b.out)
    rw [he_m8] at h
    show _ ≤ _
    omega
  have HE_m8 := Lib.hid he_m8
  clear he_m8
  obtain ⟨n3, he_n3⟩ : ∃ v : Int, -m1 = v := ⟨_, rfl⟩
  have HL_n3 : Hid (zl n3 ≤ 80) := by
    have h := And.intro (Nat.le_of_eq (zl_neg m1)) HL_m1.out
    rw [he_n3] at h
    show _ ≤ _
    omega
  have HE_n3 := Lib.hid he_n3
  clear he_n3
  have HQ1 : Hid (p1 = p2) := by
    show _ = _
    have h0 := HE_p1.out
    have h1 := HE_p2.out
    omega
  have HQ2 : Hid (p3 = p5) := by
    show _ = _
    have h0 := HE_p1.out
    have h1 := HE_p3.out
    have h2 := HE_p4.out
    have h3 := HE_p5.out
    omega
  have HQ3 : Hid (z0 = 0) := by
    show _ = _
    have h0 := HE_z0.out
    omega
  have HQ4 : Hid (p6 = 0) := by
    show _ = _
    have h0 := HE_n1.out
    have h1 := HE_p6.out
    omega
  have HQ5 : Hid (p7 = a) := by
    show _ = _
    have h0 := HE_p1.out
    have h1 := HE_p7.out
    omega
  have HQ6 : Hid (n2 = a) := by
    show _ = _
    have h0 := HE_n1.out
    have h1 := HE_n2.out
    omega
  have HQ7 : Hid (m1 = m2) := by
    show _ = _
    rw [← HE_m1.out, ← HE_m2.out]
    exact Int.mul_comm _ _
  have HQ8 : Hid (m3 = m5) := by
    show _ = _
    rw [← HE_m3.out, ← HE_m5.out, ← HE_m1.out, ← HE_m4.out]
    exact Int.mul_assoc _ _ _
  have HQ9 : Hid (m6 = d2) := by
    show _ = _
    rw [← HE_m6.out, ← HE_d2.out, ← HE_d1.out, ← HE_m1.out, ← HE_m7.out]
    exact Int.mul_sub _ _ _
  have HQA : Hid (m8 = n3) := by
    show _ = _
    rw [← HE_m8.out, ← HE_n3.out, ← HE_n1.out, ← HE_m1.out]
    exact Int.neg_mul _ _
  go_enter Try.func11, Try.ntmps11
  go_wp2_with fail
  have HKc := Lib.hid (K3.base w (.bool s) (.slice A xs.length ca) (.bool t) (.slice B ys.length cb) (.bool u) (.slice C zs.length cc) 43 43 43)
  have HT0 : Hid (Below w.heap.size w (((w.alloc (.cells #[.bool s, .slice A xs.length ca] 43)).alloc (.cells #[.bool t, .slice B ys.length cb] 43)).alloc (.cells #[.bool u, .slice C zs.length cc] 43))) := (((Below.refl _ _).alloc (Nat.le_refl _) _).alloc (by simp) _).alloc (by simp; omega) _
  have hw0 : ∃ W, W = (((w.alloc (.cells #[.bool s, .slice A xs.length ca] 43)).alloc (.cells #[.bool t, .slice B ys.length cb] 43)).alloc (.cells #[.bool u, .slice C zs.length cc] 43)) := ⟨_, rfl⟩
  obtain ⟨w0, hw0⟩ := hw0
  rw [← hw0] at HKc HT0
  rw [← hw0]
  clear hw0
  have Na := Lib.hid (Ha.out.below HT0.out)
  have Nb := Lib.hid (Hb.out.below HT0.out)
  have Nc := Lib.hid (Hc.out.below HT0.out)
  obtain ⟨k0, k1, k2, k3, k4, k5⟩ := HKc.out
  refine (short_t w0 s A xs.length ca 40 (by omega)).mono ?_
  rintro e w1 ⟨rfl, hbx⟩
  have HB1 := Lib.hid hbx
  have HT1 := Lib.hid (HT0.out.trans (HB1.out.mono HT0.out.size))
  have HS1 := HB1
  have HKc := Lib.hid (K3.below hbx HKc.out)
  obtain ⟨k0, k1, k2, k3, k4, k5⟩ := HKc.out
  clear hbx
  go_wp2_with fail
  refine (short_t w1 t B ys.length cb 40 (by omega)).mono ?_
  rintro e w2 ⟨rfl, hbx⟩
  have HB2 := Lib.hid hbx
  have HT2 := Lib.hid (HT1.out.trans (HB2.out.mono HT1.out.size))
  have HS2 := Lib.hid (HS1.out.trans (HB2.out.mono HS1.out.size))
  have HKc := Lib.hid (K3.below hbx HKc.out)
  obtain ⟨k0, k1, k2, k3, k4, k5⟩ := HKc.out
  clear hbx
  go_wp2_with fail
  refine (short_t w2 u C zs.length cc 40 (by omega)).mono ?_
  rintro e w3 ⟨rfl, hbx⟩
  have HB3 := Lib.hid hbx
  have HT3 := Lib.hid (HT2.out.trans (HB3.out.mono HT2.out.size))
  have HS3 := Lib.hid (HS2.out.trans (HB3.out.mono HS2.out.size))
  have HKc := Lib.hid (K3.below hbx HKc.out)
  obtain ⟨k0, k1, k2, k3, k4, k5⟩ := HKc.out
  clear hbx
  go_upto_region 4 with fail
  go_region_held3 (fun W => W.cell? ⟨w.heap.size, 0, none⟩ = some (.bool s) ∧ W.cell? ⟨w.heap.size, 1, none⟩ = some (.slice A xs.length ca) ∧ W.cell? ⟨w.heap.size + 1, 0, none⟩ = some (.bool t) ∧ W.cell? ⟨w.heap.size + 1, 1, none⟩ = some (.slice B ys.length cb) ∧ W.cell? ⟨w.heap.size + 1 + 1, 0, none⟩ = some (.bool u) ∧ W.cell? ⟨w.heap.size + 1 + 1, 1, none⟩ = some (.slice C zs.length cc))
   (first | exact HKc.out | exact K3.drew HKc.out)
   (first
    | (go_at_call 42; refine (same2_any w23 A_j5 A_j6 c_j5 c_j6 n2 a (H_j5.out.below HB23.out) H_j6.out HQ6.out (Nat.le_trans HL_n2.out (by omega))).mono ?_; rintro e w24 ⟨rfl, hbx⟩; have HB24 := Lib.hid hbx; have HT24 := Lib.hid (HT23.out.trans (HB24.out.mono HT23.out.size)); have HS24 := Lib.hid (HS23.out.trans (HB24.out.mono HS23.out.size)); have HKc := Lib.hid (K3.below hbx HKc.out))
    | (go_at_call 44; refine (norm_z w22 s A ca xs a (Na.out.below HS22.out) HVa.out (by omega) hac a rfl).mono ?_; rintro e w23 ⟨A_j6, c_j6, rfl, hc_j6, h_j6, hbx⟩; have HB23 := Lib.hid hbx; have HT23 := Lib.hid (HT22.out.trans (HB23.out.mono HT22.out.size)); have HS23 := Lib.hid (HS22.out.trans (HB23.out.mono HS22.out.size)); have H_j6 := Lib.hid h_j6; clear h_j6; have HKc := Lib.hid (K3.below hbx HKc.out))
    | (go_at_call 41; refine (neg_z w21 (zneg n1) A_j4 c_j4 (dig n1.natAbs) n1 H_j4.out (zv_dig _) (Nat.le_trans HL_n1.out (by omega)) hc_j4 n2 HE_n2.out).mono ?_; rintro e w22 ⟨A_j5, c_j5, rfl, hc_j5, h_j5, hbx⟩; have HB22 := Lib.hid hbx; have HT22 := Lib.hid (HT21.out.trans (HB22.out.mono HT21.out.size)); have HS22 := Lib.hid (HS21.out.trans (HB22.out.mono HS21.out.size)); have H_j5 := Lib.hid h_j5; clear h_j5; have HKc := Lib.hid (K3.below hbx HKc.out))
    | (go_at_call 41; refine (neg_z w20 s A ca xs a (Na.out.below HS20.out) HVa.out (by omega) hac n1 HE_n1.out).mono ?_; rintro e w21 ⟨A_j4, c_j4, rfl, hc_j4, h_j4, hbx⟩; have HB21 := Lib.hid hbx; have HT21 := Lib.hid (HT20.out.trans (HB21.out.mono HT20.out.size)); have HS21 := Lib.hid (HS20.out.trans (HB21.out.mono HS20.out.size)); have H_j4 := Lib.hid h_j4; clear h_j4; have HKc := Lib.hid (K3.below hbx HKc.out))
    | (go_at_call 42; refine (same2_any w19 A_j2 A_j3 c_j2 c_j3 p7 a (H_j2.out.below HB19.out) H_j3.out HQ5.out (Nat.le_trans HL_p7.out (by omega))).mono ?_; rintro e w20 ⟨rfl, hbx⟩; have HB20 := Lib.hid hbx; have HT20 := Lib.hid (HT19.out.trans (HB20.out.mono HT19.out.size)); have HS20 := Lib.hid (HS19.out.trans (HB20.out.mono HS19.out.size)); have HKc := Lib.hid (K3.below hbx HKc.out))
    | (go_at_call 44; refine (norm_z w18 s A ca xs a (Na.out.below HS18.out) HVa.out (by omega) hac a rfl).mono ?_; rintro e w19 ⟨A_j3, c_j3, rfl, hc_j3, h_j3, hbx⟩; have HB19 := Lib.hid hbx; have HT19 := Lib.hid (HT18.out.trans (HB19.out.mono HT18.out.size)); have HS19 := Lib.hid (HS18.out.trans (HB19.out.mono HS18.out.size)); have H_j3 := Lib.hid h_j3; clear h_j3; have HKc := Lib.hid (K3.below hbx HKc.out))
    | (go_at_call 57; refine (sub_z w17 (zneg p1) t A_j1 B c_j1 cb (dig p1.natAbs) ys p1 b H_j1.out (Nb.out.below HS17.out) (zv_dig _) HVb.out (Nat.le_trans HL_p1.out (by omega)) (by omega) hc_j1 hbc p7 HE_p7.out).mono ?_; rintro e w18 ⟨A_j2, c_j2, rfl, hc_j2, h_j2, hbx⟩; have HB18 := Lib.hid hbx; have HT18 := Lib.hid (HT17.out.trans (HB18.out.mono HT17.out.size)); have HS18 := Lib.hid (HS17.out.trans (HB18.out.mono HS17.out.size)); have H_j2 := Lib.hid h_j2; clear h_j2; have HKc := Lib.hid (K3.below hbx HKc.out))
    | (go_at_call 55; refine (add_z w16 s t A B ca cb xs ys a b (Na.out.below HS16.out) (Nb.out.below HS16.out) HVa.out HVb.out (by omega) (by omega) hac hbc p1 HE_p1.out).mono ?_; rintro e w17 ⟨A_j1, c_j1, rfl, hc_j1, h_j1, hbx⟩; have HB17 := Lib.hid hbx; have HT17 := Lib.hid (HT16.out.trans (HB17.out.mono HT16.out.size)); have HS17 := Lib.hid (HS16.out.trans (HB17.out.mono HS16.out.size)); have H_j1 := Lib.hid h_j1; clear h_j1; have HKc := Lib.hid (K3.below hbx HKc.out))
    | (go_at_call 43; refine (is_z w15 A_i9 c_i9 p6 (0) H_i9.out hc_i9 HQ4.out (by omega) (by omega)).mono ?_; rintro e w16 ⟨rfl, hbx⟩; have HB16 := Lib.hid hbx; have HT16 := Lib.hid (HT15.out.trans (HB16.out.mono HT15.out.size)); have HS16 := Lib.hid (HS15.out.trans (HB16.out.mono HS15.out.size)); have HKc := Lib.hid (K3.below hbx HKc.out))
    | (go_at_call 55; refine (add_z w14 s (zneg n1) A A_i8 ca c_i8 xs (dig n1.natAbs) a n1 (Na.out.below HS14.out) H_i8.out HVa.out (zv_dig _) (by omega) (Nat.le_trans HL_n1.out (by omega)) hac hc_i8 p6 HE_p6.out).mono ?_; rintro e w15 ⟨A_i9, c_i9, rfl, hc_i9, h_i9, hbx⟩; have HB15 := Lib.hid hbx; have HT15 := Lib.hid (HT14.out.trans (HB15.out.mono HT14.out.size)); have HS15 := Lib.hid (HS14.out.trans (HB15.out.mono HS14.out.size)); have H_i9 := Lib.hid h_i9; clear h_i9; have HKc := Lib.hid (K3.below hbx HKc.out))
    | (go_at_call 41; refine (neg_z w13 s A ca xs a (Na.out.below HS13.out) HVa.out (by omega) hac n1 HE_n1.out).mono ?_; rintro e w14 ⟨A_i8, c_i8, rfl, hc_i8, h_i8, hbx⟩; have HB14 := Lib.hid hbx; have HT14 := Lib.hid (HT13.out.trans (HB14.out.mono HT13.out.size)); have HS14 := Lib.hid (HS13.out.trans (HB14.out.mono HS13.out.size)); have H_i8 := Lib.hid h_i8; clear h_i8; have HKc := Lib.hid (K3.below hbx HKc.out))
    | (go_at_call 43; refine (is_z w12 A_i7 c_i7 z0 (0) H_i7.out hc_i7 HQ3.out (by omega) (by omega)).mono ?_; rintro e w13 ⟨rfl, hbx⟩; have HB13 := Lib.hid hbx; have HT13 := Lib.hid (HT12.out.trans (HB13.out.mono HT12.out.size)); have HS13 := Lib.hid (HS12.out.trans (HB13.out.mono HS12.out.size)); have HKc := Lib.hid (K3.below hbx HKc.out))
    | (go_at_call 57; refine (sub_z w11 s s A A ca ca xs xs a a (Na.out.below HS11.out) (Na.out.below HS11.out) HVa.out HVa.out (by omega) (by omega) hac hac z0 HE_z0.out).mono ?_; rintro e w12 ⟨A_i7, c_i7, rfl, hc_i7, h_i7, hbx⟩; have HB12 := Lib.hid hbx; have HT12 := Lib.hid (HT11.out.trans (HB12.out.mono HT11.out.size)); have HS12 := Lib.hid (HS11.out.trans (HB12.out.mono HS11.out.size)); have H_i7 := Lib.hid h_i7; clear h_i7; have HKc := Lib.hid (K3.below hbx HKc.out))
    | (go_at_call 42; refine (same2_any w10 A_i4 A_i6 c_i4 c_i6 p3 p5 ((H_i4.out.below HB9.out).below HB10.out) H_i6.out HQ2.out (Nat.le_trans HL_p3.out (by omega))).mono ?_; rintro e w11 ⟨rfl, hbx⟩; have HB11 := Lib.hid hbx; have HT11 := Lib.hid (HT10.out.trans (HB11.out.mono HT10.out.size)); have HS11 := Lib.hid (HS10.out.trans (HB11.out.mono HS10.out.size)); have HKc := Lib.hid (K3.below hbx HKc.out))
    | (go_at_call 55; refine (add_z w9 s (zneg p4) A A_i5 ca c_i5 xs (dig p4.natAbs) a p4 (Na.out.below HS9.out) H_i5.out HVa.out (zv_dig _) (by omega) (Nat.le_trans HL_p4.out (by omega)) hac hc_i5 p5 HE_p5.out).mono ?_; rintro e w10 ⟨A_i6, c_i6, rfl, hc_i6, h_i6, hbx⟩; have HB10 := Lib.hid hbx; have HT10 := Lib.hid (HT9.out.trans (HB10.out.mono HT9.out.size)); have HS10 := Lib.hid (HS9.out.trans (HB10.out.mono HS9.out.size)); have H_i6 := Lib.hid h_i6; clear h_i6; have HKc := Lib.hid (K3.below hbx HKc.out))
    | (go_at_call 55; refine (add_z w8 t u B C cb cc ys zs b c (Nb.out.below HS8.out) (Nc.out.below HS8.out) HVb.out HVc.out (by omega) (by omega) hbc hcc p4 HE_p4.out).mono ?_; rintro e w9 ⟨A_i5, c_i5, rfl, hc_i5, h_i5, hbx⟩; have HB9 := Lib.hid hbx; have HT9 := Lib.hid (HT8.out.trans (HB9.out.mono HT8.out.size)); have HS9 := Lib.hid (HS8.out.trans (HB9.out.mono HS8.out.size)); have H_i5 := Lib.hid h_i5; clear h_i5; have HKc := Lib.hid (K3.below hbx HKc.out))
    | (go_at_call 55; refine (add_z w7 (zneg p1) u A_i3 C c_i3 cc (dig p1.natAbs) zs p1 c H_i3.out (Nc.out.below HS7.out) (zv_dig _) HVc.out (Nat.le_trans HL_p1.out (by omega)) (by omega) hc_i3 hcc p3 HE_p3.out).mono ?_; rintro e w8 ⟨A_i4, c_i4, rfl, hc_i4, h_i4, hbx⟩; have HB8 := Lib.hid hbx; have HT8 := Lib.hid (HT7.out.trans (HB8.out.mono HT7.out.size)); have HS8 := Lib.hid (HS7.out.trans (HB8.out.mono HS7.out.size)); have H_i4 := Lib.hid h_i4; clear h_i4; have HKc := Lib.hid (K3.below hbx HKc.out))
    | (go_at_call 55; refine (add_z w6 s t A B ca cb xs ys a b (Na.out.below HS6.out) (Nb.out.below HS6.out) HVa.out HVb.out (by omega) (by omega) hac hbc p1 HE_p1.out).mono ?_; rintro e w7 ⟨A_i3, c_i3, rfl, hc_i3, h_i3, hbx⟩; have HB7 := Lib.hid hbx; have HT7 := Lib.hid (HT6.out.trans (HB7.out.mono HT6.out.size)); have HS7 := Lib.hid (HS6.out.trans (HB7.out.mono HS6.out.size)); have H_i3 := Lib.hid h_i3; clear h_i3; have HKc := Lib.hid (K3.below hbx HKc.out))
    | (go_at_call 42; refine (same2_any w5 A_i1 A_i2 c_i1 c_i2 p1 p2 (H_i1.out.below HB5.out) H_i2.out HQ1.out (Nat.le_trans HL_p1.out (by omega))).mono ?_; rintro e w6 ⟨rfl, hbx⟩; have HB6 := Lib.hid hbx; have HT6 := Lib.hid (HT5.out.trans (HB6.out.mono HT5.out.size)); have HS6 := Lib.hid (HS5.out.trans (HB6.out.mono HS5.out.size)); have HKc := Lib.hid (K3.below hbx HKc.out))
    | (go_at_call 55; refine (add_z w4 t s B A cb ca ys xs b a (Nb.out.below HS4.out) (Na.out.below HS4.out) HVb.out HVa.out (by omega) (by omega) hbc hac p2 HE_p2.out).mono ?_; rintro e w5 ⟨A_i2, c_i2, rfl, hc_i2, h_i2, hbx⟩; have HB5 := Lib.hid hbx; have HT5 := Lib.hid (HT4.out.trans (HB5.out.mono HT4.out.size)); have HS5 := Lib.hid (HS4.out.trans (HB5.out.mono HS4.out.size)); have H_i2 := Lib.hid h_i2; clear h_i2; have HKc := Lib.hid (K3.below hbx HKc.out))
    | (go_at_call 55; refine (add_z w3.drew s t A B ca cb xs ys a b ((Na.out.below HS3.out)).drew ((Nb.out.below HS3.out)).drew HVa.out HVb.out (by omega) (by omega) hac hbc p1 HE_p1.out).mono ?_; rintro e w4 ⟨A_i1, c_i1, rfl, hc_i1, h_i1, hbx⟩; have hbx := Below.of_drew hbx; have HB4 := Lib.hid hbx; have HT4 := Lib.hid (HT3.out.trans (HB4.out.mono HT3.out.size)); have HS4 := Lib.hid (HS3.out.trans (HB4.out.mono HS3.out.size)); have H_i1 := Lib.hid h_i1; clear h_i1; have HKc := Lib.hid (K3.below hbx HKc.out))
   )
  obtain ⟨k0, k1, k2, k3, k4, k5⟩ := HKc.out
  go_upto_region 5 with fail
  go_region_held3 (fun W => W.cell? ⟨w.heap.size, 0, none⟩ = some (.bool s) ∧ W.cell? ⟨w.heap.size, 1, none⟩ = some (.slice A xs.length ca) ∧ W.cell? ⟨w.heap.size + 1, 0, none⟩ = some (.bool t) ∧ W.cell? ⟨w.heap.size + 1, 1, none⟩ = some (.slice B ys.length cb) ∧ W.cell? ⟨w.heap.size + 1 + 1, 0, none⟩ = some (.bool u) ∧ W.cell? ⟨w.heap.size + 1 + 1, 1, none⟩ = some (.slice C zs.length cc))
   (first | exact HKc.out | exact K3.drew HKc.out)
   (first
    | (go_at_call 42; refine (same2_any w42 A_r4 A_r6 c_r4 c_r6 m8 n3 ((H_r4.out.below HB41.out).below HB42.out) H_r6.out HQA.out (Nat.le_trans HL_m8.out (by omega))).mono ?_; rintro e w43 ⟨rfl, hbx⟩; have HB43 := Lib.hid hbx; have HT43 := Lib.hid (HT42.out.trans (HB43.out.mono HT42.out.size)); have HS43 := Lib.hid (HS42.out.trans (HB43.out.mono HS42.out.size)); have HKc := Lib.hid (K3.below hbx HKc.out))
    | (go_at_call 41; refine (neg_z w41 (zneg m1) A_r5 c_r5 (dig m1.natAbs) m1 H_r5.out (zv_dig _) (Nat.le_trans HL_m1.out (by omega)) hc_r5 n3 HE_n3.out).mono ?_; rintro e w42 ⟨A_r6, c_r6, rfl, hc_r6, h_r6, hbx⟩; have HB42 := Lib.hid hbx; have HT42 := Lib.hid (HT41.out.trans (HB42.out.mono HT41.out.size)); have HS42 := Lib.hid (HS41.out.trans (HB42.out.mono HS41.out.size)); have H_r6 := Lib.hid h_r6; clear h_r6; have HKc := Lib.hid (K3.below hbx HKc.out))
    | (go_at_call 59; refine (mul_z w40 s t A B ca cb xs ys a b (Na.out.below HS40.out) (Nb.out.below HS40.out) HVa.out HVb.out (by omega) (by omega) hac hbc m1 HE_m1.out).mono ?_; rintro e w41 ⟨A_r5, c_r5, rfl, hc_r5, h_r5, hbx⟩; have HB41 := Lib.hid hbx; have HT41 := Lib.hid (HT40.out.trans (HB41.out.mono HT40.out.size)); have HS41 := Lib.hid (HS40.out.trans (HB41.out.mono HS40.out.size)); have H_r5 := Lib.hid h_r5; clear h_r5; have HKc := Lib.hid (K3.below hbx HKc.out))
    | (go_at_call 59; refine (mul_z w39 (zneg n1) t A_r3 B c_r3 cb (dig n1.natAbs) ys n1 b H_r3.out (Nb.out.below HS39.out) (zv_dig _) HVb.out (Nat.le_trans HL_n1.out (by omega)) (by omega) hc_r3 hbc m8 HE_m8.out).mono ?_; rintro e w40 ⟨A_r4, c_r4, rfl, hc_r4, h_r4, hbx⟩; have HB40 := Lib.hid hbx; have HT40 := Lib.hid (HT39.out.trans (HB40.out.mono HT39.out.size)); have HS40 := Lib.hid (HS39.out.trans (HB40.out.mono HS39.out.size)); have H_r4 := Lib.hid h_r4; clear h_r4; have HKc := Lib.hid (K3.below hbx HKc.out))
    | (go_at_call 41; refine (neg_z w38 s A ca xs a (Na.out.below HS38.out) HVa.out (by omega) hac n1 HE_n1.out).mono ?_; rintro e w39 ⟨A_r3, c_r3, rfl, hc_r3, h_r3, hbx⟩; have HB39 := Lib.hid hbx; have HT39 := Lib.hid (HT38.out.trans (HB39.out.mono HT38.out.size)); have HS39 := Lib.hid (HS38.out.trans (HB39.out.mono HS38.out.size)); have H_r3 := Lib.hid h_r3; clear h_r3; have HKc := Lib.hid (K3.below hbx HKc.out))
    | (go_at_call 42; refine (same2_any w37 A_q8 A_r2 c_q8 c_r2 m6 d2 (((H_q8.out.below HB35.out).below HB36.out).below HB37.out) H_r2.out HQ9.out (Nat.le_trans HL_m6.out (by omega))).mono ?_; rintro e w38 ⟨rfl, hbx⟩; have HB38 := Lib.hid hbx; have HT38 := Lib.hid (HT37.out.trans (HB38.out.mono HT37.out.size)); have HS38 := Lib.hid (HS37.out.trans (HB38.out.mono HS37.out.size)); have HKc := Lib.hid (K3.below hbx HKc.out))
    | (go_at_call 57; refine (sub_z w36 (zneg m1) (zneg m7) A_q9 A_r1 c_q9 c_r1 (dig m1.natAbs) (dig m7.natAbs) m1 m7 (H_q9.out.below HB36.out) H_r1.out (zv_dig _) (zv_dig _) (Nat.le_trans HL_m1.out (by omega)) (Nat.le_trans HL_m7.out (by omega)) hc_q9 hc_r1 d2 HE_d2.out).mono ?_; rintro e w37 ⟨A_r2, c_r2, rfl, hc_r2, h_r2, hbx⟩; have HB37 := Lib.hid hbx; have HT37 := Lib.hid (HT36.out.trans (HB37.out.mono HT36.out.size)); have HS37 := Lib.hid (HS36.out.trans (HB37.out.mono HS36.out.size)); have H_r2 := Lib.hid h_r2; clear h_r2; have HKc := Lib.hid (K3.below hbx HKc.out))
    | (go_at_call 59; refine (mul_z w35 s u A C ca cc xs zs a c (Na.out.below HS35.out) (Nc.out.below HS35.out) HVa.out HVc.out (by omega) (by omega) hac hcc m7 HE_m7.out).mono ?_; rintro e w36 ⟨A_r1, c_r1, rfl, hc_r1, h_r1, hbx⟩; have HB36 := Lib.hid hbx; have HT36 := Lib.hid (HT35.out.trans (HB36.out.mono HT35.out.size)); have HS36 := Lib.hid (HS35.out.trans (HB36.out.mono HS35.out.size)); have H_r1 := Lib.hid h_r1; clear h_r1; have HKc := Lib.hid (K3.below hbx HKc.out))
    | (go_at_call 59; refine (mul_z w34 s t A B ca cb xs ys a b (Na.out.below HS34.out) (Nb.out.below HS34.out) HVa.out HVb.out (by omega) (by omega) hac hbc m1 HE_m1.out).mono ?_; rintro e w35 ⟨A_q9, c_q9, rfl, hc_q9, h_q9, hbx⟩; have HB35 := Lib.hid hbx; have HT35 := Lib.hid (HT34.out.trans (HB35.out.mono HT34.out.size)); have HS35 := Lib.hid (HS34.out.trans (HB35.out.mono HS34.out.size)); have H_q9 := Lib.hid h_q9; clear h_q9; have HKc := Lib.hid (K3.below hbx HKc.out))
    | (go_at_call 59; refine (mul_z w33 s (zneg d1) A A_q7 ca c_q7 xs (dig d1.natAbs) a d1 (Na.out.below HS33.out) H_q7.out HVa.out (zv_dig _) (by omega) (Nat.le_trans HL_d1.out (by omega)) hac hc_q7 m6 HE_m6.out).mono ?_; rintro e w34 ⟨A_q8, c_q8, rfl, hc_q8, h_q8, hbx⟩; have HB34 := Lib.hid hbx; have HT34 := Lib.hid (HT33.out.trans (HB34.out.mono HT33.out.size)); have HS34 := Lib.hid (HS33.out.trans (HB34.out.mono HS33.out.size)); have H_q8 := Lib.hid h_q8; clear h_q8; have HKc := Lib.hid (K3.below hbx HKc.out))
    | (go_at_call 57; refine (sub_z w32 t u B C cb cc ys zs b c (Nb.out.below HS32.out) (Nc.out.below HS32.out) HVb.out HVc.out (by omega) (by omega) hbc hcc d1 HE_d1.out).mono ?_; rintro e w33 ⟨A_q7, c_q7, rfl, hc_q7, h_q7, hbx⟩; have HB33 := Lib.hid hbx; have HT33 := Lib.hid (HT32.out.trans (HB33.out.mono HT32.out.size)); have HS33 := Lib.hid (HS32.out.trans (HB33.out.mono HS32.out.size)); have H_q7 := Lib.hid h_q7; clear h_q7; have HKc := Lib.hid (K3.below hbx HKc.out))
    | (go_at_call 42; refine (same2_any w31 A_q4 A_q6 c_q4 c_q6 m3 m5 ((H_q4.out.below HB30.out).below HB31.out) H_q6.out HQ8.out (Nat.le_trans HL_m3.out (by omega))).mono ?_; rintro e w32 ⟨rfl, hbx⟩; have HB32 := Lib.hid hbx; have HT32 := Lib.hid (HT31.out.trans (HB32.out.mono HT31.out.size)); have HS32 := Lib.hid (HS31.out.trans (HB32.out.mono HS31.out.size)); have HKc := Lib.hid (K3.below hbx HKc.out))
    | (go_at_call 59; refine (mul_z w30 s (zneg m4) A A_q5 ca c_q5 xs (dig m4.natAbs) a m4 (Na.out.below HS30.out) H_q5.out HVa.out (zv_dig _) (by omega) (Nat.le_trans HL_m4.out (by omega)) hac hc_q5 m5 HE_m5.out).mono ?_; rintro e w31 ⟨A_q6, c_q6, rfl, hc_q6, h_q6, hbx⟩; have HB31 := Lib.hid hbx; have HT31 := Lib.hid (HT30.out.trans (HB31.out.mono HT30.out.size)); have HS31 := Lib.hid (HS30.out.trans (HB31.out.mono HS30.out.size)); have H_q6 := Lib.hid h_q6; clear h_q6; have HKc := Lib.hid (K3.below hbx HKc.out))
    | (go_at_call 59; refine (mul_z w29 t u B C cb cc ys zs b c (Nb.out.below HS29.out) (Nc.out.below HS29.out) HVb.out HVc.out (by omega) (by omega) hbc hcc m4 HE_m4.out).mono ?_; rintro e w30 ⟨A_q5, c_q5, rfl, hc_q5, h_q5, hbx⟩; have HB30 := Lib.hid hbx; have HT30 := Lib.hid (HT29.out.trans (HB30.out.mono HT29.out.size)); have HS30 := Lib.hid (HS29.out.trans (HB30.out.mono HS29.out.size)); have H_q5 := Lib.hid h_q5; clear h_q5; have HKc := Lib.hid (K3.below hbx HKc.out))
    | (go_at_call 59; refine (mul_z w28 (zneg m1) u A_q3 C c_q3 cc (dig m1.natAbs) zs m1 c H_q3.out (Nc.out.below HS28.out) (zv_dig _) HVc.out (Nat.le_trans HL_m1.out (by omega)) (by omega) hc_q3 hcc m3 HE_m3.out).mono ?_; rintro e w29 ⟨A_q4, c_q4, rfl, hc_q4, h_q4, hbx⟩; have HB29 := Lib.hid hbx; have HT29 := Lib.hid (HT28.out.trans (HB29.out.mono HT28.out.size)); have HS29 := Lib.hid (HS28.out.trans (HB29.out.mono HS28.out.size)); have H_q4 := Lib.hid h_q4; clear h_q4; have HKc := Lib.hid (K3.below hbx HKc.out))
    | (go_at_call 59; refine (mul_z w27 s t A B ca cb xs ys a b (Na.out.below HS27.out) (Nb.out.below HS27.out) HVa.out HVb.out (by omega) (by omega) hac hbc m1 HE_m1.out).mono ?_; rintro e w28 ⟨A_q3, c_q3, rfl, hc_q3, h_q3, hbx⟩; have HB28 := Lib.hid hbx; have HT28 := Lib.hid (HT27.out.trans (HB28.out.mono HT27.out.size)); have HS28 := Lib.hid (HS27.out.trans (HB28.out.mono HS27.out.size)); have H_q3 := Lib.hid h_q3; clear h_q3; have HKc := Lib.hid (K3.below hbx HKc.out))
    | (go_at_call 42; refine (same2_any w26 A_q1 A_q2 c_q1 c_q2 m1 m2 (H_q1.out.below HB26.out) H_q2.out HQ7.out (Nat.le_trans HL_m1.out (by omega))).mono ?_; rintro e w27 ⟨rfl, hbx⟩; have HB27 := Lib.hid hbx; have HT27 := Lib.hid (HT26.out.trans (HB27.out.mono HT26.out.size)); have HS27 := Lib.hid (HS26.out.trans (HB27.out.mono HS26.out.size)); have HKc := Lib.hid (K3.below hbx HKc.out))
    | (go_at_call 59; refine (mul_z w25 t s B A cb ca ys xs b a (Nb.out.below HS25.out) (Na.out.below HS25.out) HVb.out HVa.out (by omega) (by omega) hbc hac m2 HE_m2.out).mono ?_; rintro e w26 ⟨A_q2, c_q2, rfl, hc_q2, h_q2, hbx⟩; have HB26 := Lib.hid hbx; have HT26 := Lib.hid (HT25.out.trans (HB26.out.mono HT25.out.size)); have HS26 := Lib.hid (HS25.out.trans (HB26.out.mono HS25.out.size)); have H_q2 := Lib.hid h_q2; clear h_q2; have HKc := Lib.hid (K3.below hbx HKc.out))
    | (go_at_call 59; refine (mul_z w24.drew s t A B ca cb xs ys a b ((Na.out.below HS24.out)).drew ((Nb.out.below HS24.out)).drew HVa.out HVb.out (by omega) (by omega) hac hbc m1 HE_m1.out).mono ?_; rintro e w25 ⟨A_q1, c_q1, rfl, hc_q1, h_q1, hbx⟩; have hbx := Below.of_drew hbx; have HB25 := Lib.hid hbx; have HT25 := Lib.hid (HT24.out.trans (HB25.out.mono HT24.out.size)); have HS25 := Lib.hid (HS24.out.trans (HB25.out.mono HS24.out.size)); have H_q1 := Lib.hid h_q1; clear h_q1; have HKc := Lib.hid (K3.below hbx HKc.out))
   )
  obtain ⟨k0, k1, k2, k3, k4, k5⟩ := HKc.out
  go_wp2_with fail
  refine (awake2_any w43).mono ?_
  rintro e w44 ⟨rfl, hbx⟩
  have HB44 := Lib.hid hbx
  have HT44 := Lib.hid (HT43.out.trans (HB44.out.mono HT43.out.size))
  have HS44 := Lib.hid (HS43.out.trans (HB44.out.mono HS43.out.size))
  clear hbx
  go_wp2_with fail
  go_ret
  exact ⟨rfl, HT44.out⟩
end Go.Proofs.Ytmcfdgcncpfilaa
