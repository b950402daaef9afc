/- WholeOrder: its walk, by one of three ways. -/
import Derived.Test.YtmcfdgcncpfilaaWholeL0
namespace Go.Proofs.Ytmcfdgcncpfilaa
open Go.RowKit

set_option maxRecDepth 100000 in
set_option maxHeartbeats 16000000 in
theorem worder_2 (w : World) (s t u : Bool) (A B C : Option Addr) (ca cb cc : Nat) (xs ys zs : List Nat) (a b c : Int) (ha : Num w A xs) (hb : Num w B ys) (hc : Num w C zs) (hva : zv s (val xs) = a) (hvb : zv t (val ys) = b) (hvc : zv u (val zs) = c) (hac : xs.length ≤ ca) (hbc : ys.length ≤ cb) (hcc : zs.length ≤ cc) (l1 : xs.length ≤ 40) (l2 : ys.length ≤ 40) (l3 : zs.length ≤ 40) (way : ¬ 0 < zcmp a b) (way2 : 0 < zcmp b c) :
    Calls Try.prog 12 #[.agg #[.bool s, .slice A xs.length ca], .agg #[.bool t, .slice B ys.length cb], .agg #[.bool u, .slice C zs.length cc]] w (RetB w true) := by
  have WAY := Lib.hid way
  have WAY2 := Lib.hid way2
  clear way2
  clear way
  have HVa := Lib.hid hva
  have HVb := Lib.hid hvb
  have HVc := Lib.hid hvc
  have HL_a : Hid (zl a ≤ 40) := Nat.le_trans (zl_val ha.1 hva) l1
  have HL_b : Hid (zl b ≤ 40) := Nat.le_trans (zl_val hb.1 hvb) l2
  have HL_c : Hid (zl c ≤ 40) := Nat.le_trans (zl_val hc.1 hvc) l3
  have Ha := Lib.hid ha
  have Hb := Lib.hid hb
  have Hc := Lib.hid hc
  clear ha hb hc hva hvb hvc
  obtain ⟨d, he_d⟩ : ∃ v : Int, a - b = v := ⟨_, rfl⟩
  have HL_d : Hid (zl d ≤ 81) := by
    have h := And.intro (zl_sub a b) (And.intro HL_a.out HL_b.out)
    rw [he_d] at h
    show _ ≤ _
    omega
  have HE_d := Lib.hid he_d
  clear he_d
  obtain ⟨s1, he_s1⟩ : ∃ v : Int, a + c = v := ⟨_, rfl⟩
  have HL_s1 : Hid (zl s1 ≤ 81) := by
    have h := And.intro (zl_add a c) (And.intro HL_a.out HL_c.out)
    rw [he_s1] at h
    show _ ≤ _
    omega
  have HE_s1 := Lib.hid he_s1
  clear he_s1
  obtain ⟨s2, he_s2⟩ : ∃ v : Int, b + c = v := ⟨_, rfl⟩
  have HL_s2 : Hid (zl s2 ≤ 81) := by
    have h := And.intro (zl_add b c) (And.intro HL_b.out HL_c.out)
    rw [he_s2] at h
    show _ ≤ _
    omega
  have HE_s2 := Lib.hid he_s2
  clear he_s2
  obtain ⟨m1, he_m1⟩ : ∃ v : Int, a * c = v := ⟨_, rfl⟩
  have HL_m1 : Hid (zl m1 ≤ 80) := by
    have h := And.intro (zl_mul a c) (And.intro HL_a.out HL_c.out)
    rw [he_m1] at h
    show _ ≤ _
    omega
  have HE_m1 := Lib.hid he_m1
  clear he_m1
  obtain ⟨m2, he_m2⟩ : ∃ v : Int, b * c = v := ⟨_, rfl⟩
  have HL_m2 : Hid (zl m2 ≤ 80) := by
    have h := And.intro (zl_mul b c) (And.intro HL_b.out HL_c.out)
    rw [he_m2] at h
    show _ ≤ _
    omega
  have HE_m2 := Lib.hid he_m2
  clear he_m2
  obtain ⟨m3, he_m3⟩ : ∃ v : Int, a * b = v := ⟨_, rfl⟩
  have HL_m3 : Hid (zl m3 ≤ 80) := by
    have h := And.intro (zl_mul a b) (And.intro HL_a.out HL_b.out)
    rw [he_m3] at h
    show _ ≤ _
    omega
  have HE_m3 := Lib.hid he_m3
  clear he_m3
  obtain ⟨q, he_q⟩ : ∃ v : Int, a / b = v := ⟨_, rfl⟩
  have HL_q : Hid (zl q ≤ 42) := by
    have h := And.intro (zl_div a b) HL_a.out
    rw [he_q] at h
    show _ ≤ _
    omega
  have HE_q := Lib.hid he_q
  clear he_q
  obtain ⟨r, he_r⟩ : ∃ v : Int, zrem a b = v := ⟨_, rfl⟩
  have HL_r : Hid (zl r ≤ 40) := by
    have h := And.intro (zl_rem a b) (And.intro HL_a.out HL_b.out)
    rw [he_r] at h
    show _ ≤ _
    omega
  have HE_r := Lib.hid he_r
  clear he_r
  obtain ⟨g, he_g⟩ : ∃ v : Int, q * b = v := ⟨_, rfl⟩
  have HL_g : Hid (zl g ≤ 82) := by
    have h := And.intro (zl_mul q b) (And.intro HL_q.out HL_b.out)
    rw [he_g] at h
    show _ ≤ _
    omega
  have HE_g := Lib.hid he_g
  clear he_g
  obtain ⟨ab, he_ab⟩ : ∃ v : Int, ((b.natAbs : Nat) : Int) = v := ⟨_, rfl⟩
  have HL_ab : Hid (zl ab ≤ 40) := by
    have h := And.intro (Nat.le_of_eq (zl_abs b)) HL_b.out
    rw [he_ab] at h
    show _ ≤ _
    omega
  have HE_ab := Lib.hid he_ab
  clear he_ab
  obtain ⟨k, he_k⟩ : ∃ v : Int, zcmp a b = v := ⟨_, rfl⟩
  have HE_k := Lib.hid he_k
  clear he_k
  obtain ⟨nk, he_nk⟩ : ∃ v : Int, zcmp b a = v := ⟨_, rfl⟩
  have HE_nk := Lib.hid he_nk
  clear he_nk
  obtain ⟨sc, he_sc⟩ : ∃ v : Int, c.sign = v := ⟨_, rfl⟩
  have HE_sc := Lib.hid he_sc
  clear he_sc
  obtain ⟨ks, he_ks⟩ : ∃ v : Int, zcmp m1 m2 = v := ⟨_, rfl⟩
  have HE_ks := Lib.hid he_ks
  clear he_ks
  obtain ⟨sab, he_sab⟩ : ∃ v : Int, m3.sign = v := ⟨_, rfl⟩
  have HE_sab := Lib.hid he_sab
  clear he_sab
  obtain ⟨sa, he_sa⟩ : ∃ v : Int, a.sign = v := ⟨_, rfl⟩
  have HE_sa := Lib.hid he_sa
  clear he_sa
  obtain ⟨sb, he_sb⟩ : ∃ v : Int, b.sign = v := ⟨_, rfl⟩
  have HE_sb := Lib.hid he_sb
  clear he_sb
  obtain ⟨kbc, he_kbc⟩ : ∃ v : Int, zcmp b c = v := ⟨_, rfl⟩
  have HE_kbc := Lib.hid he_kbc
  clear he_kbc
  obtain ⟨kac, he_kac⟩ : ∃ v : Int, zcmp a c = v := ⟨_, rfl⟩
  have HE_kac := Lib.hid he_kac
  clear he_kac
  obtain ⟨sr, he_sr⟩ : ∃ v : Int, r.sign = v := ⟨_, rfl⟩
  have HE_sr := Lib.hid he_sr
  clear he_sr
  obtain ⟨kr, he_kr⟩ : ∃ v : Int, zcmp r ab = v := ⟨_, rfl⟩
  have HE_kr := Lib.hid he_kr
  clear he_kr
  have HQ1 : Hid (d.sign = k) := by
    show _ = _
    rw [← HE_d.out, ← HE_k.out]
    exact (zcmp_sub a b).symm
  have HQ2 : Hid (zcmp s1 s2 = k) := by
    show _ = _
    rw [← HE_s1.out, ← HE_s2.out, ← HE_k.out, zcmp_sub, zcmp_sub]
    congr 1
    omega
  have hw1 : IntKind.i64.wrap (-nk) = k := by rw [← HE_nk.out, ← HE_k.out, zcmp_swap, Int.neg_neg]; exact IntWalk.i64_in _ (by have := zcmp_bound a b; omega)
  have hw2 : IntKind.i64.wrap (k * sc) = ks := by
    have h : k * sc = ks := by rw [← HE_k.out, ← HE_sc.out, ← HE_ks.out, ← HE_m1.out, ← HE_m2.out, zcmp_sub, zcmp_sub, ← Int.sub_mul, Int.sign_mul]
    rw [h, ← HE_ks.out]; exact IntWalk.i64_in _ (by have := zcmp_bound m1 m2; omega)
  have hw3 : IntKind.i64.wrap (sa * sb) = sab := by
    have h : sa * sb = sab := by rw [← HE_sa.out, ← HE_sb.out, ← HE_sab.out, ← HE_m3.out, Int.sign_mul]
    rw [h, ← HE_sab.out]; have hz := zcmp_sub m3 0; rw [Int.sub_zero] at hz; rw [← hz]; exact IntWalk.i64_in _ (by have := zcmp_bound m3 0; omega)
  go_enter Try.func12, Try.ntmps12
  go_wp2_with fail
  have HKc := Lib.hid (K3.base w (.bool s) (.slice A xs.length ca) (.bool t) (.slice B ys.length cb) (.bool u) (.slice C zs.length cc) 43 43 43)
  have HT0 : Hid (Below w.heap.size w (((w.alloc (.cells #[.bool s, .slice A xs.length ca] 43)).alloc (.cells #[.bool t, .slice B ys.length cb] 43)).alloc (.cells #[.bool u, .slice C zs.length cc] 43))) := (((Below.refl _ _).alloc (Nat.le_refl _) _).alloc (by simp) _).alloc (by simp; omega) _
  have hw0 : ∃ W, W = (((w.alloc (.cells #[.bool s, .slice A xs.length ca] 43)).alloc (.cells #[.bool t, .slice B ys.length cb] 43)).alloc (.cells #[.bool u, .slice C zs.length cc] 43)) := ⟨_, rfl⟩
  obtain ⟨w0, hw0⟩ := hw0
  rw [← hw0] at HKc HT0
  rw [← hw0]
  clear hw0
  have Na := Lib.hid (Ha.out.below HT0.out)
  have Nb := Lib.hid (Hb.out.below HT0.out)
  have Nc := Lib.hid (Hc.out.below HT0.out)
  have HK0 := HKc
  obtain ⟨k0, k1, k2, k3, k4, k5⟩ := HKc.out
  refine (short_t w0 s A xs.length ca 40 (by omega)).mono ?_
  rintro e w1 ⟨rfl, hbx⟩
  have HB1 := Lib.hid hbx
  have HT1 := Lib.hid (HT0.out.trans (HB1.out.mono HT0.out.size))
  have HS1 := HB1
  have HKc := Lib.hid (K3.below hbx HKc.out)
  obtain ⟨k0, k1, k2, k3, k4, k5⟩ := HKc.out
  clear hbx
  go_wp2_with fail
  refine (short_t w1 t B ys.length cb 40 (by omega)).mono ?_
  rintro e w2 ⟨rfl, hbx⟩
  have HB2 := Lib.hid hbx
  have HT2 := Lib.hid (HT1.out.trans (HB2.out.mono HT1.out.size))
  have HS2 := Lib.hid (HS1.out.trans (HB2.out.mono HS1.out.size))
  have HKc := Lib.hid (K3.below hbx HKc.out)
  obtain ⟨k0, k1, k2, k3, k4, k5⟩ := HKc.out
  clear hbx
  go_wp2_with fail
  refine (short_t w2 u C zs.length cc 40 (by omega)).mono ?_
  rintro e w3 ⟨rfl, hbx⟩
  have HB3 := Lib.hid hbx
  have HT3 := Lib.hid (HT2.out.trans (HB3.out.mono HT2.out.size))
  have HS3 := Lib.hid (HS2.out.trans (HB3.out.mono HS2.out.size))
  have HKc := Lib.hid (K3.below hbx HKc.out)
  obtain ⟨k0, k1, k2, k3, k4, k5⟩ := HKc.out
  clear hbx
  go_wp2_with fail
  refine (cmp_z w3 s t A B ca cb xs ys a b (Na.out.below HS3.out) (Nb.out.below HS3.out) HVa.out HVb.out (by omega) (by omega) hac hbc k HE_k.out).mono ?_
  rintro e w4 ⟨rfl, hbx⟩
  have HB4 := Lib.hid hbx
  have HT4 := Lib.hid (HT3.out.trans (HB4.out.mono HT3.out.size))
  have HS4 := Lib.hid (HS3.out.trans (HB4.out.mono HS3.out.size))
  have HKc := Lib.hid (K3.below hbx HKc.out)
  obtain ⟨k0, k1, k2, k3, k4, k5⟩ := HKc.out
  clear hbx
  go_upto_region 4 with fail
  simp only [List.append_eq, List.cons_append, List.nil_append]
  rw [show ({ dst := some 89, op := Op.load 43 (Operand.tmp 3), type := 43, pos := "outright.go:30", after := #[{ on := 60, ground := Ground.guard }], guard := some (60, false) } : Oper) = { dst := some 89, op := hideP (Op.load 43 (Operand.tmp 3)), type := 43, pos := "outright.go:30", after := #[{ on := 60, ground := Ground.guard }], guard := some (60, false) } from rfl]
  rw [show ({ dst := some 90, op := Op.load 43 (Operand.tmp 5), type := 43, pos := "outright.go:30", after := #[{ on := 60, ground := Ground.guard }], guard := some (60, false) } : Oper) = { dst := some 90, op := hideP (Op.load 43 (Operand.tmp 5)), type := 43, pos := "outright.go:30", after := #[{ on := 60, ground := Ground.guard }], guard := some (60, false) } from rfl]
  rw [show ({ dst := some 92, op := Op.binOp BinOp.leq 3 (Operand.tmp 91) (Operand.const (Value.int IntKind.i64 0)) 3, type := 4, pos := "outright.go:30", after := #[{ on := 63, ground := Ground.data }, { on := 60, ground := Ground.guard }], guard := some (60, false) } : Oper) = { dst := some 92, op := hideP (Op.binOp BinOp.leq 3 (Operand.tmp 91) (Operand.const (Value.int IntKind.i64 0)) 3), type := 4, pos := "outright.go:30", after := #[{ on := 63, ground := Ground.data }, { on := 60, ground := Ground.guard }], guard := some (60, false) } from rfl]
  go_cut [8] (fun s8 wx => s8 = .bool true ∧ Below w0.heap.size w0 wx)
  case first =>
    have g1 : ¬ 0 < k := by rw [← HE_k.out]; have := WAY.out; omega
    have d1 : decide (0 < k) = false := decide_eq_false g1
    have g2 : 0 < kbc := by rw [← HE_kbc.out]; have := WAY2.out; omega
    have d2 : decide (0 < kbc) = true := decide_eq_true g2
    go_region_held3 (fun W => W.cell? ⟨w.heap.size, 0, none⟩ = some (.bool s) ∧ W.cell? ⟨w.heap.size, 1, none⟩ = some (.slice A xs.length ca) ∧ W.cell? ⟨w.heap.size + 1, 0, none⟩ = some (.bool t) ∧ W.cell? ⟨w.heap.size + 1, 1, none⟩ = some (.slice B ys.length cb) ∧ W.cell? ⟨w.heap.size + 1 + 1, 0, none⟩ = some (.bool u) ∧ W.cell? ⟨w.heap.size + 1 + 1, 1, none⟩ = some (.slice C zs.length cc))
     (first | exact HKc.out | exact K3.drew HKc.out)
     (first
      | (go_at_call 46; refine (cmp_z w18 t u B C cb cc ys zs b c (Nb.out.below HS18.out) (Nc.out.below HS18.out) HVb.out HVc.out (by omega) (by omega) hbc hcc kbc HE_kbc.out).mono ?_; rintro e w19 ⟨rfl, hbx⟩; have HB19 := Lib.hid hbx; have HT19 := Lib.hid (HT18.out.trans (HB19.out.mono HT18.out.size)); have HS19 := Lib.hid (HS18.out.trans (HB19.out.mono HS18.out.size)); have HKc := Lib.hid (K3.below hbx HKc.out))
      | (go_at_call 45; refine (sign_z w17 t B cb ys b (Nb.out.below HS17.out) HVb.out (by omega) hbc sb HE_sb.out).mono ?_; rintro e w18 ⟨rfl, hbx⟩; have HB18 := Lib.hid hbx; have HT18 := Lib.hid (HT17.out.trans (HB18.out.mono HT17.out.size)); have HS18 := Lib.hid (HS17.out.trans (HB18.out.mono HS17.out.size)); have HKc := Lib.hid (K3.below hbx HKc.out))
      | (go_at_call 45; refine (sign_z w16 s A ca xs a (Na.out.below HS16.out) HVa.out (by omega) hac sa HE_sa.out).mono ?_; rintro e w17 ⟨rfl, hbx⟩; have HB17 := Lib.hid hbx; have HT17 := Lib.hid (HT16.out.trans (HB17.out.mono HT16.out.size)); have HS17 := Lib.hid (HS16.out.trans (HB17.out.mono HS16.out.size)); have HKc := Lib.hid (K3.below hbx HKc.out))
      | (go_at_call 45; refine (sign_z w15 (zneg m3) A_i6 c_i6 (dig m3.natAbs) m3 H_i6.out (zv_dig _) (Nat.le_trans HL_m3.out (by omega)) hc_i6 sab HE_sab.out).mono ?_; rintro e w16 ⟨rfl, hbx⟩; have HB16 := Lib.hid hbx; have HT16 := Lib.hid (HT15.out.trans (HB16.out.mono HT15.out.size)); have HS16 := Lib.hid (HS15.out.trans (HB16.out.mono HS15.out.size)); have HKc := Lib.hid (K3.below hbx HKc.out))
      | (go_at_call 59; refine (mul_z w14 s t A B ca cb xs ys a b (Na.out.below HS14.out) (Nb.out.below HS14.out) HVa.out HVb.out (by omega) (by omega) hac hbc m3 HE_m3.out).mono ?_; rintro e w15 ⟨A_i6, c_i6, rfl, hc_i6, h_i6, hbx⟩; have HB15 := Lib.hid hbx; have HT15 := Lib.hid (HT14.out.trans (HB15.out.mono HT14.out.size)); have HS15 := Lib.hid (HS14.out.trans (HB15.out.mono HS14.out.size)); have H_i6 := Lib.hid h_i6; clear h_i6; have HKc := Lib.hid (K3.below hbx HKc.out))
      | (go_at_call 46; refine (cmp_z w13 (zneg m1) (zneg m2) A_i4 A_i5 c_i4 c_i5 (dig m1.natAbs) (dig m2.natAbs) m1 m2 (H_i4.out.below HB13.out) H_i5.out (zv_dig _) (zv_dig _) (Nat.le_trans HL_m1.out (by omega)) (Nat.le_trans HL_m2.out (by omega)) hc_i4 hc_i5 ks HE_ks.out).mono ?_; rintro e w14 ⟨rfl, hbx⟩; have HB14 := Lib.hid hbx; have HT14 := Lib.hid (HT13.out.trans (HB14.out.mono HT13.out.size)); have HS14 := Lib.hid (HS13.out.trans (HB14.out.mono HS13.out.size)); have HKc := Lib.hid (K3.below hbx HKc.out))
      | (go_at_call 59; refine (mul_z w12 t u B C cb cc ys zs b c (Nb.out.below HS12.out) (Nc.out.below HS12.out) HVb.out HVc.out (by omega) (by omega) hbc hcc m2 HE_m2.out).mono ?_; rintro e w13 ⟨A_i5, c_i5, rfl, hc_i5, h_i5, hbx⟩; have HB13 := Lib.hid hbx; have HT13 := Lib.hid (HT12.out.trans (HB13.out.mono HT12.out.size)); have HS13 := Lib.hid (HS12.out.trans (HB13.out.mono HS12.out.size)); have H_i5 := Lib.hid h_i5; clear h_i5; have HKc := Lib.hid (K3.below hbx HKc.out))
      | (go_at_call 59; refine (mul_z w11 s u A C ca cc xs zs a c (Na.out.below HS11.out) (Nc.out.below HS11.out) HVa.out HVc.out (by omega) (by omega) hac hcc m1 HE_m1.out).mono ?_; rintro e w12 ⟨A_i4, c_i4, rfl, hc_i4, h_i4, hbx⟩; have HB12 := Lib.hid hbx; have HT12 := Lib.hid (HT11.out.trans (HB12.out.mono HT11.out.size)); have HS12 := Lib.hid (HS11.out.trans (HB12.out.mono HS11.out.size)); have H_i4 := Lib.hid h_i4; clear h_i4; have HKc := Lib.hid (K3.below hbx HKc.out))
      | (go_at_call 45; refine (sign_z w10 u C cc zs c (Nc.out.below HS10.out) HVc.out (by omega) hcc sc HE_sc.out).mono ?_; rintro e w11 ⟨rfl, hbx⟩; have HB11 := Lib.hid hbx; have HT11 := Lib.hid (HT10.out.trans (HB11.out.mono HT10.out.size)); have HS11 := Lib.hid (HS10.out.trans (HB11.out.mono HS10.out.size)); have HKc := Lib.hid (K3.below hbx HKc.out))
      | (go_at_call 46; refine (cmp_z w9 (zneg s1) (zneg s2) A_i2 A_i3 c_i2 c_i3 (dig s1.natAbs) (dig s2.natAbs) s1 s2 (H_i2.out.below HB9.out) H_i3.out (zv_dig _) (zv_dig _) (Nat.le_trans HL_s1.out (by omega)) (Nat.le_trans HL_s2.out (by omega)) hc_i2 hc_i3 k HQ2.out).mono ?_; rintro e w10 ⟨rfl, hbx⟩; have HB10 := Lib.hid hbx; have HT10 := Lib.hid (HT9.out.trans (HB10.out.mono HT9.out.size)); have HS10 := Lib.hid (HS9.out.trans (HB10.out.mono HS9.out.size)); have HKc := Lib.hid (K3.below hbx HKc.out))
      | (go_at_call 55; refine (add_z w8 t u B C cb cc ys zs b c (Nb.out.below HS8.out) (Nc.out.below HS8.out) HVb.out HVc.out (by omega) (by omega) hbc hcc s2 HE_s2.out).mono ?_; rintro e w9 ⟨A_i3, c_i3, rfl, hc_i3, h_i3, hbx⟩; have HB9 := Lib.hid hbx; have HT9 := Lib.hid (HT8.out.trans (HB9.out.mono HT8.out.size)); have HS9 := Lib.hid (HS8.out.trans (HB9.out.mono HS8.out.size)); have H_i3 := Lib.hid h_i3; clear h_i3; have HKc := Lib.hid (K3.below hbx HKc.out))
      | (go_at_call 55; refine (add_z w7 s u A C ca cc xs zs a c (Na.out.below HS7.out) (Nc.out.below HS7.out) HVa.out HVc.out (by omega) (by omega) hac hcc s1 HE_s1.out).mono ?_; rintro e w8 ⟨A_i2, c_i2, rfl, hc_i2, h_i2, hbx⟩; have HB8 := Lib.hid hbx; have HT8 := Lib.hid (HT7.out.trans (HB8.out.mono HT7.out.size)); have HS8 := Lib.hid (HS7.out.trans (HB8.out.mono HS7.out.size)); have H_i2 := Lib.hid h_i2; clear h_i2; have HKc := Lib.hid (K3.below hbx HKc.out))
      | (go_at_call 46; refine (cmp_z w6 t s B A cb ca ys xs b a (Nb.out.below HS6.out) (Na.out.below HS6.out) HVb.out HVa.out (by omega) (by omega) hbc hac nk HE_nk.out).mono ?_; rintro e w7 ⟨rfl, hbx⟩; have HB7 := Lib.hid hbx; have HT7 := Lib.hid (HT6.out.trans (HB7.out.mono HT6.out.size)); have HS7 := Lib.hid (HS6.out.trans (HB7.out.mono HS6.out.size)); have HKc := Lib.hid (K3.below hbx HKc.out))
      | (go_at_call 45; refine (sign_z w5 (zneg d) A_i1 c_i1 (dig d.natAbs) d H_i1.out (zv_dig _) (Nat.le_trans HL_d.out (by omega)) hc_i1 k HQ1.out).mono ?_; rintro e w6 ⟨rfl, hbx⟩; have HB6 := Lib.hid hbx; have HT6 := Lib.hid (HT5.out.trans (HB6.out.mono HT5.out.size)); have HS6 := Lib.hid (HS5.out.trans (HB6.out.mono HS5.out.size)); have HKc := Lib.hid (K3.below hbx HKc.out))
      | (go_at_call 57; refine (sub_z w4.drew s t A B ca cb xs ys a b ((Na.out.below HS4.out)).drew ((Nb.out.below HS4.out)).drew HVa.out HVb.out (by omega) (by omega) hac hbc d HE_d.out).mono ?_; rintro e w5 ⟨A_i1, c_i1, rfl, hc_i1, h_i1, hbx⟩; have hbx := Below.of_drew hbx; have HB5 := Lib.hid hbx; have HT5 := Lib.hid (HT4.out.trans (HB5.out.mono HT4.out.size)); have HS5 := Lib.hid (HS4.out.trans (HB5.out.mono HS4.out.size)); have H_i1 := Lib.hid h_i1; clear h_i1; have HKc := Lib.hid (K3.below hbx HKc.out))
     )
    all_goals
      go_wp2_with fail
      go_meet
      case rel => exact ⟨rfl, HS19.out⟩
  case rest =>
    obtain ⟨rfl, hcb⟩ := hcut
    have HS100 := Lib.hid hcb
    have HT100 := Lib.hid (HT0.out.trans (hcb.mono HT0.out.size))
    have HKc := Lib.hid (K3.below hcb HK0.out)
    obtain ⟨k0, k1, k2, k3, k4, k5⟩ := HKc.out
    have Na := Lib.hid (Na.out.below hcb)
    have Nb := Lib.hid (Nb.out.below hcb)
    have Nc := Lib.hid (Nc.out.below hcb)
    clear hcb hw1 hw2 hw3
    by_cases hb0 : b = 0
    · have hsb : (sb == 0) = true := by rw [← HE_sb.out]; rw [hb0]; rfl
      have HQ3 : Hid (q = 0) := by show _ = _; rw [← HE_q.out, hb0, Int.ediv_zero]
      have HQ4 : Hid (r = 0) := by show _ = _; rw [← HE_r.out, hb0]; rfl
      have HB0 := Lib.hid hb0
      clear hb0
      go_upto_region 5 with fail
      go_wp2_with fail
      refine (divmod_z wc s t A B ca cb xs ys a b Na.out Nb.out HVa.out HVb.out (by omega) (by omega) hac hbc q r HE_q.out HE_r.out).mono ?_
      rintro e w101 ⟨A_q, c_q, A_r, c_r, rfl, hc_q, hc_r, h_q, h_r, hbx⟩
      have HBq := Lib.hid hbx
      have HKc := Lib.hid (K3.below hbx HKc.out)
      have HQn := Lib.hid h_q
      have HRn := Lib.hid h_r
      clear h_q h_r hbx
      go_upto_region 6 with fail
      have hC := C4.base w101 (.bool (zneg q)) (.slice A_q (dig q.natAbs).length c_q) (.bool (zneg r)) (.slice A_r (dig r.natAbs).length c_r) 43 43
      have hW : Below w101.heap.size w101 ((w101.alloc (.cells #[.bool (zneg q), .slice A_q (dig q.natAbs).length c_q] 43)).alloc (.cells #[.bool (zneg r), .slice A_r (dig r.natAbs).length c_r] 43)) := ((Below.refl _ _).alloc (Nat.le_refl _) _).alloc (by simp) _
      obtain ⟨w102, hw102⟩ : ∃ W, W = ((w101.alloc (.cells #[.bool (zneg q), .slice A_q (dig q.natAbs).length c_q] 43)).alloc (.cells #[.bool (zneg r), .slice A_r (dig r.natAbs).length c_r] 43)) := ⟨_, rfl⟩
      rw [← hw102] at hC hW
      rw [← hw102]
      clear hw102
      have HS101 : Hid (Below wc.heap.size wc w102) := HBq.out.trans (hW.mono HBq.out.size)
      have HT101 := Lib.hid (HT100.out.trans (HS101.out.mono HT100.out.size))
      have HK3 := K3.below hW HKc.out
      have HKc := Lib.hid (K4.of HK3.a HK3.b ⟨hC.1, hC.2.1⟩ ⟨hC.2.2.1, hC.2.2.2⟩)
      have H_q := Lib.hid (HQn.out.below hW)
      have H_r := Lib.hid (HRn.out.below hW)
      clear hC hW HK3 HBq HQn HRn k0 k1 k2 k3 k4 k5
      obtain ⟨k0, k1, k2, k3, k4, k5, k6, k7⟩ := HKc.out
      have HS102 := HS101
      have HT102 := HT101
      go_wp2_with fail
      refine (sign_z w102 t B cb ys b (Nb.out.below HS102.out) HVb.out (by omega) hbc sb HE_sb.out).mono ?_
      rintro e w103 ⟨rfl, hbx⟩
      have HB103 := Lib.hid hbx
      have HT103 := Lib.hid (HT102.out.trans (HB103.out.mono HT102.out.size))
      have HS103 := Lib.hid (HS102.out.trans (HB103.out.mono HS102.out.size))
      have HKc := Lib.hid (K4.below hbx HKc.out)
      obtain ⟨k0, k1, k2, k3, k4, k5, k6, k7⟩ := HKc.out
      clear hbx
      go_wp2_with fail
      refine (is_z w103 A_q c_q q (0) (H_q.out.below HB103.out) hc_q HQ3.out (by omega) (by omega)).mono ?_
      rintro e w104 ⟨rfl, hbx⟩
      have HB104 := Lib.hid hbx
      have HT104 := Lib.hid (HT103.out.trans (HB104.out.mono HT103.out.size))
      have HS104 := Lib.hid (HS103.out.trans (HB104.out.mono HS103.out.size))
      have HKc := Lib.hid (K4.below hbx HKc.out)
      obtain ⟨k0, k1, k2, k3, k4, k5, k6, k7⟩ := HKc.out
      clear hbx
      go_wp2_with fail
      refine (is_z w104 A_r c_r r (0) ((H_r.out.below HB103.out).below HB104.out) hc_r HQ4.out (by omega) (by omega)).mono ?_
      rintro e w105 ⟨rfl, hbx⟩
      have HB105 := Lib.hid hbx
      have HT105 := Lib.hid (HT104.out.trans (HB105.out.mono HT104.out.size))
      have HS105 := Lib.hid (HS104.out.trans (HB105.out.mono HS104.out.size))
      have HKc := Lib.hid (K4.below hbx HKc.out)
      obtain ⟨k0, k1, k2, k3, k4, k5, k6, k7⟩ := HKc.out
      clear hbx
      go_wp2_with fail
      refine (awake2_any w105).mono ?_
      rintro e w106 ⟨rfl, hbx⟩
      have HB106 := Lib.hid hbx
      have HT106 := Lib.hid (HT105.out.trans (HB106.out.mono HT105.out.size))
      have HS106 := Lib.hid (HS105.out.trans (HB106.out.mono HS105.out.size))
      clear hbx
      go_wp2_with fail
      go_ret
      exact ⟨rfl, HT106.out⟩
    · have hsb : (sb == 0) = false := by rw [← HE_sb.out]; rw [beq_eq_false_iff_ne]; intro h; exact hb0 (Int.sign_eq_zero_iff_zero.1 h)
      have HQ5 : Hid (g + r = a) := by show _ = _; rw [← HE_g.out, ← HE_q.out, ← HE_r.out]; exact zdm_back hb0
      have hr0 : 0 ≤ r ∧ r < ab := by rw [← HE_r.out, ← HE_ab.out]; exact zrem_range hb0
      have hsr : (0 : Int) ≤ sr := by rw [← HE_sr.out]; exact Int.sign_nonneg_iff.2 hr0.1
      have dsr : decide ((0 : Int) ≤ sr) = true := decide_eq_true hsr
      have hkr : kr < 0 := by rw [← HE_kr.out, zcmp_lt hr0.2]; decide
      have dkr : decide (kr < 0) = true := decide_eq_true hkr
      clear hr0
      have HB0 := Lib.hid hb0
      clear hb0
      go_upto_region 5 with fail
      go_wp2_with fail
      refine (divmod_z wc s t A B ca cb xs ys a b Na.out Nb.out HVa.out HVb.out (by omega) (by omega) hac hbc q r HE_q.out HE_r.out).mono ?_
      rintro e w101 ⟨A_q, c_q, A_r, c_r, rfl, hc_q, hc_r, h_q, h_r, hbx⟩
      have HBq := Lib.hid hbx
      have HKc := Lib.hid (K3.below hbx HKc.out)
      have HQn := Lib.hid h_q
      have HRn := Lib.hid h_r
      clear h_q h_r hbx
      go_upto_region 6 with fail
      have hC := C4.base w101 (.bool (zneg q)) (.slice A_q (dig q.natAbs).length c_q) (.bool (zneg r)) (.slice A_r (dig r.natAbs).length c_r) 43 43
      have hW : Below w101.heap.size w101 ((w101.alloc (.cells #[.bool (zneg q), .slice A_q (dig q.natAbs).length c_q] 43)).alloc (.cells #[.bool (zneg r), .slice A_r (dig r.natAbs).length c_r] 43)) := ((Below.refl _ _).alloc (Nat.le_refl _) _).alloc (by simp) _
      obtain ⟨w102, hw102⟩ : ∃ W, W = ((w101.alloc (.cells #[.bool (zneg q), .slice A_q (dig q.natAbs).length c_q] 43)).alloc (.cells #[.bool (zneg r), .slice A_r (dig r.natAbs).length c_r] 43)) := ⟨_, rfl⟩
      rw [← hw102] at hC hW
      rw [← hw102]
      clear hw102
      have HS101 : Hid (Below wc.heap.size wc w102) := HBq.out.trans (hW.mono HBq.out.size)
      have HT101 := Lib.hid (HT100.out.trans (HS101.out.mono HT100.out.size))
      have HK3 := K3.below hW HKc.out
      have HKc := Lib.hid (K4.of HK3.a HK3.b ⟨hC.1, hC.2.1⟩ ⟨hC.2.2.1, hC.2.2.2⟩)
      have H_q := Lib.hid (HQn.out.below hW)
      have H_r := Lib.hid (HRn.out.below hW)
      clear hC hW HK3 HBq HQn HRn k0 k1 k2 k3 k4 k5
      obtain ⟨k0, k1, k2, k3, k4, k5, k6, k7⟩ := HKc.out
      have HS102 := HS101
      have HT102 := HT101
      go_wp2_with fail
      refine (sign_z w102 t B cb ys b (Nb.out.below HS102.out) HVb.out (by omega) hbc sb HE_sb.out).mono ?_
      rintro e w103 ⟨rfl, hbx⟩
      have HB103 := Lib.hid hbx
      have HT103 := Lib.hid (HT102.out.trans (HB103.out.mono HT102.out.size))
      have HS103 := Lib.hid (HS102.out.trans (HB103.out.mono HS102.out.size))
      have HKc := Lib.hid (K4.below hbx HKc.out)
      obtain ⟨k0, k1, k2, k3, k4, k5, k6, k7⟩ := HKc.out
      clear hbx
      go_upto_region 8 with fail
      go_region_held3 (fun W => W.cell? ⟨w.heap.size, 0, none⟩ = some (.bool s) ∧ W.cell? ⟨w.heap.size, 1, none⟩ = some (.slice A xs.length ca) ∧ W.cell? ⟨w.heap.size + 1, 0, none⟩ = some (.bool t) ∧ W.cell? ⟨w.heap.size + 1, 1, none⟩ = some (.slice B ys.length cb) ∧ W.cell? ⟨w101.heap.size, 0, none⟩ = some (.bool (zneg q)) ∧ W.cell? ⟨w101.heap.size, 1, none⟩ = some (.slice A_q (dig q.natAbs).length c_q) ∧ W.cell? ⟨w101.heap.size + 1, 0, none⟩ = some (.bool (zneg r)) ∧ W.cell? ⟨w101.heap.size + 1, 1, none⟩ = some (.slice A_r (dig r.natAbs).length c_r))
       (first | exact HKc.out | exact K4.drew HKc.out)
       (first
        | (go_at_call 50; refine (awake2_any w110).mono ?_; rintro e w111 ⟨rfl, hbx⟩; have HB111 := Lib.hid hbx; have HT111 := Lib.hid (HT110.out.trans (HB111.out.mono HT110.out.size)); have HS111 := Lib.hid (HS110.out.trans (HB111.out.mono HS110.out.size)); have HKc := Lib.hid (K4.below hbx HKc.out))
        | (go_at_call 46; refine (cmp_z w109 (zneg r) (zneg ab) A_r A_i4 c_r c_i4 (dig r.natAbs) (dig ab.natAbs) r ab (((((((H_r.out.below HB103.out).below HB104.out).below HB105.out).below HB106.out).below HB107.out).below HB108.out).below HB109.out) H_i4.out (zv_dig _) (zv_dig _) (Nat.le_trans HL_r.out (by omega)) (Nat.le_trans HL_ab.out (by omega)) hc_r hc_i4 kr HE_kr.out).mono ?_; rintro e w110 ⟨rfl, hbx⟩; have HB110 := Lib.hid hbx; have HT110 := Lib.hid (HT109.out.trans (HB110.out.mono HT109.out.size)); have HS110 := Lib.hid (HS109.out.trans (HB110.out.mono HS109.out.size)); have HKc := Lib.hid (K4.below hbx HKc.out))
        | (go_at_call 49; refine (abs_z w108 t B cb ys b (Nb.out.below HS108.out) HVb.out (by omega) hbc ab HE_ab.out).mono ?_; rintro e w109 ⟨A_i4, c_i4, rfl, hc_i4, h_i4, hbx⟩; have HB109 := Lib.hid hbx; have HT109 := Lib.hid (HT108.out.trans (HB109.out.mono HT108.out.size)); have HS109 := Lib.hid (HS108.out.trans (HB109.out.mono HS108.out.size)); have H_i4 := Lib.hid h_i4; clear h_i4; have HKc := Lib.hid (K4.below hbx HKc.out))
        | (go_at_call 45; refine (sign_z w107 (zneg r) A_r c_r (dig r.natAbs) r (((((H_r.out.below HB103.out).below HB104.out).below HB105.out).below HB106.out).below HB107.out) (zv_dig _) (Nat.le_trans HL_r.out (by omega)) hc_r sr HE_sr.out).mono ?_; rintro e w108 ⟨rfl, hbx⟩; have HB108 := Lib.hid hbx; have HT108 := Lib.hid (HT107.out.trans (HB108.out.mono HT107.out.size)); have HS108 := Lib.hid (HS107.out.trans (HB108.out.mono HS107.out.size)); have HKc := Lib.hid (K4.below hbx HKc.out))
        | (go_at_call 42; refine (same2_any w106 A_i2 A_i3 c_i2 c_i3 a a (H_i2.out.below HB106.out) H_i3.out rfl (Nat.le_trans HL_a.out (by omega))).mono ?_; rintro e w107 ⟨rfl, hbx⟩; have HB107 := Lib.hid hbx; have HT107 := Lib.hid (HT106.out.trans (HB107.out.mono HT106.out.size)); have HS107 := Lib.hid (HS106.out.trans (HB107.out.mono HS106.out.size)); have HKc := Lib.hid (K4.below hbx HKc.out))
        | (go_at_call 44; refine (norm_z w105 s A ca xs a (Na.out.below HS105.out) HVa.out (by omega) hac a rfl).mono ?_; rintro e w106 ⟨A_i3, c_i3, rfl, hc_i3, h_i3, hbx⟩; have HB106 := Lib.hid hbx; have HT106 := Lib.hid (HT105.out.trans (HB106.out.mono HT105.out.size)); have HS106 := Lib.hid (HS105.out.trans (HB106.out.mono HS105.out.size)); have H_i3 := Lib.hid h_i3; clear h_i3; have HKc := Lib.hid (K4.below hbx HKc.out))
        | (go_at_call 55; refine (add_z w104 (zneg g) (zneg r) A_i1 A_r c_i1 c_r (dig g.natAbs) (dig r.natAbs) g r H_i1.out ((H_r.out.below HB103.out).below HB104.out) (zv_dig _) (zv_dig _) (Nat.le_trans HL_g.out (by omega)) (Nat.le_trans HL_r.out (by omega)) hc_i1 hc_r a HQ5.out).mono ?_; rintro e w105 ⟨A_i2, c_i2, rfl, hc_i2, h_i2, hbx⟩; have HB105 := Lib.hid hbx; have HT105 := Lib.hid (HT104.out.trans (HB105.out.mono HT104.out.size)); have HS105 := Lib.hid (HS104.out.trans (HB105.out.mono HS104.out.size)); have H_i2 := Lib.hid h_i2; clear h_i2; have HKc := Lib.hid (K4.below hbx HKc.out))
        | (go_at_call 59; refine (mul_z w103.drew (zneg q) t A_q B c_q cb (dig q.natAbs) ys q b ((H_q.out.below HB103.out)).drew ((Nb.out.below HS103.out)).drew (zv_dig _) HVb.out (Nat.le_trans HL_q.out (by omega)) (by omega) hc_q hbc g HE_g.out).mono ?_; rintro e w104 ⟨A_i1, c_i1, rfl, hc_i1, h_i1, hbx⟩; have hbx := Below.of_drew hbx; have HB104 := Lib.hid hbx; have HT104 := Lib.hid (HT103.out.trans (HB104.out.mono HT103.out.size)); have HS104 := Lib.hid (HS103.out.trans (HB104.out.mono HS103.out.size)); have H_i1 := Lib.hid h_i1; clear h_i1; have HKc := Lib.hid (K4.below hbx HKc.out))
       )
      go_wp2_with fail
      go_ret
      exact ⟨rfl, HT111.out⟩
end Go.Proofs.Ytmcfdgcncpfilaa
