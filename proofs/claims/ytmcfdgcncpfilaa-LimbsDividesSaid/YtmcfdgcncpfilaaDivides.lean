/- LimbsDivides: its walk. -/
import Derived.Test.YtmcfdgcncpfilaaLawsN
namespace Go.Proofs.Ytmcfdgcncpfilaa
open Go.RowKit

set_option maxRecDepth 100000 in
set_option maxHeartbeats 8000000 in
theorem divides_zero (w : World) (A B C : Option Addr) (ca cb cc : Nat) (xs ys zs : List Nat) (a b c : Nat) (ha : Num w A xs) (hb : Num w B ys) (hc : Num w C zs) (hva : val xs = a) (hvb : val ys = b) (hvc : val zs = c) (hac : xs.length ≤ ca) (hbc : ys.length ≤ cb) (hcc : zs.length ≤ cc) (l1 : xs.length ≤ 12) (l2 : ys.length ≤ 12) (l3 : zs.length ≤ 12) (hyp : Nat.gcd a b = 0) :
    Calls Try.prog 8 #[.slice A xs.length ca, .slice B ys.length cb, .slice C zs.length cc] w (RetB w true) := by
  have HVa := Lib.hid hva
  have HVb := Lib.hid hvb
  have HVc := Lib.hid hvc
  have HL_a : Hid ((dig a).length ≤ 12) := Nat.le_trans (dl_val ha.1 hva) l1
  have HL_b : Hid ((dig b).length ≤ 12) := Nat.le_trans (dl_val hb.1 hvb) l2
  have HL_c : Hid ((dig c).length ≤ 12) := Nat.le_trans (dl_val hc.1 hvc) l3
  have Ha := Lib.hid ha
  have Hb := Lib.hid hb
  have Hc := Lib.hid hc
  have HT0 := Lib.hid (Below.refl w.heap.size w)
  clear ha hb hc hva hvb hvc
  obtain ⟨g, he_g⟩ : ∃ v : Nat, Nat.gcd a b = v := ⟨_, rfl⟩
  have HL_g : Hid ((dig g).length ≤ 12) := by
    have h := And.intro (dl_gcd a b) (And.intro HL_a.out HL_b.out)
    rw [he_g] at h
    show _ ≤ _
    omega
  have HE_g := Lib.hid he_g
  clear he_g
  have hg0 : g = 0 := by rw [← HE_g.out]; exact hyp
  have ha0 : a = 0 := (Nat.gcd_eq_zero_iff.1 hyp).1
  have hb0 : b = 0 := (Nat.gcd_eq_zero_iff.1 hyp).2
  have hz1 : (((dig g).length : Int) == 0) = true := by rw [hg0, dig_zero]; rfl
  have hz2 : (((dig a).length : Int) == 0) = true := by rw [ha0, dig_zero]; rfl
  have hz3 : (((dig b).length : Int) == 0) = true := by rw [hb0, dig_zero]; rfl
  have hcc0 := hcc
  clear hg0 ha0 hb0 hyp hcc0
  have n1 : ¬ (12 : Int) < (xs.length : Int) := by omega
  have n2 : ¬ (12 : Int) < (ys.length : Int) := by omega
  have n3 : ¬ (12 : Int) < (zs.length : Int) := by omega
  go_enter Try.func8, Try.ntmps8
  go_wp2_with fail
  refine (gcd_n w A B ca cb xs ys a b (Ha.out.below HT0.out) (Hb.out.below HT0.out) HVa.out HVb.out (by omega) (by omega) hac hbc g HE_g.out).mono ?_
  rintro e w1 ⟨A_i1, c_i1, rfl, hc_i1, h_i1, hbx⟩
  have HB1 := Lib.hid hbx
  have HT1 := Lib.hid (HT0.out.trans (HB1.out.mono HT0.out.size))
  clear hbx
  have H_i1 := Lib.hid h_i1
  clear h_i1
  go_wp2_with fail
  refine (trim_n w1 A ca xs a (Ha.out.below HT1.out) HVa.out (by omega) hac a rfl).mono ?_
  rintro e w2 ⟨A_i2, c_i2, rfl, hc_i2, h_i2, hbx⟩
  have HB2 := Lib.hid hbx
  have HT2 := Lib.hid (HT1.out.trans (HB2.out.mono HT1.out.size))
  clear hbx
  have H_i2 := Lib.hid h_i2
  clear h_i2
  go_wp2_with fail
  refine (trim_n w2 B cb ys b (Hb.out.below HT2.out) HVb.out (by omega) hbc b rfl).mono ?_
  rintro e w3 ⟨A_i3, c_i3, rfl, hc_i3, h_i3, hbx⟩
  have HB3 := Lib.hid hbx
  have HT3 := Lib.hid (HT2.out.trans (HB3.out.mono HT2.out.size))
  clear hbx
  have H_i3 := Lib.hid h_i3
  clear h_i3
  go_wp2_with fail
  refine (awake_any w3).mono ?_
  rintro e w4 ⟨rfl, hbx⟩
  have HB4 := Lib.hid hbx
  have HT4 := Lib.hid (HT3.out.trans (HB4.out.mono HT3.out.size))
  clear hbx
  go_wp2_with fail
  go_ret
  exact ⟨rfl, HT4.out⟩

set_option maxRecDepth 100000 in
set_option maxHeartbeats 8000000 in
theorem divides_pos (w : World) (A B C : Option Addr) (ca cb cc : Nat) (xs ys zs : List Nat) (a b c : Nat) (ha : Num w A xs) (hb : Num w B ys) (hc : Num w C zs) (hva : val xs = a) (hvb : val ys = b) (hvc : val zs = c) (hac : xs.length ≤ ca) (hbc : ys.length ≤ cb) (hcc : zs.length ≤ cc) (l1 : xs.length ≤ 12) (l2 : ys.length ≤ 12) (l3 : zs.length ≤ 12) (hyp : Nat.gcd a b ≠ 0) :
    Calls Try.prog 8 #[.slice A xs.length ca, .slice B ys.length cb, .slice C zs.length cc] w (RetB w true) := by
  have HVa := Lib.hid hva
  have HVb := Lib.hid hvb
  have HVc := Lib.hid hvc
  have HL_a : Hid ((dig a).length ≤ 12) := Nat.le_trans (dl_val ha.1 hva) l1
  have HL_b : Hid ((dig b).length ≤ 12) := Nat.le_trans (dl_val hb.1 hvb) l2
  have HL_c : Hid ((dig c).length ≤ 12) := Nat.le_trans (dl_val hc.1 hvc) l3
  have Ha := Lib.hid ha
  have Hb := Lib.hid hb
  have Hc := Lib.hid hc
  have HT0 := Lib.hid (Below.refl w.heap.size w)
  clear ha hb hc hva hvb hvc
  obtain ⟨g, he_g⟩ : ∃ v : Nat, Nat.gcd a b = v := ⟨_, rfl⟩
  have HL_g : Hid ((dig g).length ≤ 12) := by
    have h := And.intro (dl_gcd a b) (And.intro HL_a.out HL_b.out)
    rw [he_g] at h
    show _ ≤ _
    omega
  have HE_g := Lib.hid he_g
  clear he_g
  have hgp : g ≠ 0 := by rw [← HE_g.out]; exact hyp
  have hgp' : 0 < g := by omega
  have hda : g ∣ a := HE_g.out ▸ Nat.gcd_dvd_left a b
  have hdb : g ∣ b := HE_g.out ▸ Nat.gcd_dvd_right a b
  obtain ⟨x, he_x⟩ : ∃ v : Nat, dmq a g = v := ⟨_, rfl⟩
  have HL_x : Hid ((dig x).length ≤ 12) := by
    have h := And.intro (dl_dmq a g) (And.intro HL_a.out HL_g.out)
    rw [he_x] at h
    show _ ≤ _
    omega
  have HE_x := Lib.hid he_x
  clear he_x
  obtain ⟨r, he_r⟩ : ∃ v : Nat, dmr a g = v := ⟨_, rfl⟩
  have HL_r : Hid ((dig r).length ≤ 12) := by
    have h := And.intro (dl_dmr a g) (And.intro HL_a.out HL_g.out)
    rw [he_r] at h
    show _ ≤ _
    omega
  have HE_r := Lib.hid he_r
  clear he_r
  obtain ⟨y, he_y⟩ : ∃ v : Nat, dmq b g = v := ⟨_, rfl⟩
  have HL_y : Hid ((dig y).length ≤ 12) := by
    have h := And.intro (dl_dmq b g) (And.intro HL_b.out HL_g.out)
    rw [he_y] at h
    show _ ≤ _
    omega
  have HE_y := Lib.hid he_y
  clear he_y
  obtain ⟨t, he_t⟩ : ∃ v : Nat, dmr b g = v := ⟨_, rfl⟩
  have HL_t : Hid ((dig t).length ≤ 12) := by
    have h := And.intro (dl_dmr b g) (And.intro HL_b.out HL_g.out)
    rw [he_t] at h
    show _ ≤ _
    omega
  have HE_t := Lib.hid he_t
  clear he_t
  obtain ⟨u, he_u⟩ : ∃ v : Nat, Nat.gcd x y = v := ⟨_, rfl⟩
  have HL_u : Hid ((dig u).length ≤ 12) := by
    have h := And.intro (dl_gcd x y) (And.intro HL_x.out HL_y.out)
    rw [he_u] at h
    show _ ≤ _
    omega
  have HE_u := Lib.hid he_u
  clear he_u
  obtain ⟨m1, he_m1⟩ : ∃ v : Nat, a * c = v := ⟨_, rfl⟩
  have HL_m1 : Hid ((dig m1).length ≤ 24) := by
    have h := And.intro (dl_mul a c) (And.intro HL_a.out HL_c.out)
    rw [he_m1] at h
    show _ ≤ _
    omega
  have HE_m1 := Lib.hid he_m1
  clear he_m1
  obtain ⟨m2, he_m2⟩ : ∃ v : Nat, b * c = v := ⟨_, rfl⟩
  have HL_m2 : Hid ((dig m2).length ≤ 24) := by
    have h := And.intro (dl_mul b c) (And.intro HL_b.out HL_c.out)
    rw [he_m2] at h
    show _ ≤ _
    omega
  have HE_m2 := Lib.hid he_m2
  clear he_m2
  obtain ⟨h, he_h⟩ : ∃ v : Nat, Nat.gcd m1 m2 = v := ⟨_, rfl⟩
  have HL_h : Hid ((dig h).length ≤ 24) := by
    have h := And.intro (dl_gcd m1 m2) (And.intro HL_m1.out HL_m2.out)
    rw [he_h] at h
    show _ ≤ _
    omega
  have HE_h := Lib.hid he_h
  clear he_h
  obtain ⟨m3, he_m3⟩ : ∃ v : Nat, g * c = v := ⟨_, rfl⟩
  have HL_m3 : Hid ((dig m3).length ≤ 24) := by
    have h := And.intro (dl_mul g c) (And.intro HL_g.out HL_c.out)
    rw [he_m3] at h
    show _ ≤ _
    omega
  have HE_m3 := Lib.hid he_m3
  clear he_m3
  obtain ⟨g2, he_g2⟩ : ∃ v : Nat, Nat.gcd b a = v := ⟨_, rfl⟩
  have HL_g2 : Hid ((dig g2).length ≤ 12) := by
    have h := And.intro (dl_gcd b a) (And.intro HL_b.out HL_a.out)
    rw [he_g2] at h
    show _ ≤ _
    omega
  have HE_g2 := Lib.hid he_g2
  clear he_g2
  have hr0 : r = 0 := by rw [← HE_r.out]; unfold dmr; rw [if_neg hgp]; exact Nat.mod_eq_zero_of_dvd hda
  have ht0 : t = 0 := by rw [← HE_t.out]; unfold dmr; rw [if_neg hgp]; exact Nat.mod_eq_zero_of_dvd hdb
  have hz1 : (((dig g).length : Int) == 0) = false := by rw [beq_eq_false_iff_ne]; intro hh; exact hgp (dig_nil_iff.1 (by omega))
  have hz2 : (((dig r).length : Int) == 0) = true := by rw [hr0, dig_zero]; rfl
  have hz3 : (((dig t).length : Int) == 0) = true := by rw [ht0, dig_zero]; rfl
  have HQ1 : Hid (u = 1) := by
    show _ = _
    rw [← HE_u.out, ← HE_x.out, ← HE_y.out]
    show Nat.gcd (a / g) (b / g) = 1
    rw [Nat.gcd_div hda hdb, HE_g.out]
    exact Nat.div_self hgp'
  have HQ2 : Hid (h = m3) := by
    show _ = _
    rw [← HE_h.out, ← HE_m1.out, ← HE_m2.out, ← HE_m3.out, ← HE_g.out]
    exact Nat.gcd_mul_right a c b
  have HQ3 : Hid (g2 = g) := by
    show _ = _
    rw [← HE_g2.out, ← HE_g.out]
    exact Nat.gcd_comm b a
  clear hgp hgp' hda hdb hr0 ht0 hyp
  have n1 : ¬ (12 : Int) < (xs.length : Int) := by omega
  have n2 : ¬ (12 : Int) < (ys.length : Int) := by omega
  have n3 : ¬ (12 : Int) < (zs.length : Int) := by omega
  go_enter Try.func8, Try.ntmps8
  go_wp2_with fail
  refine (gcd_n w A B ca cb xs ys a b (Ha.out.below HT0.out) (Hb.out.below HT0.out) HVa.out HVb.out (by omega) (by omega) hac hbc g HE_g.out).mono ?_
  rintro e w1 ⟨A_i1, c_i1, rfl, hc_i1, h_i1, hbx⟩
  have HB1 := Lib.hid hbx
  have HT1 := Lib.hid (HT0.out.trans (HB1.out.mono HT0.out.size))
  clear hbx
  have H_i1 := Lib.hid h_i1
  clear h_i1
  go_wp2_with fail
  refine (dm_n w1 A A_i1 ca c_i1 xs (dig g) a g (Ha.out.below HT1.out) H_i1.out HVa.out (val_dig _) (by omega) (Nat.le_trans HL_g.out (by omega)) hac hc_i1 x r HE_x.out HE_r.out).mono ?_
  rintro e w2 ⟨A_i2, c_i2, A_i3, c_i3, rfl, hc_i2, hc_i3, h_i2, h_i3, hbx⟩
  have HB2 := Lib.hid hbx
  have HT2 := Lib.hid (HT1.out.trans (HB2.out.mono HT1.out.size))
  clear hbx
  have H_i2 := Lib.hid h_i2
  clear h_i2
  have H_i3 := Lib.hid h_i3
  clear h_i3
  go_wp2_with fail
  refine (dm_n w2 B A_i1 cb c_i1 ys (dig g) b g (Hb.out.below HT2.out) (H_i1.out.below HB2.out) HVb.out (val_dig _) (by omega) (Nat.le_trans HL_g.out (by omega)) hbc hc_i1 y t HE_y.out HE_t.out).mono ?_
  rintro e w3 ⟨A_i4, c_i4, A_i5, c_i5, rfl, hc_i4, hc_i5, h_i4, h_i5, hbx⟩
  have HB3 := Lib.hid hbx
  have HT3 := Lib.hid (HT2.out.trans (HB3.out.mono HT2.out.size))
  clear hbx
  have H_i4 := Lib.hid h_i4
  clear h_i4
  have H_i5 := Lib.hid h_i5
  clear h_i5
  go_wp2_with fail
  refine (gcd_n w3 A_i2 A_i4 c_i2 c_i4 (dig x) (dig y) x y (H_i2.out.below HB3.out) H_i4.out (val_dig _) (val_dig _) (Nat.le_trans HL_x.out (by omega)) (Nat.le_trans HL_y.out (by omega)) hc_i2 hc_i4 u HE_u.out).mono ?_
  rintro e w4 ⟨A_i6, c_i6, rfl, hc_i6, h_i6, hbx⟩
  have HB4 := Lib.hid hbx
  have HT4 := Lib.hid (HT3.out.trans (HB4.out.mono HT3.out.size))
  clear hbx
  have H_i6 := Lib.hid h_i6
  clear h_i6
  go_wp2_with fail
  refine (same_one w4 A_i6 c_i6 u HQ1.out H_i6.out).mono ?_
  rintro e w5 ⟨rfl, hbx⟩
  have HB5 := Lib.hid hbx
  have HT5 := Lib.hid (HT4.out.trans (HB5.out.mono HT4.out.size))
  clear hbx
  go_wp2_with fail
  refine (mul_n w5 A C ca cc xs zs a c (Ha.out.below HT5.out) (Hc.out.below HT5.out) HVa.out HVc.out (by omega) (by omega) hac hcc m1 HE_m1.out).mono ?_
  rintro e w6 ⟨A_i7, c_i7, rfl, hc_i7, h_i7, hbx⟩
  have HB6 := Lib.hid hbx
  have HT6 := Lib.hid (HT5.out.trans (HB6.out.mono HT5.out.size))
  clear hbx
  have H_i7 := Lib.hid h_i7
  clear h_i7
  go_wp2_with fail
  refine (mul_n w6 B C cb cc ys zs b c (Hb.out.below HT6.out) (Hc.out.below HT6.out) HVb.out HVc.out (by omega) (by omega) hbc hcc m2 HE_m2.out).mono ?_
  rintro e w7 ⟨A_i8, c_i8, rfl, hc_i8, h_i8, hbx⟩
  have HB7 := Lib.hid hbx
  have HT7 := Lib.hid (HT6.out.trans (HB7.out.mono HT6.out.size))
  clear hbx
  have H_i8 := Lib.hid h_i8
  clear h_i8
  go_wp2_with fail
  refine (gcd_n w7 A_i7 A_i8 c_i7 c_i8 (dig m1) (dig m2) m1 m2 (H_i7.out.below HB7.out) H_i8.out (val_dig _) (val_dig _) (Nat.le_trans HL_m1.out (by omega)) (Nat.le_trans HL_m2.out (by omega)) hc_i7 hc_i8 h HE_h.out).mono ?_
  rintro e w8 ⟨A_i9, c_i9, rfl, hc_i9, h_i9, hbx⟩
  have HB8 := Lib.hid hbx
  have HT8 := Lib.hid (HT7.out.trans (HB8.out.mono HT7.out.size))
  clear hbx
  have H_i9 := Lib.hid h_i9
  clear h_i9
  go_wp2_with fail
  refine (mul_n w8 A_i1 C c_i1 cc (dig g) zs g c (((((((H_i1.out.below HB2.out).below HB3.out).below HB4.out).below HB5.out).below HB6.out).below HB7.out).below HB8.out) (Hc.out.below HT8.out) (val_dig _) HVc.out (Nat.le_trans HL_g.out (by omega)) (by omega) hc_i1 hcc m3 HE_m3.out).mono ?_
  rintro e w9 ⟨A_j1, c_j1, rfl, hc_j1, h_j1, hbx⟩
  have HB9 := Lib.hid hbx
  have HT9 := Lib.hid (HT8.out.trans (HB9.out.mono HT8.out.size))
  clear hbx
  have H_j1 := Lib.hid h_j1
  clear h_j1
  go_wp2_with fail
  refine (same_v w9 A_i9 A_j1 c_i9 c_j1 h m3 (H_i9.out.below HB9.out) H_j1.out HQ2.out (Nat.le_trans HL_h.out (by omega))).mono ?_
  rintro e w10 ⟨rfl, hbx⟩
  have HB10 := Lib.hid hbx
  have HT10 := Lib.hid (HT9.out.trans (HB10.out.mono HT9.out.size))
  clear hbx
  go_wp2_with fail
  refine (gcd_n w10 B A cb ca ys xs b a (Hb.out.below HT10.out) (Ha.out.below HT10.out) HVb.out HVa.out (by omega) (by omega) hbc hac g2 HE_g2.out).mono ?_
  rintro e w11 ⟨A_j2, c_j2, rfl, hc_j2, h_j2, hbx⟩
  have HB11 := Lib.hid hbx
  have HT11 := Lib.hid (HT10.out.trans (HB11.out.mono HT10.out.size))
  clear hbx
  have H_j2 := Lib.hid h_j2
  clear h_j2
  go_wp2_with fail
  refine (same_v w11 A_j2 A_i1 c_j2 c_i1 g2 g H_j2.out ((((((((((H_i1.out.below HB2.out).below HB3.out).below HB4.out).below HB5.out).below HB6.out).below HB7.out).below HB8.out).below HB9.out).below HB10.out).below HB11.out) HQ3.out (Nat.le_trans HL_g2.out (by omega))).mono ?_
  rintro e w12 ⟨rfl, hbx⟩
  have HB12 := Lib.hid hbx
  have HT12 := Lib.hid (HT11.out.trans (HB12.out.mono HT11.out.size))
  clear hbx
  go_wp2_with fail
  refine (awake_any w12).mono ?_
  rintro e w13 ⟨rfl, hbx⟩
  have HB13 := Lib.hid hbx
  have HT13 := Lib.hid (HT12.out.trans (HB13.out.mono HT12.out.size))
  clear hbx
  go_wp2_with fail
  go_ret
  exact ⟨rfl, HT13.out⟩

set_option maxRecDepth 100000 in
set_option maxHeartbeats 4000000 in
theorem divides_walk (w : World) (A B C : Option Addr) (ca cb cc : Nat) (xs ys zs : List Nat) (ha : Num w A xs) (hb : Num w B ys) (hc : Num w C zs) (hac : xs.length ≤ ca) (hbc : ys.length ≤ cb) (hcc : zs.length ≤ cc) :
    Calls Try.prog 8 #[.slice A xs.length ca, .slice B ys.length cb, .slice C zs.length cc] w (RetB w true) := by
  by_cases l1 : xs.length ≤ 12
  · have g1 : ¬ (12 : Int) < (xs.length : Int) := by omega
    by_cases l2 : ys.length ≤ 12
    · have g2 : ¬ (12 : Int) < (ys.length : Int) := by omega
      by_cases l3 : zs.length ≤ 12
      · by_cases h0 : Nat.gcd (val xs) (val ys) = 0
        · exact divides_zero w A B C ca cb cc xs ys zs _ _ _ ha hb hc rfl rfl rfl hac hbc hcc l1 l2 l3 h0
        · exact divides_pos w A B C ca cb cc xs ys zs _ _ _ ha hb hc rfl rfl rfl hac hbc hcc l1 l2 l3 h0
      · have g3 : (12 : Int) < (zs.length : Int) := by omega
        clear ha hb hc l1 l2 l3
        go_enter Try.func8, Try.ntmps8
        go_wp2_with fail
        refine (awake_any w).mono ?_
        rintro e w1 ⟨rfl, hb⟩
        go_wp2_with fail
        go_ret
        exact ⟨rfl, hb⟩
    · have g2 : (12 : Int) < (ys.length : Int) := by omega
      clear ha hb hc l1 l2
      go_enter Try.func8, Try.ntmps8
      go_wp2_with fail
      refine (awake_any w).mono ?_
      rintro e w1 ⟨rfl, hb⟩
      go_wp2_with fail
      go_ret
      exact ⟨rfl, hb⟩
  · have g1 : (12 : Int) < (xs.length : Int) := by omega
    clear ha hb hc l1
    go_enter Try.func8, Try.ntmps8
    go_wp2_with fail
    refine (awake_any w).mono ?_
    rintro e w1 ⟨rfl, hb⟩
    go_wp2_with fail
    go_ret
    exact ⟨rfl, hb⟩
end Go.Proofs.Ytmcfdgcncpfilaa
