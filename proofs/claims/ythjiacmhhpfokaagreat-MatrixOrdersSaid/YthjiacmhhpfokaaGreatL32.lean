/- Part 32 of the proof: VDot, VAxpy, VOnly, VGet, VForm, VRight, VTerm. -/
import Derived.Test.YthjiacmhhpfokaaGreatL31
namespace Go.Proofs.YthjiacmhhpfokaaGreat
open Act renaming put → aP
open Option.some renaming inj → oI
open Nat renaming lt_of_lt_of_le → lL
namespace V
open List renaming getElem_toArray → gY, getElem_cons_zero → gZ, getElem_cons_succ → gJ, setIfInBounds_toArray → sT, set_cons_zero → sZ, set_cons_succ → sS
open Lib renaming hid → lh
set_option maxRecDepth 100000
set_option maxHeartbeats 4000000
open Go.RowKit
open Q (IsQ OneQ RetQ below_on ql Qbx below_put4 qsign qsign_zero_iff)
theorem dot_visit {wl wx : World} {gT : Nat} {a : Int} {s0 : Bool} {A0 : Option Addr} {n0 c0 : Nat} {t0 : Bool} {B0 : Option Addr} {m0 d0 : Nat} {sv : Bool} {Av : Option Addr} {nv cv : Nat} {tv : Bool} {Bv : Option Addr} {mv dv : Nat} {sw : Bool} {Aw : Option Addr} {nw cw : Nat} {tw : Bool} {Bw : Option Addr} {mw dw : Nat} {x p r y : Rat} (hn : Near (fun b => b = gT) wl wx) (hg : Qbx wx gT s0 A0 n0 c0 t0 B0 m0 d0) (hq : OneQ wx s0 A0 n0 c0 t0 B0 m0 d0 x) (hxl : ql x ≤ 700) (hl : gT < wl.heap.size) (hp : IsQ wx sv Av nv cv tv Bv mv dv p 700) (hr : IsQ wx sw Aw nw cw tw Bw mw dw r 700) (hzl : ql (p * r) ≤ 700) (hy : x + p * r = y) :
  Calls Tryz.prog 95 #[.int .i64 a, .agg #[.bool sv, .slice Av nv cv, .bool tv, .slice Bv mv dv], .agg #[.bool sw, .slice Aw nw cw, .bool tw, .slice Bw mw dw], .pointer (some ⟨gT, 0, none⟩)] wx (fun e wy => e = .returned (.bool true) ∧ Near (fun b => b = gT) wl wy ∧ ∃ s A n c t B m d, Qbx wy gT s A n c t B m d ∧ OneQ wy s A n c t B m d y) := by
 obtain ⟨W0, hW0⟩ : ∃ V, ((wx).alloc (.cells #[.bool sv, .slice Av nv cv, .bool tv, .slice Bv mv dv] 27)).alloc (.cells #[.bool sw, .slice Aw nw cw, .bool tw, .slice Bw mw dw] 27) = V := ⟨_, rfl⟩
 have HB0 : Hid (Below wx.heap.size wx W0) := by rw [← hW0]; exact ((Below.refl _ _).alloc (Nat.le_refl _) _).alloc (by simp) _
 have HV0 : Hid (Qbx W0 wx.heap.size sv Av nv cv tv Bv mv dv) := by rw [← hW0]; exact (Qbx.new _ _ rfl).alloc _
 have HU0 : Hid (Qbx W0 (wx.heap.size + 1) sw Aw nw cw tw Bw mw dw) := by rw [← hW0]; exact Qbx.new _ _ (by simp)
 have HP0 := lh (hp.below HB0.out)
 have HR0 := lh (hr.below HB0.out)
 have HG0 := lh (hg.below HB0.out)
 have HQ0 := lh (hq.below HB0.out)
 have HXL := lh hxl
 have HN := lh hn
 have HLX : Hid (gT < wx.heap.size) := lL hl hn.size
 obtain ⟨z, hz⟩ : ∃ z, p * r = z := ⟨_, rfl⟩
 have HZ := lh hz
 have HZL : Hid (ql z ≤ 700) := by show _ ≤ _; rw [← hz]; exact hzl
 have HY : Hid (x + z = y) := by show _ = _; rw [← hz]; exact hy
 obtain ⟨sg, hsg⟩ : ∃ s, qsign p = s := ⟨_, rfl⟩
 have HSG := lh hsg
 obtain ⟨sh, hsh⟩ : ∃ s, qsign r = s := ⟨_, rfl⟩
 have HSH := lh hsh
 clear hn hg hq hxl hl hp hr hzl hy
 by_cases h0 : p = 0
 ·have g1 : (sg != 0) = false := by rw [← hsg, qsign_zero_iff.2 h0]; rfl
  have HZ0 : Hid (p * r = 0) := by show _ = _; rw [h0, Rat.zero_mul]
  clear hsg hsh hz h0
  go_enter Tryz.func95, Tryz.ntmps95
  have v0 := HV0.out.c0
  have v1 := HV0.out.c1
  have v2 := HV0.out.c2
  have v3 := HV0.out.c3
  go_upto_region 1 with fail
  clear hW0
  go_wp2_with fail
  refine (Q.sign_q HP0.out (by omega) sg HSG.out).mono ?_
  rintro e w1 ⟨rfl, hb⟩
  clear v0 v1 v2 v3
  have HV1 := lh (HV0.out.below hb)
  have HU1 := lh (HU0.out.below hb)
  have HP1 := lh (HP0.out.below hb)
  have HR1 := lh (HR0.out.below hb)
  have HG1 := lh (HG0.out.below hb)
  have HQ1 := lh (HQ0.out.below hb)
  have HB1 := lh (below_on HB0.out hb)
  clear hb HV0 HU0 HP0 HR0 HG0 HQ0 HB0
  have u0 := HU1.out.c0
  have u1 := HU1.out.c1
  have u2 := HU1.out.c2
  have u3 := HU1.out.c3
  go_wp2_with fail
  exact ⟨rfl, .bool true, by simp [results, Tryz.results95, go_sem], rfl, HN.out.below HB1.out, _, _, _, _, _, _, _, _, HG1.out, by rw [← HY.out, ← HZ.out, HZ0.out, Rat.add_zero]; exact HQ1.out⟩
 ·have g1 : (sg != 0) = true := by rw [← hsg, bne_iff_ne]; exact fun h => h0 (qsign_zero_iff.1 h)
  by_cases h1 : r = 0
  ·have g2 : (sh != 0) = false := by rw [← hsh, qsign_zero_iff.2 h1]; rfl
   have HZ0 : Hid (p * r = 0) := by show _ = _; rw [h1, Rat.mul_zero]
   clear hsg hsh hz h0 h1
   go_enter Tryz.func95, Tryz.ntmps95
   have v0 := HV0.out.c0
   have v1 := HV0.out.c1
   have v2 := HV0.out.c2
   have v3 := HV0.out.c3
   go_upto_region 1 with fail
   clear hW0
   go_wp2_with fail
   refine (Q.sign_q HP0.out (by omega) sg HSG.out).mono ?_
   rintro e w1 ⟨rfl, hb⟩
   clear v0 v1 v2 v3
   have HV1 := lh (HV0.out.below hb)
   have HU1 := lh (HU0.out.below hb)
   have HP1 := lh (HP0.out.below hb)
   have HR1 := lh (HR0.out.below hb)
   have HG1 := lh (HG0.out.below hb)
   have HQ1 := lh (HQ0.out.below hb)
   have HB1 := lh (below_on HB0.out hb)
   clear hb HV0 HU0 HP0 HR0 HG0 HQ0 HB0
   have u0 := HU1.out.c0
   have u1 := HU1.out.c1
   have u2 := HU1.out.c2
   have u3 := HU1.out.c3
   go_wp2_with fail
   refine (Q.sign_q HR1.out (by omega) sh HSH.out).mono ?_
   rintro e w2 ⟨rfl, hb⟩
   clear u0 u1 u2 u3
   have HV2 := lh (HV1.out.below hb)
   have HU2 := lh (HU1.out.below hb)
   have HP2 := lh (HP1.out.below hb)
   have HR2 := lh (HR1.out.below hb)
   have HG2 := lh (HG1.out.below hb)
   have HQ2 := lh (HQ1.out.below hb)
   have HB2 := lh (below_on HB1.out hb)
   clear hb HV1 HU1 HP1 HR1 HG1 HQ1 HB1
   go_wp2_with fail
   exact ⟨rfl, .bool true, by simp [results, Tryz.results95, go_sem], rfl, HN.out.below HB2.out, _, _, _, _, _, _, _, _, HG2.out, by rw [← HY.out, ← HZ.out, HZ0.out, Rat.add_zero]; exact HQ2.out⟩
  ·have g2 : (sh != 0) = true := by rw [← hsh, bne_iff_ne]; exact fun h => h1 (qsign_zero_iff.1 h)
   clear hsg hsh hz h0 h1
   go_enter Tryz.func95, Tryz.ntmps95
   have v0 := HV0.out.c0
   have v1 := HV0.out.c1
   have v2 := HV0.out.c2
   have v3 := HV0.out.c3
   go_upto_region 1 with fail
   clear hW0
   go_wp2_with fail
   refine (Q.sign_q HP0.out (by omega) sg HSG.out).mono ?_
   rintro e w1 ⟨rfl, hb⟩
   clear v0 v1 v2 v3
   have HV1 := lh (HV0.out.below hb)
   have HU1 := lh (HU0.out.below hb)
   have HP1 := lh (HP0.out.below hb)
   have HR1 := lh (HR0.out.below hb)
   have HG1 := lh (HG0.out.below hb)
   have HQ1 := lh (HQ0.out.below hb)
   have HB1 := lh (below_on HB0.out hb)
   clear hb HV0 HU0 HP0 HR0 HG0 HQ0 HB0
   have u0 := HU1.out.c0
   have u1 := HU1.out.c1
   have u2 := HU1.out.c2
   have u3 := HU1.out.c3
   go_wp2_with fail
   refine (Q.sign_q HR1.out (by omega) sh HSH.out).mono ?_
   rintro e w2 ⟨rfl, hb⟩
   clear u0 u1 u2 u3
   have HV2 := lh (HV1.out.below hb)
   have HU2 := lh (HU1.out.below hb)
   have HP2 := lh (HP1.out.below hb)
   have HR2 := lh (HR1.out.below hb)
   have HG2 := lh (HG1.out.below hb)
   have HQ2 := lh (HQ1.out.below hb)
   have HB2 := lh (below_on HB1.out hb)
   clear hb HV1 HU1 HP1 HR1 HG1 HQ1 HB1
   go_upto_region 2 with fail
   obtain ⟨W3, hW3⟩ : ∃ V, w2.drew = V := ⟨_, rfl⟩
   have HD3 : Hid (Below w2.heap.size w2 W3) := by rw [← hW3]; exact (Below.refl _ _).drew
   have HV3 := lh (HV2.out.below HD3.out)
   have HU3 := lh (HU2.out.below HD3.out)
   have HP3 := lh (HP2.out.below HD3.out)
   have HR3 := lh (HR2.out.below HD3.out)
   have HG3 := lh (HG2.out.below HD3.out)
   have HQ3 := lh (HQ2.out.below HD3.out)
   have HB3 := lh (below_on HB2.out HD3.out)
   have HK3 : Hid ((W3.cell? ⟨wx.heap.size, 0, none⟩ = some (.bool sv) ∧ W3.cell? ⟨wx.heap.size, 1, none⟩ = some (.slice Av nv cv) ∧ W3.cell? ⟨wx.heap.size, 2, none⟩ = some (.bool tv) ∧ W3.cell? ⟨wx.heap.size, 3, none⟩ = some (.slice Bv mv dv)) ∧ W3.cell? ⟨wx.heap.size + 1, 0, none⟩ = some (.bool sw) ∧ W3.cell? ⟨wx.heap.size + 1, 1, none⟩ = some (.slice Aw nw cw) ∧ W3.cell? ⟨wx.heap.size + 1, 2, none⟩ = some (.bool tw) ∧ W3.cell? ⟨wx.heap.size + 1, 3, none⟩ = some (.slice Bw mw dw)) := ⟨⟨HV3.out.c0, HV3.out.c1, HV3.out.c2, HV3.out.c3⟩, HU3.out.c0, HU3.out.c1, HU3.out.c2, HU3.out.c3⟩
   refine wp_region_held_drew (S := (fun V : World => (V.cell? ⟨wx.heap.size, 0, none⟩ = some (.bool sv) ∧ V.cell? ⟨wx.heap.size, 1, none⟩ = some (.slice Av nv cv) ∧ V.cell? ⟨wx.heap.size, 2, none⟩ = some (.bool tv) ∧ V.cell? ⟨wx.heap.size, 3, none⟩ = some (.slice Bv mv dv)) ∧ V.cell? ⟨wx.heap.size + 1, 0, none⟩ = some (.bool sw) ∧ V.cell? ⟨wx.heap.size + 1, 1, none⟩ = some (.slice Aw nw cw) ∧ V.cell? ⟨wx.heap.size + 1, 2, none⟩ = some (.bool tw) ∧ V.cell? ⟨wx.heap.size + 1, 3, none⟩ = some (.slice Bw mw dw))) (by kernel_rfl) (by rw [hW3]; with_reducible exact HK3.out) (fun hHeld => ?_)
   rw [hW3] at hHeld ⊢
   clear hW3 HV2 HU2 HP2 HR2 HG2 HQ2 HB2 HD3
   refine' tK 1 ?_
   try simp only [gY, gZ, gJ, aP, sT, sZ, sS]
   refine' tK 2 ?_
   try simp only [gY, gZ, gJ, aP, sT, sZ, sS]
   refine wpAnyH_ready (rs := [0, 3]) (by kernel_rfl) (by simp) ?_
   refine AllReadyH.cons rfl (fun K hK => ?_) (AllReadyH.cons rfl (fun K hK => ?_) AllReadyH.nil)
   ·try simp only [gY, gZ]
    have v0 := HG3.out.c0
    have vf0 := HG3.out.f 0
    have v1 := HG3.out.c1
    have vf1 := HG3.out.f 1
    have v2 := HG3.out.c2
    have vf2 := HG3.out.f 2
    have v3 := HG3.out.c3
    have vf3 := HG3.out.f 3
    go_simp
    clear v0 vf0 v1 vf1 v2 vf2 v3 vf3
    refine hK.out _ _ (by with_reducible exact HK3.out) (fun hHeld => ?_)
    clear hK K
    try simp only [aP, sT, sZ, sS]
    refine rQ 3 (fun K hK => ?_)
    try simp only [gY, gZ, gJ]
    go_simp
    with_reducible refine (Q.mul_q HP3.out HR3.out (by omega) (by omega) z HZ.out).mono ?_
    rintro e W4 ⟨s8, A8, n8, c8, t8, B8, m8, d8, rfl, hq, hbx⟩
    have HV4 := lh (HV3.out.below hbx)
    have HU4 := lh (HU3.out.below hbx)
    have HG4 := lh (HG3.out.below hbx)
    have HQ4 := lh (HQ3.out.below hbx)
    have HB4 := lh (below_on HB3.out hbx)
    have HZ4 := lh (hq.isq HZL.out)
    have HK4 : Hid ((W4.cell? ⟨wx.heap.size, 0, none⟩ = some (.bool sv) ∧ W4.cell? ⟨wx.heap.size, 1, none⟩ = some (.slice Av nv cv) ∧ W4.cell? ⟨wx.heap.size, 2, none⟩ = some (.bool tv) ∧ W4.cell? ⟨wx.heap.size, 3, none⟩ = some (.slice Bv mv dv)) ∧ W4.cell? ⟨wx.heap.size + 1, 0, none⟩ = some (.bool sw) ∧ W4.cell? ⟨wx.heap.size + 1, 1, none⟩ = some (.slice Aw nw cw) ∧ W4.cell? ⟨wx.heap.size + 1, 2, none⟩ = some (.bool tw) ∧ W4.cell? ⟨wx.heap.size + 1, 3, none⟩ = some (.slice Bw mw dw)) := ⟨⟨HV4.out.c0, HV4.out.c1, HV4.out.c2, HV4.out.c3⟩, HU4.out.c0, HU4.out.c1, HU4.out.c2, HU4.out.c3⟩
    clear hq hbx
    refine hK.out _ _ (by with_reducible exact HK4.out) (fun hHeld => ?_)
    clear hK K
    try simp only [aP, sT, sZ, sS]
    refine rQ 4 (fun K hK => ?_)
    try simp only [gY, gZ, gJ]
    go_simp
    with_reducible refine (Q.add_q (HQ4.out.isq HXL.out) HZ4.out (by omega) (by omega) y HY.out).mono ?_
    rintro e W5 ⟨s9, A9, n9, c9, t9, B9, m9, d9, rfl, hq, hbx⟩
    have HV5 := lh (HV4.out.below hbx)
    have HU5 := lh (HU4.out.below hbx)
    have HG5 := lh (HG4.out.below hbx)
    have HB5 := lh (below_on HB4.out hbx)
    have HY5 := lh hq
    have HK5 : Hid ((W5.cell? ⟨wx.heap.size, 0, none⟩ = some (.bool sv) ∧ W5.cell? ⟨wx.heap.size, 1, none⟩ = some (.slice Av nv cv) ∧ W5.cell? ⟨wx.heap.size, 2, none⟩ = some (.bool tv) ∧ W5.cell? ⟨wx.heap.size, 3, none⟩ = some (.slice Bv mv dv)) ∧ W5.cell? ⟨wx.heap.size + 1, 0, none⟩ = some (.bool sw) ∧ W5.cell? ⟨wx.heap.size + 1, 1, none⟩ = some (.slice Aw nw cw) ∧ W5.cell? ⟨wx.heap.size + 1, 2, none⟩ = some (.bool tw) ∧ W5.cell? ⟨wx.heap.size + 1, 3, none⟩ = some (.slice Bw mw dw)) := ⟨⟨HV5.out.c0, HV5.out.c1, HV5.out.c2, HV5.out.c3⟩, HU5.out.c0, HU5.out.c1, HU5.out.c2, HU5.out.c3⟩
    clear hq hbx
    refine hK.out _ _ (by with_reducible exact HK5.out) (fun hHeld => ?_)
    clear hK K
    try simp only [aP, sT, sZ, sS]
    refine rQ 5 (fun K hK => ?_)
    try simp only [gY, gZ, gJ]
    have v0 := HG5.out.c0
    have v1 := HG5.out.c1
    have v2 := HG5.out.c2
    have v3 := HG5.out.c3
    have vf0 := HG5.out.f 0
    have vf1 := HG5.out.f 1
    have vf2 := HG5.out.f 2
    have vf3 := HG5.out.f 3
    go_simp
    clear v0 v1 v2 v3 vf0 vf1 vf2 vf3
    have HV6 := lh (HV5.out.put4_far (s' := s9) (A' := A9) (n' := n9) (c' := c9) (t' := t9) (B' := B9) (m' := m9) (d' := d9) (g' := gT) (by have := HLX.out; omega))
    have HU6 := lh (HU5.out.put4_far (s' := s9) (A' := A9) (n' := n9) (c' := c9) (t' := t9) (B' := B9) (m' := m9) (d' := d9) (g' := gT) (by have := HLX.out; omega))
    refine hK.out _ _ (by with_reducible exact ⟨⟨HV6.out.c0, HV6.out.c1, HV6.out.c2, HV6.out.c3⟩, HU6.out.c0, HU6.out.c1, HU6.out.c2, HU6.out.c3⟩) (fun hHeld => ?_)
    clear hK K
    try simp only [aP, sT, sZ, sS]
    refine wpAnyH_done (by kernel_rfl) ?_ _
    go_wp2_with fail
    exact ⟨rfl, .bool true, by simp [results, Tryz.results95, go_sem], rfl, (((((HN.out.below HB5.out).setCell gT 0 _ rfl).setCell gT 1 _ rfl).setCell gT 2 _ rfl).setCell gT 3 _ rfl), s9, A9, n9, c9, t9, B9, m9, d9, HG5.out.put, HY5.out.on4 HG5.out.bx⟩
   ·try simp only [gY, gZ, gJ]
    go_simp
    with_reducible refine (Q.mul_q HP3.out HR3.out (by omega) (by omega) z HZ.out).mono ?_
    rintro e W4 ⟨s8, A8, n8, c8, t8, B8, m8, d8, rfl, hq, hbx⟩
    have HV4 := lh (HV3.out.below hbx)
    have HU4 := lh (HU3.out.below hbx)
    have HG4 := lh (HG3.out.below hbx)
    have HQ4 := lh (HQ3.out.below hbx)
    have HB4 := lh (below_on HB3.out hbx)
    have HZ4 := lh (hq.isq HZL.out)
    have HK4 : Hid ((W4.cell? ⟨wx.heap.size, 0, none⟩ = some (.bool sv) ∧ W4.cell? ⟨wx.heap.size, 1, none⟩ = some (.slice Av nv cv) ∧ W4.cell? ⟨wx.heap.size, 2, none⟩ = some (.bool tv) ∧ W4.cell? ⟨wx.heap.size, 3, none⟩ = some (.slice Bv mv dv)) ∧ W4.cell? ⟨wx.heap.size + 1, 0, none⟩ = some (.bool sw) ∧ W4.cell? ⟨wx.heap.size + 1, 1, none⟩ = some (.slice Aw nw cw) ∧ W4.cell? ⟨wx.heap.size + 1, 2, none⟩ = some (.bool tw) ∧ W4.cell? ⟨wx.heap.size + 1, 3, none⟩ = some (.slice Bw mw dw)) := ⟨⟨HV4.out.c0, HV4.out.c1, HV4.out.c2, HV4.out.c3⟩, HU4.out.c0, HU4.out.c1, HU4.out.c2, HU4.out.c3⟩
    clear hq hbx
    refine hK.out _ _ (by with_reducible exact HK4.out) (fun hHeld => ?_)
    clear hK K
    try simp only [aP, sT, sZ, sS]
    refine rQ 0 (fun K hK => ?_)
    try simp only [gY, gZ]
    have v0 := HG4.out.c0
    have vf0 := HG4.out.f 0
    have v1 := HG4.out.c1
    have vf1 := HG4.out.f 1
    have v2 := HG4.out.c2
    have vf2 := HG4.out.f 2
    have v3 := HG4.out.c3
    have vf3 := HG4.out.f 3
    go_simp
    clear v0 vf0 v1 vf1 v2 vf2 v3 vf3
    refine hK.out _ _ (by with_reducible exact HK4.out) (fun hHeld => ?_)
    clear hK K
    try simp only [aP, sT, sZ, sS]
    refine rQ 4 (fun K hK => ?_)
    try simp only [gY, gZ, gJ]
    go_simp
    with_reducible refine (Q.add_q (HQ4.out.isq HXL.out) HZ4.out (by omega) (by omega) y HY.out).mono ?_
    rintro e W5 ⟨s9, A9, n9, c9, t9, B9, m9, d9, rfl, hq, hbx⟩
    have HV5 := lh (HV4.out.below hbx)
    have HU5 := lh (HU4.out.below hbx)
    have HG5 := lh (HG4.out.below hbx)
    have HB5 := lh (below_on HB4.out hbx)
    have HY5 := lh hq
    have HK5 : Hid ((W5.cell? ⟨wx.heap.size, 0, none⟩ = some (.bool sv) ∧ W5.cell? ⟨wx.heap.size, 1, none⟩ = some (.slice Av nv cv) ∧ W5.cell? ⟨wx.heap.size, 2, none⟩ = some (.bool tv) ∧ W5.cell? ⟨wx.heap.size, 3, none⟩ = some (.slice Bv mv dv)) ∧ W5.cell? ⟨wx.heap.size + 1, 0, none⟩ = some (.bool sw) ∧ W5.cell? ⟨wx.heap.size + 1, 1, none⟩ = some (.slice Aw nw cw) ∧ W5.cell? ⟨wx.heap.size + 1, 2, none⟩ = some (.bool tw) ∧ W5.cell? ⟨wx.heap.size + 1, 3, none⟩ = some (.slice Bw mw dw)) := ⟨⟨HV5.out.c0, HV5.out.c1, HV5.out.c2, HV5.out.c3⟩, HU5.out.c0, HU5.out.c1, HU5.out.c2, HU5.out.c3⟩
    clear hq hbx
    refine hK.out _ _ (by with_reducible exact HK5.out) (fun hHeld => ?_)
    clear hK K
    try simp only [aP, sT, sZ, sS]
    refine rQ 5 (fun K hK => ?_)
    try simp only [gY, gZ, gJ]
    have v0 := HG5.out.c0
    have v1 := HG5.out.c1
    have v2 := HG5.out.c2
    have v3 := HG5.out.c3
    have vf0 := HG5.out.f 0
    have vf1 := HG5.out.f 1
    have vf2 := HG5.out.f 2
    have vf3 := HG5.out.f 3
    go_simp
    clear v0 v1 v2 v3 vf0 vf1 vf2 vf3
    have HV6 := lh (HV5.out.put4_far (s' := s9) (A' := A9) (n' := n9) (c' := c9) (t' := t9) (B' := B9) (m' := m9) (d' := d9) (g' := gT) (by have := HLX.out; omega))
    have HU6 := lh (HU5.out.put4_far (s' := s9) (A' := A9) (n' := n9) (c' := c9) (t' := t9) (B' := B9) (m' := m9) (d' := d9) (g' := gT) (by have := HLX.out; omega))
    refine hK.out _ _ (by with_reducible exact ⟨⟨HV6.out.c0, HV6.out.c1, HV6.out.c2, HV6.out.c3⟩, HU6.out.c0, HU6.out.c1, HU6.out.c2, HU6.out.c3⟩) (fun hHeld => ?_)
    clear hK K
    try simp only [aP, sT, sZ, sS]
    refine wpAnyH_done (by kernel_rfl) ?_ _
    go_wp2_with fail
    exact ⟨rfl, .bool true, by simp [results, Tryz.results95, go_sem], rfl, (((((HN.out.below HB5.out).setCell gT 0 _ rfl).setCell gT 1 _ rfl).setCell gT 2 _ rfl).setCell gT 3 _ rfl), s9, A9, n9, c9, t9, B9, m9, d9, HG5.out.put, HY5.out.on4 HG5.out.bx⟩
def dotD : List (Int × Rat × Rat) → Rat
 | [] => 0
 | (_, p, r) :: D => p * r + dotD D
theorem dotD_snoc (D : List (Int × Rat × Rat)) (a : Int) (p r : Rat) : dotD (D ++ [(a, p, r)]) = dotD D + p * r := by
 induction D with
 | nil => show p * r + 0 = 0 + p * r; grind
 | cons s D ih => obtain ⟨b, q, t⟩ := s; show q * t + dotD (D ++ [(a, p, r)]) = q * t + dotD D + p * r; rw [ih]; grind
def Has (X Y : List (Int × Rat)) (D : List (Int × Rat × Rat)) : Prop := D.Pairwise (fun s t => s.1 < t.1) ∧ ∀ s ∈ D, s.2.1 = tot X s.1 ∧ s.2.2 = tot Y s.1
def SmallDot (X Y : List (Int × Rat)) : Prop := ∀ D, Has X Y D → ql (dotD D) ≤ 700
def DotSt (w : World) (gT : Nat) (X Y : List (Int × Rat)) (wl wx : World) (D : List (Int × Rat × Rat)) : Prop :=
 Below w.heap.size w wl ∧ Near (fun b => b = gT) wl wx ∧ gT < wl.heap.size ∧ Has X Y D ∧ ∃ s A n c t B m d, Qbx wx gT s A n c t B m d ∧ OneQ wx s A n c t B m d (dotD D)
theorem dot_does {w W : World} {gT : Nat} {X Y : List (Int × Rat)} {N : Nat} (hb : Below w.heap.size w W) (hg : Qbx W gT false none 0 0 false none 0 0) (hs : SmallDot X Y) :
  Visit 95 #[.pointer (some ⟨gT, 0, none⟩)] W (fun b => b = gT) X Y N (DotSt w gT X Y) (fun _ _ => true) where
 eg := enters_of Tryz.func95 (by kernel_rfl) rfl
 own b hb := by rw [hb]; exact hg.lt
 dig b hb := by
  subst hb
  intro i v hv z
  have h : W.heap[b]? = some (.cells #[.bool false, .slice none 0 0, .bool false, .slice none 0 0] 27 (0, 0)) := hg
  rw [cell_of_row _ _ i _ _ _ h] at hv
  match i with
  | 0 => obtain rfl := oI hv; intro h; cases h
  | 1 => obtain rfl := oI hv; intro h; cases h
  | 2 => obtain rfl := oI hv; intro h; cases h
  | 3 => obtain rfl := oI hv; intro h; cases h
  | i + 4 => simp at hv
 start wl hl := ⟨below_on hb hl, Near.refl _ _, lL hg.lt hl.size, ⟨List.Pairwise.nil, by simp⟩, _, _, _, _, _, _, _, _, hg.below hl, Q.oneq_zero _ _ _⟩
 near wl wx D h := h.2.1
 keep wl wx wy D h hy := by
  obtain ⟨h1, h2, h3, h4, s, A, n, c, t, B, m, d, h5, h6⟩ := h
  exact ⟨h1, h2.below hy, h3, h4, s, A, n, c, t, B, m, d, h5.below hy, h6.below hy⟩
 call wl wx D a sv Av nv cv tv Bv mv dv sw Aw nw cw tw Bw mw dw h _ h1 h2 _ _ hD _ := by
  obtain ⟨g1, g2, g3, g4, s, A, n, c, t, B, m, d, g5, g6⟩ := h
  have hone : Has X Y [(a, tot X a, tot Y a)] := ⟨by simp, fun s hs => by obtain rfl := List.mem_singleton.1 hs; exact ⟨rfl, rfl⟩⟩
  have hz : ql (tot X a * tot Y a) ≤ 700 := by
   have h3 := hs _ hone
   have e : dotD [(a, tot X a, tot Y a)] = tot X a * tot Y a := by show tot X a * tot Y a + 0 = _; grind
   rwa [e] at h3
  refine (dot_visit g2 g5 g6 (hs D g4) g3 h1 h2 hz rfl).mono ?_
  rintro e wy ⟨rfl, h6, s', A', n', c', t', B', m', d', h7, h8⟩
  refine ⟨rfl, g1, h6, g3, ⟨?_, ?_⟩, s', A', n', c', t', B', m', d', h7, by rw [dotD_snoc]; exact h8⟩
  ·rw [List.pairwise_append]
   exact ⟨g4.1, by simp, fun x hx y hy => by obtain rfl := List.mem_singleton.1 hy; exact hD x hx⟩
  ·intro x hx
   rcases List.mem_append.1 hx with hx | hx
   ·exact g4.2 x hx
   ·exact hone.2 x hx
theorem dotD_over (F G : Int → Rat) (D : List (Int × Rat × Rat)) (h : ∀ s ∈ D, s.2.1 = F s.1 ∧ s.2.2 = G s.1) : dotD D = over (fun a => F a * G a) (D.map (fun s => s.1)) := by
 induction D with
 | nil => rfl
 | cons s D ih =>
  obtain ⟨a, p, r⟩ := s
  have h1 := h (a, p, r) (List.mem_cons_self ..)
  show p * r + dotD D = F a * G a + over _ (D.map _)
  rw [ih (fun x hx => h x (List.mem_cons_of_mem _ hx)), ← h1.1, ← h1.2]
def DotOf (X Y : List (Int × Rat)) (q : Rat) : Prop := ∀ L : List Int, L.Nodup → (∀ a, a ∉ L → tot X a * tot Y a = 0) → q = over (fun a => tot X a * tot Y a) L
theorem gone_dot {X Y : List (Int × Rat)} {D : List (Int × Rat × Rat)} (h : Gone X Y D) : DotOf X Y (dotD D) := by
 intro L hL h0
 rw [dotD_over (tot X) (tot Y) D h.has]
 refine over_same ?_ hL ?_ h0
 ·exact List.Pairwise.map _ (fun s t (hst : s.1 < t.1) => by show s.1 ≠ t.1; omega) h.up
 ·intro a ha
  have h1 := h.out a (fun s hs e => ha (List.mem_map.2 ⟨s, hs, e⟩))
  rw [h1.1, Rat.zero_mul]
theorem dot_v {w : World} {A : Option Addr} {n c k : Nat} {xs : List (TV × Rat)} {B : Option Addr} {m d : Nat} {ys : List (TV × Rat)} (hx : IsV w A n c xs k) (hk : k ≤ 700) (hn : n ≤ 1000000) (hsx : Short (vals xs)) (hA : ∀ a, A = some a → a.block < w.heap.size) (hy : IsV w B m d ys k) (hm : m ≤ 1000000) (hsy : Short (vals ys)) (hB : ∀ a, B = some a → a.block < w.heap.size) (hs : SmallDot (vals xs) (vals ys)) :
  Calls Tryz.prog 29 #[.slice A n c, .slice B m d] w (fun e w' => ∃ q, DotOf (vals xs) (vals ys) q ∧ ql q ≤ 700 ∧ Q.RetQ w q e w') := by
 obtain ⟨W0, hW0⟩ : ∃ V, w.alloc (.cells #[.bool false, .slice none 0 0, .bool false, .slice none 0 0] 27) = V := ⟨_, rfl⟩
 have hb0 : Below w.heap.size w W0 := by rw [← hW0]; exact (Below.refl _ _).alloc (Nat.le_refl _) _
 have hs0 : W0.heap.size = w.heap.size + 1 := by rw [← hW0]; simp
 have ho0 : Qbx W0 w.heap.size false none 0 0 false none 0 0 := by rw [← hW0]; exact Qbx.new _ _ rfl
 have hb1 : Below W0.heap.size W0 (W0.alloc (.cells #[.bool false, .slice none 0 0, .bool false, .slice none 0 0] 27)) := (Below.refl _ _).alloc (Nat.le_refl _) _
 have hg1 : Qbx (W0.alloc (.cells #[.bool false, .slice none 0 0, .bool false, .slice none 0 0] 27)) W0.heap.size false none 0 0 false none 0 0 := Qbx.new _ _ rfl
 obtain ⟨W1, hW1⟩ : ∃ V, W0.alloc (.cells #[.bool false, .slice none 0 0, .bool false, .slice none 0 0] 27) = V := ⟨_, rfl⟩
 rw [hW1] at hb1 hg1
 have v0 := hg1.c0
 have v1 := hg1.c1
 have v2 := hg1.c2
 have v3 := hg1.c3
 have vf0 := hg1.f 0
 have vf1 := hg1.f 1
 have vf2 := hg1.f 2
 have vf3 := hg1.f 3
 have ho1 := (ho0.below hb1).put4_far (s' := false) (A' := none) (n' := 0) (c' := 0) (t' := false) (B' := none) (m' := 0) (d' := 0) (g' := W0.heap.size) (by omega)
 have hg2 := hg1.put (s' := false) (A' := none) (n' := 0) (c' := 0) (t' := false) (B' := none) (m' := 0) (d' := 0)
 have hb2 := below_put4 (g := W0.heap.size) (s' := false) (A' := none) (n' := 0) (c' := 0) (t' := false) (B' := none) (m' := 0) (d' := 0) (below_on hb0 hb1) (by omega)
 obtain ⟨W2, hW2⟩ : ∃ V, (((W1.setCell ⟨W0.heap.size, 0, none⟩ (.bool false)).setCell ⟨W0.heap.size, 1, none⟩ (.slice none 0 0)).setCell ⟨W0.heap.size, 2, none⟩ (.bool false)).setCell ⟨W0.heap.size, 3, none⟩ (.slice none 0 0) = V := ⟨_, rfl⟩
 simp only [Q.put4, hW2] at ho1 hg2 hb2
 have HJ := lh (walk_any (hx.below hb2) (hy.below hb2) hk hn hm hsx hsy (fun a ha h => by have := hA a ha; omega) (fun a ha h => by have := hB a ha; omega) (dot_does hb2 hg2 hs))
 have HO := lh ho1
 have HOL := lh ho1.lt
 have HZ := lh hs0
 have HS := lh hs
 clear hx hk hn hsx hA hy hm hsy hB hg1 hb0 hb1 ho0 hs0 hs ho1 hg2 hb2
 go_enter Tryz.func29, Tryz.ntmps29
 go_upto_region 2 with fail
 clear hW0 hW1 v0 v1 v2 v3 vf0 vf1 vf2 vf3
 try rw [hW2]
 clear hW2
 go_wp2_with fail
 refine HJ.out.mono ?_
 rintro e w1 ⟨rfl, wl, D, hbl, ⟨h1, h2, h3, h4, s8, A8, n8, c8, t8, B8, m8, d8, h5, h6⟩, h7⟩
 have HOA := lh (h2.block w.heap.size (lL HOL.out hbl.size) (fun e => by have := HZ.out; omega))
 have hob : Qbx wl w.heap.size false none 0 0 false none 0 0 := HO.out.below hbl
 have ho1 : Qbx w1 w.heap.size false none 0 0 false none 0 0 := HOA.out.trans hob
 have HO1 := lh ho1
 have HG1 := lh h5
 have H1 := lh h6
 have HD : Hid (DotOf (vals xs) (vals ys) (dotD D) ∧ ql (dotD D) ≤ 700) := ⟨gone_dot (through_all h7), HS.out D h4⟩
 have HB1 : Hid (Below w.heap.size w w1) := h2.new h1 (fun b hb => by have := HZ.out; omega)
 clear h1 h2 h3 h4 h5 h6 h7 hob ho1 HJ hbl HO HOA
 have v0 := HG1.out.c0
 have v1 := HG1.out.c1
 have v2 := HG1.out.c2
 have v3 := HG1.out.c3
 have o0 := HO1.out.c0
 have o1 := HO1.out.c1
 have o2 := HO1.out.c2
 have o3 := HO1.out.c3
 have vf0 := HO1.out.f 0
 have vf1 := HO1.out.f 1
 have vf2 := HO1.out.f 2
 have vf3 := HO1.out.f 3
 go_wp2_with fail
 have p0 := (HO1.out.put (s' := s8) (A' := A8) (n' := n8) (c' := c8) (t' := t8) (B' := B8) (m' := m8) (d' := d8)).c0
 have p1 := (HO1.out.put (s' := s8) (A' := A8) (n' := n8) (c' := c8) (t' := t8) (B' := B8) (m' := m8) (d' := d8)).c1
 have p2 := (HO1.out.put (s' := s8) (A' := A8) (n' := n8) (c' := c8) (t' := t8) (B' := B8) (m' := m8) (d' := d8)).c2
 have p3 := (HO1.out.put (s' := s8) (A' := A8) (n' := n8) (c' := c8) (t' := t8) (B' := B8) (m' := m8) (d' := d8)).c3
 simp only [Q.put4] at p0 p1 p2 p3
 refine bodyPost_ret (v := .agg #[.bool s8, .slice A8 n8 c8, .bool t8, .slice B8 m8 d8]) (by simp [results, Tryz.results29, go_sem, p0, p1, p2, p3]) rfl ?_
 exact ⟨dotD D, HD.out.1, HD.out.2, s8, A8, n8, c8, t8, B8, m8, d8, rfl, H1.out.on4 HO1.out.bx, below_put4 HB1.out (Nat.le_refl _)⟩
end V

namespace V
open Go.RowKit
open Q (IsQ OneQ RetQ below_on ql Qbx below_put4 qsign qsign_zero_iff)
end V

namespace V
open Go.RowKit
open Q (IsQ OneQ RetQ below_on ql Qbx)
structure OM (w wx : World) (v : Value) (ys : List (TV × Rat)) (kp : Int → Bool) (i : Nat) : Prop where
 bel : Below w.heap.size w wx
 own : wx.ownsRow w.heap.size 67 5 v (((ys.take i).filter (fun y => kp y.1.at_)).map Prod.fst).length (flat (((ys.take i).filter (fun y => kp y.1.at_)).map Prod.fst))
theorem ownsRow_below {w w' : World} {base : Nat} {e : TypeId} {size : Nat} {v : Value} {n : Nat} {xs : List Value} (h : w.ownsRow base e size v n xs) (hb : Below w.heap.size w w') : w'.ownsRow base e size v n xs := by
 refine ⟨h.1, ?_⟩
 rcases h.2 with hn | ⟨g, cap, cur, rfl, h1, h2, rest⟩
 ·exact .inl hn
 ·exact .inr ⟨g, cap, cur, rfl, h1, (hb.block g (lt_of_block h2)).trans h2, rest⟩
theorem OM.below {w wx wy : World} {v : Value} {ys : List (TV × Rat)} {kp : Int → Bool} {i : Nat} (h : OM w wx v ys kp i) (hb : Below wx.heap.size wx wy) : OM w wy v ys kp i := ⟨below_on h.bel hb, ownsRow_below h.own hb⟩
end V

namespace V
open Go.RowKit
open Q (IsQ OneQ RetQ below_on ql Qbx below_put4)
theorem Short.filter {l : List (Int × Rat)} (h : Short l) (p : Int × Rat → Bool) : Short (l.filter p) := h.sub (List.length_filter_le ..) (fun _ hx => (List.mem_filter.1 hx).1)
theorem Short.take {l : List (Int × Rat)} (h : Short l) (i : Nat) : ql (all (l.take i)) ≤ 700 := h _ (by rw [List.length_take]; omega) (fun _ hx => List.mem_of_mem_take hx)
theorem Short.one {a : Int} {q : Rat} (h : ql q ≤ 700) : Short [(a, q)] := by
 intro l hl hm
 match l, hl, hm with
 | [], _, _ => exact Nat.le_trans ql_zero1 (by omega)
 | x :: [], _, hm =>
  obtain rfl := List.mem_singleton.1 (hm x (List.mem_singleton.2 rfl))
  have e : all [(a, q)] = q := by show q + 0 = q; grind
  rw [e]; exact h
 | _ :: _ :: _, hl, _ => simp at hl
def putAt (F : Int → Rat) (p : Int) (q : Rat) (a : Int) : Rat := if a = p then q else F a
end V

namespace V
open Go.RowKit
open Q (IsQ OneQ RetQ below_on ql Qbx)
end V

namespace V
open Go.RowKit
open Q (IsQ OneQ RetQ below_on ql Qbx qsign qsign_zero_iff)
end V

namespace V
open Go.RowKit
open Q (IsQ OneQ RetQ below_on ql Qbx Box)
def RetT (w : World) (a : Int) (q : Rat) (e : Ending) (w' : World) : Prop :=
 ∃ s A n c t B m d, e = .returned (.agg #[.int .i64 a, .bool s, .slice A n c, .bool t, .slice B m d]) ∧ OneQ w' s A n c t B m d q ∧ Below w.heap.size w w'
