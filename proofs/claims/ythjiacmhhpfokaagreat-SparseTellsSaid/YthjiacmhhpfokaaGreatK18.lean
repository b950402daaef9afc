/- Part 18 of the proof: VAxpy, VOnly, VGet. -/
import Derived.Test.YthjiacmhhpfokaaGreatK17
namespace Go.Proofs.YthjiacmhhpfokaaGreat
open Lib renaming hid → lh
open Go.Proofs.Tryz renaming prog → tz
open Nat renaming le_refl → lR, lt_of_lt_of_le → lL
open Go.RowKit.Below renaming refl → bR
namespace V
open List renaming getElem_toArray → gY, getElem_cons_zero → gZ, getElem_cons_succ → gJ, setIfInBounds_toArray → sT, set_cons_zero → sZ, set_cons_succ → sS
set_option maxRecDepth 100000
set_option maxHeartbeats 4000000
open Go.RowKit
open Q (IsQ OneQ RetQ below_on ql Qbx below_put4 qsign qsign_zero_iff)
theorem do_axpy {w : World} {gA : Nat} {sa : Bool} {Aa : Option Addr} {na ca : Nat} {ta : Bool} {Ba : Option Addr} {ma da : Nat} {q : Rat} (hg : Qbx w gA sa Aa na ca ta Ba ma da) (hq : IsQ w sa Aa na ca ta Ba ma da q 700) : Do w 83 #[.pointer (some ⟨gA, 0, none⟩)] (fun p r => p + q * r) (fun p r => ql p ≤ 700 ∧ ql (q * r) ≤ 700) := by
 refine ⟨enters_of Tryz.func83 (by kernel_rfl) rfl, ?_, fun p r h => Nat.le_trans (Q.ql_add p (q * r)) (by omega)⟩
 intro W sv Av nv cv tv Bv mv dv sw Aw nw cw tw Bw mw dw p r hb hp hr hok
 show Calls tz 83 #[.agg #[.bool sv, .slice Av nv cv, .bool tv, .slice Bv mv dv], .agg #[.bool sw, .slice Aw nw cw, .bool tw, .slice Bw mw dw], .pointer (some ⟨gA, 0, none⟩)] W (Q.RetQ W (p + q * r))
 obtain ⟨W3, hW3⟩ : ∃ V, (((W).alloc (.cells #[.bool sv, .slice Av nv cv, .bool tv, .slice Bv mv dv] 27)).alloc (.cells #[.bool sw, .slice Aw nw cw, .bool tw, .slice Bw mw dw] 27)).alloc (.cells #[.bool false, .slice none 0 0, .bool false, .slice none 0 0] 27) = V := ⟨_, rfl⟩
 have HB3 : Hid (Below W.heap.size W W3) := by rw [← hW3]; exact (((bR _ _).alloc (lR _) _).alloc (by simp) _).alloc (by simp; omega) _
 have HV3 : Hid (Qbx W3 W.heap.size sv Av nv cv tv Bv mv dv) := by rw [← hW3]; exact ((Qbx.new _ _ rfl).alloc _).alloc _
 have HU3 : Hid (Qbx W3 (W.heap.size + 1) sw Aw nw cw tw Bw mw dw) := by rw [← hW3]; exact (Qbx.new _ _ (by simp)).alloc _
 have HO3 : Hid (Qbx W3 (W.heap.size + 2) false none 0 0 false none 0 0) := by rw [← hW3]; exact Qbx.new _ _ (by simp)
 have HA3 := lh ((hg.below hb).below HB3.out)
 have HQ3 := lh ((hq.below hb).below HB3.out)
 have HP3 := lh (hp.below HB3.out)
 have HR3 := lh (hr.below HB3.out)
 have HGL : Hid (gA < W.heap.size) := lL hg.lt hb.size
 obtain ⟨z, hz⟩ : ∃ z, q * r = z := ⟨_, rfl⟩
 have HZ := lh hz
 have HZL : Hid (ql z ≤ 700) := by show _ ≤ _; rw [← hz]; exact hok.2
 obtain ⟨sg, hsg⟩ : ∃ s, qsign p = s := ⟨_, rfl⟩
 have HSG := lh hsg
 obtain ⟨sh, hsh⟩ : ∃ s, qsign r = s := ⟨_, rfl⟩
 have HSH := lh hsh
 clear hg hq hb hp hr hok
 by_cases h1 : r = 0
 ·have g2 : (sh == 0) = true := by rw [← hsh, qsign_zero_iff.2 h1]; rfl
  have HE : Hid (p + q * r = p) := by show _ = _; rw [h1, Rat.mul_zero, Rat.add_zero]
  clear hsg hsh hz h1
  go_enter Tryz.func83, Tryz.ntmps83
  have u0 := HU3.out.c0
  have u1 := HU3.out.c1
  have u2 := HU3.out.c2
  have u3 := HU3.out.c3
  go_upto_region 1 with fail
  clear hW3
  go_wp2_with fail
  refine (Q.sign_q HR3.out (by omega) sh HSH.out).mono ?_
  rintro e w4 ⟨rfl, hb⟩
  clear u0 u1 u2 u3
  have HV4 := lh (HV3.out.below hb)
  have HU4 := lh (HU3.out.below hb)
  have HA4 := lh (HA3.out.below hb)
  have HO4 := lh (HO3.out.below hb)
  have HP4 := lh (HP3.out.below hb)
  have HR4 := lh (HR3.out.below hb)
  have HQ4 := lh (HQ3.out.below hb)
  have HB4 := lh (below_on HB3.out hb)
  clear hb HV3 HU3 HA3 HO3 HP3 HR3 HQ3 HB3
  have v0 := HV4.out.c0
  have v1 := HV4.out.c1
  have v2 := HV4.out.c2
  have v3 := HV4.out.c3
  go_wp2_with fail
  refine (Q.norm_q HP4.out (by omega) (by omega)).mono ?_
  clear v0 v1 v2 v3
  rintro e w8 ⟨s8, A8, n8, c8, t8, B8, m8, d8, rfl, h8, hb⟩
  have HO8 := lh (HO4.out.below hb)
  have HB8 := lh (below_on HB4.out hb)
  have HY8 : Hid (OneQ w8 s8 A8 n8 c8 t8 B8 m8 d8 (p + q * r)) := by rw [HE.out]; exact h8
  clear h8 hb
  have o0 := HO8.out.c0
  have fo0 := HO8.out.f 0
  have o1 := HO8.out.c1
  have fo1 := HO8.out.f 1
  have o2 := HO8.out.c2
  have fo2 := HO8.out.f 2
  have o3 := HO8.out.c3
  have fo3 := HO8.out.f 3
  go_wp2_with fail
  have p0 := (HO8.out.put (s' := s8) (A' := A8) (n' := n8) (c' := c8) (t' := t8) (B' := B8) (m' := m8) (d' := d8)).c0
  have p1 := (HO8.out.put (s' := s8) (A' := A8) (n' := n8) (c' := c8) (t' := t8) (B' := B8) (m' := m8) (d' := d8)).c1
  have p2 := (HO8.out.put (s' := s8) (A' := A8) (n' := n8) (c' := c8) (t' := t8) (B' := B8) (m' := m8) (d' := d8)).c2
  have p3 := (HO8.out.put (s' := s8) (A' := A8) (n' := n8) (c' := c8) (t' := t8) (B' := B8) (m' := m8) (d' := d8)).c3
  simp only [Q.put4] at p0 p1 p2 p3
  refine bodyPost_ret (v := .agg #[.bool s8, .slice A8 n8 c8, .bool t8, .slice B8 m8 d8]) (by simp [results, Tryz.results83, go_sem, p0, p1, p2, p3]) rfl ?_
  exact ⟨s8, A8, n8, c8, t8, B8, m8, d8, rfl, HY8.out.on4 HO8.out.bx, below_put4 HB8.out (by omega)⟩
 ·have g2 : (sh == 0) = false := by rw [← hsh, beq_eq_false_iff_ne]; exact fun h => h1 (qsign_zero_iff.1 h)
  by_cases h0 : p = 0
  ·have g1 : (sg == 0) = true := by rw [← hsg, qsign_zero_iff.2 h0]; rfl
   have HE : Hid (q * r = p + q * r) := by show _ = _; rw [h0, Rat.zero_add]
   clear hsg hsh hz h0 h1
   go_enter Tryz.func83, Tryz.ntmps83
   have u0 := HU3.out.c0
   have u1 := HU3.out.c1
   have u2 := HU3.out.c2
   have u3 := HU3.out.c3
   go_upto_region 1 with fail
   clear hW3
   go_wp2_with fail
   refine (Q.sign_q HR3.out (by omega) sh HSH.out).mono ?_
   rintro e w4 ⟨rfl, hb⟩
   clear u0 u1 u2 u3
   have HV4 := lh (HV3.out.below hb)
   have HU4 := lh (HU3.out.below hb)
   have HA4 := lh (HA3.out.below hb)
   have HO4 := lh (HO3.out.below hb)
   have HP4 := lh (HP3.out.below hb)
   have HR4 := lh (HR3.out.below hb)
   have HQ4 := lh (HQ3.out.below hb)
   have HB4 := lh (below_on HB3.out hb)
   clear hb HV3 HU3 HA3 HO3 HP3 HR3 HQ3 HB3
   have v0 := HV4.out.c0
   have v1 := HV4.out.c1
   have v2 := HV4.out.c2
   have v3 := HV4.out.c3
   go_wp2_with fail
   refine (Q.sign_q HP4.out (by omega) sg HSG.out).mono ?_
   rintro e w5 ⟨rfl, hb⟩
   clear v0 v1 v2 v3
   have HV5 := lh (HV4.out.below hb)
   have HU5 := lh (HU4.out.below hb)
   have HA5 := lh (HA4.out.below hb)
   have HO5 := lh (HO4.out.below hb)
   have HP5 := lh (HP4.out.below hb)
   have HR5 := lh (HR4.out.below hb)
   have HQ5 := lh (HQ4.out.below hb)
   have HB5 := lh (below_on HB4.out hb)
   clear hb HV4 HU4 HA4 HO4 HP4 HR4 HQ4 HB4
   have v0 := HA5.out.c0
   have v1 := HA5.out.c1
   have v2 := HA5.out.c2
   have v3 := HA5.out.c3
   have u0 := HU5.out.c0
   have u1 := HU5.out.c1
   have u2 := HU5.out.c2
   have u3 := HU5.out.c3
   go_wp2_with fail
   refine (Q.mul_q HQ5.out HR5.out (by omega) (by omega) _ HE.out).mono ?_
   clear v0 v1 v2 v3
   clear u0 u1 u2 u3
   rintro e w8 ⟨s8, A8, n8, c8, t8, B8, m8, d8, rfl, h8, hb⟩
   have HO8 := lh (HO5.out.below hb)
   have HB8 := lh (below_on HB5.out hb)
   have HY8 := lh h8
   clear h8 hb
   have o0 := HO8.out.c0
   have fo0 := HO8.out.f 0
   have o1 := HO8.out.c1
   have fo1 := HO8.out.f 1
   have o2 := HO8.out.c2
   have fo2 := HO8.out.f 2
   have o3 := HO8.out.c3
   have fo3 := HO8.out.f 3
   go_wp2_with fail
   have p0 := (HO8.out.put (s' := s8) (A' := A8) (n' := n8) (c' := c8) (t' := t8) (B' := B8) (m' := m8) (d' := d8)).c0
   have p1 := (HO8.out.put (s' := s8) (A' := A8) (n' := n8) (c' := c8) (t' := t8) (B' := B8) (m' := m8) (d' := d8)).c1
   have p2 := (HO8.out.put (s' := s8) (A' := A8) (n' := n8) (c' := c8) (t' := t8) (B' := B8) (m' := m8) (d' := d8)).c2
   have p3 := (HO8.out.put (s' := s8) (A' := A8) (n' := n8) (c' := c8) (t' := t8) (B' := B8) (m' := m8) (d' := d8)).c3
   simp only [Q.put4] at p0 p1 p2 p3
   refine bodyPost_ret (v := .agg #[.bool s8, .slice A8 n8 c8, .bool t8, .slice B8 m8 d8]) (by simp [results, Tryz.results83, go_sem, p0, p1, p2, p3]) rfl ?_
   exact ⟨s8, A8, n8, c8, t8, B8, m8, d8, rfl, HY8.out.on4 HO8.out.bx, below_put4 HB8.out (by omega)⟩
  ·have g1 : (sg == 0) = false := by rw [← hsg, beq_eq_false_iff_ne]; exact fun h => h0 (qsign_zero_iff.1 h)
   clear hsg hsh hz h0 h1
   go_enter Tryz.func83, Tryz.ntmps83
   have u0 := HU3.out.c0
   have u1 := HU3.out.c1
   have u2 := HU3.out.c2
   have u3 := HU3.out.c3
   go_upto_region 1 with fail
   clear hW3
   go_wp2_with fail
   refine (Q.sign_q HR3.out (by omega) sh HSH.out).mono ?_
   rintro e w4 ⟨rfl, hb⟩
   clear u0 u1 u2 u3
   have HV4 := lh (HV3.out.below hb)
   have HU4 := lh (HU3.out.below hb)
   have HA4 := lh (HA3.out.below hb)
   have HO4 := lh (HO3.out.below hb)
   have HP4 := lh (HP3.out.below hb)
   have HR4 := lh (HR3.out.below hb)
   have HQ4 := lh (HQ3.out.below hb)
   have HB4 := lh (below_on HB3.out hb)
   clear hb HV3 HU3 HA3 HO3 HP3 HR3 HQ3 HB3
   have v0 := HV4.out.c0
   have v1 := HV4.out.c1
   have v2 := HV4.out.c2
   have v3 := HV4.out.c3
   go_wp2_with fail
   refine (Q.sign_q HP4.out (by omega) sg HSG.out).mono ?_
   rintro e w5 ⟨rfl, hb⟩
   clear v0 v1 v2 v3
   have HV5 := lh (HV4.out.below hb)
   have HU5 := lh (HU4.out.below hb)
   have HA5 := lh (HA4.out.below hb)
   have HO5 := lh (HO4.out.below hb)
   have HP5 := lh (HP4.out.below hb)
   have HR5 := lh (HR4.out.below hb)
   have HQ5 := lh (HQ4.out.below hb)
   have HB5 := lh (below_on HB4.out hb)
   clear hb HV4 HU4 HA4 HO4 HP4 HR4 HQ4 HB4
   go_upto_region 5 with fail
   obtain ⟨W6, hW6⟩ : ∃ V, w5.drew = V := ⟨_, rfl⟩
   have hb : Below w5.heap.size w5 W6 := by rw [← hW6]; exact (bR _ _).drew
   have HV6 := lh (HV5.out.below hb)
   have HU6 := lh (HU5.out.below hb)
   have HA6 := lh (HA5.out.below hb)
   have HO6 := lh (HO5.out.below hb)
   have HP6 := lh (HP5.out.below hb)
   have HR6 := lh (HR5.out.below hb)
   have HQ6 := lh (HQ5.out.below hb)
   have HB6 := lh (below_on HB5.out hb)
   clear hb HV5 HU5 HA5 HO5 HP5 HR5 HQ5 HB5
   have HK6 : Hid ((W6.cell? ⟨W.heap.size, 0, none⟩ = some (.bool sv) ∧ W6.cell? ⟨W.heap.size, 1, none⟩ = some (.slice Av nv cv) ∧ W6.cell? ⟨W.heap.size, 2, none⟩ = some (.bool tv) ∧ W6.cell? ⟨W.heap.size, 3, none⟩ = some (.slice Bv mv dv)) ∧ (W6.cell? ⟨W.heap.size + 1, 0, none⟩ = some (.bool sw) ∧ W6.cell? ⟨W.heap.size + 1, 1, none⟩ = some (.slice Aw nw cw) ∧ W6.cell? ⟨W.heap.size + 1, 2, none⟩ = some (.bool tw) ∧ W6.cell? ⟨W.heap.size + 1, 3, none⟩ = some (.slice Bw mw dw)) ∧ W6.cell? ⟨gA, 0, none⟩ = some (.bool sa) ∧ W6.cell? ⟨gA, 1, none⟩ = some (.slice Aa na ca) ∧ W6.cell? ⟨gA, 2, none⟩ = some (.bool ta) ∧ W6.cell? ⟨gA, 3, none⟩ = some (.slice Ba ma da)) := ⟨⟨HV6.out.c0, HV6.out.c1, HV6.out.c2, HV6.out.c3⟩, ⟨HU6.out.c0, HU6.out.c1, HU6.out.c2, HU6.out.c3⟩, HA6.out.c0, HA6.out.c1, HA6.out.c2, HA6.out.c3⟩
   refine wp_region_held_drew (S := (fun V : World => (V.cell? ⟨W.heap.size, 0, none⟩ = some (.bool sv) ∧ V.cell? ⟨W.heap.size, 1, none⟩ = some (.slice Av nv cv) ∧ V.cell? ⟨W.heap.size, 2, none⟩ = some (.bool tv) ∧ V.cell? ⟨W.heap.size, 3, none⟩ = some (.slice Bv mv dv)) ∧ (V.cell? ⟨W.heap.size + 1, 0, none⟩ = some (.bool sw) ∧ V.cell? ⟨W.heap.size + 1, 1, none⟩ = some (.slice Aw nw cw) ∧ V.cell? ⟨W.heap.size + 1, 2, none⟩ = some (.bool tw) ∧ V.cell? ⟨W.heap.size + 1, 3, none⟩ = some (.slice Bw mw dw)) ∧ V.cell? ⟨gA, 0, none⟩ = some (.bool sa) ∧ V.cell? ⟨gA, 1, none⟩ = some (.slice Aa na ca) ∧ V.cell? ⟨gA, 2, none⟩ = some (.bool ta) ∧ V.cell? ⟨gA, 3, none⟩ = some (.slice Ba ma da))) (by kernel_rfl) (by rw [hW6]; with_reducible exact HK6.out) (fun hHeld => ?_)
   rw [hW6] at hHeld ⊢
   clear hW6
   refine' tK 0 ?_
   try simp only [gY, gZ, Act.put, sT, sZ, sS]
   refine' tK 1 ?_
   try simp only [gY, gZ, gJ, Act.put, sT, sZ, sS]
   refine' tK 2 ?_
   try simp only [gY, gZ, gJ, Act.put, sT, sZ, sS]
   refine rQ 3 (fun K hK => ?_)
   try simp only [gY, gZ, gJ]
   go_simp
   with_reducible refine (Q.mul_q HQ6.out HR6.out (by omega) (by omega) z HZ.out).mono ?_
   rintro e w7 ⟨s7, A7, n7, c7, t7, B7, m7, d7, rfl, h7, hb⟩
   have HZ7 := lh (h7.isq HZL.out)
   have HV7 := lh (HV6.out.below hb)
   have HU7 := lh (HU6.out.below hb)
   have HA7 := lh (HA6.out.below hb)
   have HO7 := lh (HO6.out.below hb)
   have HP7 := lh (HP6.out.below hb)
   have HR7 := lh (HR6.out.below hb)
   have HQ7 := lh (HQ6.out.below hb)
   have HB7 := lh (below_on HB6.out hb)
   clear hb HV6 HU6 HA6 HO6 HP6 HR6 HQ6 HB6
   have HK7 : Hid ((w7.cell? ⟨W.heap.size, 0, none⟩ = some (.bool sv) ∧ w7.cell? ⟨W.heap.size, 1, none⟩ = some (.slice Av nv cv) ∧ w7.cell? ⟨W.heap.size, 2, none⟩ = some (.bool tv) ∧ w7.cell? ⟨W.heap.size, 3, none⟩ = some (.slice Bv mv dv)) ∧ (w7.cell? ⟨W.heap.size + 1, 0, none⟩ = some (.bool sw) ∧ w7.cell? ⟨W.heap.size + 1, 1, none⟩ = some (.slice Aw nw cw) ∧ w7.cell? ⟨W.heap.size + 1, 2, none⟩ = some (.bool tw) ∧ w7.cell? ⟨W.heap.size + 1, 3, none⟩ = some (.slice Bw mw dw)) ∧ w7.cell? ⟨gA, 0, none⟩ = some (.bool sa) ∧ w7.cell? ⟨gA, 1, none⟩ = some (.slice Aa na ca) ∧ w7.cell? ⟨gA, 2, none⟩ = some (.bool ta) ∧ w7.cell? ⟨gA, 3, none⟩ = some (.slice Ba ma da)) := ⟨⟨HV7.out.c0, HV7.out.c1, HV7.out.c2, HV7.out.c3⟩, ⟨HU7.out.c0, HU7.out.c1, HU7.out.c2, HU7.out.c3⟩, HA7.out.c0, HA7.out.c1, HA7.out.c2, HA7.out.c3⟩
   clear h7
   refine hK.out _ _ (by with_reducible exact HK7.out) (fun hHeld => ?_)
   clear hK K
   try simp only [Act.put, sT, sZ, sS]
   refine rQ 4 (fun K hK => ?_)
   try simp only [gY, gZ, gJ]
   go_simp
   with_reducible refine (Q.add_q HP7.out HZ7.out (by omega) (by omega) (p + q * r) (by rw [HZ.out])).mono ?_
   rintro e w8 ⟨s8, A8, n8, c8, t8, B8, m8, d8, rfl, h8, hb⟩
   have HY8 := lh h8
   have HV8 := lh (HV7.out.below hb)
   have HU8 := lh (HU7.out.below hb)
   have HA8 := lh (HA7.out.below hb)
   have HO8 := lh (HO7.out.below hb)
   have HP8 := lh (HP7.out.below hb)
   have HR8 := lh (HR7.out.below hb)
   have HQ8 := lh (HQ7.out.below hb)
   have HB8 := lh (below_on HB7.out hb)
   clear hb HV7 HU7 HA7 HO7 HP7 HR7 HQ7 HB7
   have HK8 : Hid ((w8.cell? ⟨W.heap.size, 0, none⟩ = some (.bool sv) ∧ w8.cell? ⟨W.heap.size, 1, none⟩ = some (.slice Av nv cv) ∧ w8.cell? ⟨W.heap.size, 2, none⟩ = some (.bool tv) ∧ w8.cell? ⟨W.heap.size, 3, none⟩ = some (.slice Bv mv dv)) ∧ (w8.cell? ⟨W.heap.size + 1, 0, none⟩ = some (.bool sw) ∧ w8.cell? ⟨W.heap.size + 1, 1, none⟩ = some (.slice Aw nw cw) ∧ w8.cell? ⟨W.heap.size + 1, 2, none⟩ = some (.bool tw) ∧ w8.cell? ⟨W.heap.size + 1, 3, none⟩ = some (.slice Bw mw dw)) ∧ w8.cell? ⟨gA, 0, none⟩ = some (.bool sa) ∧ w8.cell? ⟨gA, 1, none⟩ = some (.slice Aa na ca) ∧ w8.cell? ⟨gA, 2, none⟩ = some (.bool ta) ∧ w8.cell? ⟨gA, 3, none⟩ = some (.slice Ba ma da)) := ⟨⟨HV8.out.c0, HV8.out.c1, HV8.out.c2, HV8.out.c3⟩, ⟨HU8.out.c0, HU8.out.c1, HU8.out.c2, HU8.out.c3⟩, HA8.out.c0, HA8.out.c1, HA8.out.c2, HA8.out.c3⟩
   clear h8
   refine hK.out _ _ (by with_reducible exact HK8.out) (fun hHeld => ?_)
   clear hK K
   try simp only [Act.put, sT, sZ, sS]
   refine rQ 5 (fun K hK => ?_)
   try simp only [gY, gZ, gJ]
   have o0 := HO8.out.c0
   have fo0 := HO8.out.f 0
   have o1 := HO8.out.c1
   have fo1 := HO8.out.f 1
   have o2 := HO8.out.c2
   have fo2 := HO8.out.f 2
   have o3 := HO8.out.c3
   have fo3 := HO8.out.f 3
   go_simp
   clear o0 o1 o2 o3 fo0 fo1 fo2 fo3
   have HV9 := lh (HV8.out.put4_far (s' := s8) (A' := A8) (n' := n8) (c' := c8) (t' := t8) (B' := B8) (m' := m8) (d' := d8) (g' := W.heap.size + 2) (by have := HGL.out; omega))
   have HU9 := lh (HU8.out.put4_far (s' := s8) (A' := A8) (n' := n8) (c' := c8) (t' := t8) (B' := B8) (m' := m8) (d' := d8) (g' := W.heap.size + 2) (by have := HGL.out; omega))
   have HA9 := lh (HA8.out.put4_far (s' := s8) (A' := A8) (n' := n8) (c' := c8) (t' := t8) (B' := B8) (m' := m8) (d' := d8) (g' := W.heap.size + 2) (by have := HGL.out; omega))
   refine hK.out _ _ (by with_reducible exact ⟨⟨HV9.out.c0, HV9.out.c1, HV9.out.c2, HV9.out.c3⟩, ⟨HU9.out.c0, HU9.out.c1, HU9.out.c2, HU9.out.c3⟩, HA9.out.c0, HA9.out.c1, HA9.out.c2, HA9.out.c3⟩) (fun hHeld => ?_)
   clear hK K
   try simp only [Act.put, sT, sZ, sS]
   refine wpAnyH_done (by kernel_rfl) ?_ _
   go_wp2_with fail
   have p0 := (HO8.out.put (s' := s8) (A' := A8) (n' := n8) (c' := c8) (t' := t8) (B' := B8) (m' := m8) (d' := d8)).c0
   have p1 := (HO8.out.put (s' := s8) (A' := A8) (n' := n8) (c' := c8) (t' := t8) (B' := B8) (m' := m8) (d' := d8)).c1
   have p2 := (HO8.out.put (s' := s8) (A' := A8) (n' := n8) (c' := c8) (t' := t8) (B' := B8) (m' := m8) (d' := d8)).c2
   have p3 := (HO8.out.put (s' := s8) (A' := A8) (n' := n8) (c' := c8) (t' := t8) (B' := B8) (m' := m8) (d' := d8)).c3
   simp only [Q.put4] at p0 p1 p2 p3
   refine bodyPost_ret (v := .agg #[.bool s8, .slice A8 n8 c8, .bool t8, .slice B8 m8 d8]) (by simp [results, Tryz.results83, go_sem, p0, p1, p2, p3]) rfl ?_
   exact ⟨s8, A8, n8, c8, t8, B8, m8, d8, rfl, HY8.out.on4 HO8.out.bx, below_put4 HB8.out (by omega)⟩
theorem axpy_v {w : World} {A : Option Addr} {n c k : Nat} {xs : List (TV × Rat)} {B : Option Addr} {m d : Nat} {ys : List (TV × Rat)} {sa : Bool} {Aa : Option Addr} {na ca : Nat} {ta : Bool} {Ba : Option Addr} {ma da : Nat} {q : Rat} (hq : IsQ w sa Aa na ca ta Ba ma da q 700) (hx : IsV w A n c xs k) (hk : k ≤ 700) (hn : n ≤ 1000000) (hsx : Short (vals xs)) (hA : ∀ a, A = some a → a.block < w.heap.size) (hy : IsV w B m d ys k) (hm : m ≤ 1000000) (hsy : Short (vals ys)) (hB : ∀ a, B = some a → a.block < w.heap.size) (hok : ∀ a, ql (q * tot (vals ys) a) ≤ 700) :
  Calls tz 22 #[.slice A n c, .agg #[.bool sa, .slice Aa na ca, .bool ta, .slice Ba ma da], .slice B m d] w (RetV w (Is (fun a => tot (vals xs) a + q * tot (vals ys) a))) := by
 obtain ⟨W0, hW0⟩ : ∃ V, w.alloc (.cells #[.bool sa, .slice Aa na ca, .bool ta, .slice Ba ma da] 27) = V := ⟨_, rfl⟩
 have hb : Below w.heap.size w W0 := by rw [← hW0]; exact (bR _ _).alloc (lR _) _
 have hg : Qbx W0 w.heap.size sa Aa na ca ta Ba ma da := by rw [← hW0]; exact Qbx.new _ _ rfl
 have HB := lh hb
 have HJ := lh (joined_any (hx.below hb) (hy.below hb) hk hn hm hsx hsy (fun a h => lL (hA a h) hb.size) (fun a h => lL (hB a h) hb.size) (do_axpy hg (hq.below hb)) (fun a => ⟨hsx.tot a, hok a⟩))
 clear hx hk hn hsx hA hq hg hb hy hm hsy hB hok
 go_enter Tryz.func22, Tryz.ntmps22
 go_upto_region 1 with fail
 clear hW0
 go_wp2_with fail
 refine HJ.out.mono ?_
 rintro e w1 hret
 have HRET := lh ((RetV.mono hret (is_of (by rw [Rat.mul_zero, Rat.add_zero]))).back HB.out)
 clear HJ hret
 obtain ⟨g1, n1, c1, zs1, rfl, _⟩ := id HRET.out
 go_wp2_with fail
 exact ⟨rfl, _, by simp [results, Tryz.results22, go_sem], HRET.out⟩
end V

namespace V
open Go.RowKit
open Q (IsQ OneQ RetQ below_on ql Qbx)
structure Keep (w : World) (g : FuncId) (cb : Array Value) (kp : Int → Bool) : Prop where
 eg : ∀ args w, (callFunc g args).run tz w = .ok (.enter g args) w
 call : ∀ W a, Below w.heap.size w W → -9223372036854775808 ≤ a → a ≤ 9223372036854775807 → Calls tz g (#[.int .i64 a] ++ cb) W (fun e W' => e = .returned (.bool (kp a)) ∧ Below W.heap.size W W')
def Chosen (w : World) (ys : List (TV × Rat)) (k : Nat) (kp : Int → Bool) (e : Ending) (w' : World) : Prop :=
 ∃ A' n' c', e = .returned (.slice A' n' c') ∧ IsV w' A' n' c' (ys.filter (fun y => kp y.1.at_)) k ∧ Below w.heap.size w w' ∧ (A' = none ∨ ∃ g, A' = some ⟨g, 0, none⟩ ∧ w.heap.size ≤ g ∧ g < w'.heap.size)
theorem chosen_of {w w' : World} {k : Nat} {v : Value} {l : List (TV × Rat)} (ho : w'.ownsRow w.heap.size 67 5 v (l.map Prod.fst).length (flat (l.map Prod.fst))) (hq : ∀ y ∈ l, TQ w' y.1 y.2 k) :
  ∃ A' n' c', v = .slice A' n' c' ∧ IsV w' A' n' c' l k ∧ (A' = none ∨ ∃ g, A' = some ⟨g, 0, none⟩ ∧ w.heap.size ≤ g ∧ g < w'.heap.size) := by
 rcases ho.2 with ⟨rfl, h0⟩ | ⟨g, cap, cur, rfl, hbg, hgc, hnc, hcm, hcs, htake⟩
 ·have hl : l = [] := by rw [List.length_map] at h0; exact List.eq_nil_of_length_eq_zero h0
  subst hl
  exact ⟨none, 0, 0, rfl, IsV.nil _ _ _ _, .inl rfl⟩
 ·have hlt : g < w'.heap.size := (Array.getElem?_eq_some_iff.1 hgc).1
  refine ⟨some ⟨g, 0, none⟩, _, cap, rfl, ⟨by rw [List.length_map], hnc, row_cells hlt ?_, hq⟩, .inr ⟨g, rfl, hbg, hlt⟩⟩
  intro j u hj
  rw [Nat.zero_add, cell_of_row w' g j _ _ _ hgc]
  rw [← htake, List.getElem?_take] at hj
  split at hj
  ·simpa using hj
  ·cases hj
theorem filter_take {l : List (TV × Rat)} {i : Nat} {y : TV × Rat} (h : l[i]? = some y) (p : TV × Rat → Bool) : (l.take (i + 1)).filter p = (l.take i).filter p ++ (if p y then [y] else []) := by
 rw [List.take_add_one, h, List.filter_append]
 congr 1
 cases hp : p y <;> simp [hp]
structure OM (w wx : World) (v : Value) (ys : List (TV × Rat)) (kp : Int → Bool) (i : Nat) : Prop where
 bel : Below w.heap.size w wx
 own : wx.ownsRow w.heap.size 67 5 v (((ys.take i).filter (fun y => kp y.1.at_)).map Prod.fst).length (flat (((ys.take i).filter (fun y => kp y.1.at_)).map Prod.fst))
theorem ownsRow_below {w w' : World} {base : Nat} {e : TypeId} {size : Nat} {v : Value} {n : Nat} {xs : List Value} (h : w.ownsRow base e size v n xs) (hb : Below w.heap.size w w') : w'.ownsRow base e size v n xs := by
 refine ⟨h.1, ?_⟩
 rcases h.2 with hn | ⟨g, cap, cur, rfl, h1, h2, rest⟩
 ·exact .inl hn
 ·exact .inr ⟨g, cap, cur, rfl, h1, (hb.block g (lt_of_block h2)).trans h2, rest⟩
theorem OM.below {w wx wy : World} {v : Value} {ys : List (TV × Rat)} {kp : Int → Bool} {i : Nat} (h : OM w wx v ys kp i) (hb : Below wx.heap.size wx wy) : OM w wy v ys kp i := ⟨below_on h.bel hb, ownsRow_below h.own hb⟩
set_option maxRecDepth 100000 in
set_option maxHeartbeats 4000000 in
theorem only_any {w : World} {A : Option Addr} {n c k : Nat} {ys : List (TV × Rat)} {g : FuncId} {cb : Array Value} {kp : Int → Bool} (h : IsV w A n c ys k) (hn : n ≤ 1000000) (hk : Keep w g cb kp) :
  Calls tz 91 #[.slice A n c, .func (.func g) #[] cb] w (Chosen w ys k kp) := by
 have H := lh h
 have HN := lh hn
 have HK := lh hk
 have HLEN := lh h.en
 have eg := hk.eg
 have HM : Hid (OM w w (.slice none 0 0) ys kp 0) := ⟨bR _ _, World.ownsRow_nil _ _ _ _⟩
 clear h hn hk
 go_enter Tryz.func91, Tryz.ntmps91
 go_wp2_with fail
 go_loopw [5, 10] (fun v iv wr => ∃ i : Nat, i ≤ n ∧ iv = .int .i64 (i : Int) ∧ Hid (OM w wr v ys kp i)) (fun _ iv _ => n - (intOf iv).toNat)
 case atStart => exact ⟨0, Nat.zero_le _, rfl, HM⟩
 case round =>
  clear HM
  obtain ⟨i, hi, rfl, HM⟩ := hrel
  by_cases hlt : i < n
  ·have hi1 : (i : Int) < (n : Int) := by omega
   have hi0 : (0 : Int) ≤ (i : Int) := by omega
   have hwi : IntKind.i64.wrap ((i : Int) + 1) = (i : Int) + 1 := by have := HN.out; rw [IntKind.wrap_i64]; omega
   obtain ⟨u, hu⟩ : ∃ u, ys[i]? = some u := ⟨ys[i]'(by have := HLEN.out; omega), List.getElem?_eq_getElem (by have := HLEN.out; omega)⟩
   have hw := HM.out.bel
   obtain ⟨b1, off1, hA1, hlt1, d0, d1, d2, d3, d4⟩ := H.out.row.at_ (j := i) (x := u.1) (by rw [List.getElem?_map, hu]; rfl)
   subst hA1
   have d0 := (hw.cell (p := ⟨b1, off1 + i * 5, none⟩) hlt1).trans d0
   have d1 := (hw.cell (p := ⟨b1, off1 + i * 5 + 1, none⟩) hlt1).trans d1
   have d2 := (hw.cell (p := ⟨b1, off1 + i * 5 + 2, none⟩) hlt1).trans d2
   have d3 := (hw.cell (p := ⟨b1, off1 + i * 5 + 3, none⟩) hlt1).trans d3
   have d4 := (hw.cell (p := ⟨b1, off1 + i * 5 + 4, none⟩) hlt1).trans d4
   have HU := lh (H.out.tq u (List.mem_of_getElem? hu))
   have HUI := lh hu
   obtain ⟨p, hp⟩ : ∃ p, u.1 = p := ⟨_, rfl⟩
   have HPE := lh hp
   rw [hp] at d0 d1 d2 d3 d4
   obtain ⟨pat, ps, pA, pn, pc, pt, pB, pm, pd⟩ := p
   have HAT : Hid (-9223372036854775808 ≤ pat ∧ pat ≤ 9223372036854775807) := by have h1 := HU.out.2; rw [hp] at h1; exact h1
   obtain ⟨kb, hkb⟩ : ∃ kb, kp pat = kb := ⟨_, rfl⟩
   have HKB := lh hkb
   clear hw hlt1 hu hp hkb
   obtain ⟨V, hV⟩ : ∃ V, wr.alloc (.cells #[.int .i64 pat, .bool ps, .slice pA pn pc, .bool pt, .slice pB pm pd] 67) = V := ⟨_, rfl⟩
   have HVB : Hid (Below wr.heap.size wr V) := by rw [← hV]; exact (bR _ _).alloc (lR _) _
   have HM1 := lh (HM.out.below HVB.out)
   have HBX : Hid (V.heap[wr.heap.size]? = some (.cells #[.int .i64 pat, .bool ps, .slice pA pn pc, .bool pt, .slice pB pm pd] 67 (0, 0))) := by rw [← hV]; exact heap_alloc_new wr _
   have hbx := HBX.out
   have e0 : V.cell? ⟨wr.heap.size, 0, none⟩ = some (.int .i64 pat) := by rw [cell_of_row V _ 0 _ _ _ hbx]; rfl
   clear hbx
   go_wp2_with fail
   refine (HK.out.call V pat (below_on HM.out.bel HVB.out) HAT.out.1 HAT.out.2).mono ?_
   rintro e w1 ⟨rfl, hb⟩
   rw [HKB.out]
   have HM2 := lh (HM1.out.below hb)
   have HB2 := lh (below_on HVB.out hb)
   have hbx := (hb.block wr.heap.size (lt_of_block HBX.out)).trans HBX.out
   have HBX2 := lh hbx
   clear hV HVB HM1 HBX hb HM d0 d1 d2 d3 d4 e0
   cases kb with
   | false =>
    clear hbx
    go_wp2_with fail
    go_roundw
    case rel =>
     have hN9 := HN.out
     refine ⟨i + 1, by omega, by go_num, HM2.out.bel, ?_⟩
     have h := HM2.out.own
     rw [filter_take HUI.out, HPE.out, HKB.out]
     simpa using h
    case measure => have hN9 := HN.out; simp [intOf]; omega
   | true =>
    have e0 : w1.cell? ⟨wr.heap.size, 0, none⟩ = some (.int .i64 pat) := by rw [cell_of_row w1 _ 0 _ _ _ hbx]; rfl
    have e1 : w1.cell? ⟨wr.heap.size, 1, none⟩ = some (.bool ps) := by rw [cell_of_row w1 _ 1 _ _ _ hbx]; rfl
    have e2 : w1.cell? ⟨wr.heap.size, 2, none⟩ = some (.slice pA pn pc) := by rw [cell_of_row w1 _ 2 _ _ _ hbx]; rfl
    have e3 : w1.cell? ⟨wr.heap.size, 3, none⟩ = some (.bool pt) := by rw [cell_of_row w1 _ 3 _ _ _ hbx]; rfl
    have e4 : w1.cell? ⟨wr.heap.size, 4, none⟩ = some (.slice pB pm pd) := by rw [cell_of_row w1 _ 4 _ _ _ hbx]; rfl
    clear hbx
    obtain ⟨V2, hV2⟩ : ∃ V, w1.alloc (.cells #[.int .i64 pat, .bool ps, .slice pA pn pc, .bool pt, .slice pB pm pd] 67) = V := ⟨_, rfl⟩
    have hb3 : Below w1.heap.size w1 V2 := by rw [← hV2]; exact (bR _ _).alloc (lR _) _
    have HM3 := lh (HM2.out.below hb3)
    have hbx3 : V2.heap[w1.heap.size]? = some (.cells #[.int .i64 pat, .bool ps, .slice pA pn pc, .bool pt, .slice pB pm pd] 67 (0, 0)) := by rw [← hV2]; exact heap_alloc_new w1 _
    have hcl : ∀ j x, (⟨pat, ps, pA, pn, pc, pt, pB, pm, pd⟩ : TV).enc[j]? = some x → V2.cell? ((⟨w1.heap.size, 0, none⟩ : Addr).add j) = some x := by
     intro j x hj
     have e : (⟨w1.heap.size, 0, none⟩ : Addr).add j = ⟨w1.heap.size, j, none⟩ := by unfold Addr.add; split <;> simp_all
     rw [e, cell_of_row V2 _ j _ _ _ hbx3]
     rw [← hj]
     show (#[Value.int .i64 pat, .bool ps, .slice pA pn pc, .bool pt, .slice pB pm pd] : Array Value)[j]? = [Value.int .i64 pat, .bool ps, .slice pA pn pc, .bool pt, .slice pB pm pd][j]?
     simp
    have hlen : (((ys.take i).filter (fun y => kp y.1.at_)).map Prod.fst).length ≤ 10000000 := by
     rw [List.length_map]
     have h1 := List.length_filter_le (fun y : TV × Rat => kp y.1.at_) (ys.take i)
     rw [List.length_take] at h1
     have := HN.out
     omega
    obtain ⟨i9, hj1, hj2, hj3, hj4⟩ := info_parts info_t
    have under : Tryz.prog.underlying 33 = some (.slice 67) := by kernel_rfl
    have ho1 : ∀ x ∈ (⟨pat, ps, pA, pn, pc, pt, pB, pm, pd⟩ : TV).enc, x.oneCell' = true := by intro x hx; exact one_cell [_] x (by rw [flat_one]; exact hx)
    have HCL := lh hcl
    have HOC := lh ho1
    have HL9 := lh hlen
    clear hb3 hbx3 hcl hlen ho1
    go_wp2_with ((at_builtin; refine wpList_append_own V2 rfl (.tmp 18) (.tmp 20) 33 rfl w.heap.size 67 i9 zeroT 5 72 under hj1 hj2 hj3 hj4 rfl (by decide) u5 _ _ rfl HM3.out.own ⟨w1.heap.size, 0, none⟩ 1 1 (⟨pat, ps, pA, pn, pc, pt, pB, pm, pd⟩ : TV).enc rfl rfl HCL.out HOC.out (by have := HL9.out; unfold maxLen; omega) (by have := HL9.out; omega) HM3.out.bel.size ?_); intro v' w3 hown' hgrow hnil)
    have HO3 := lh hown'
    have HB3 : Hid (Below w.heap.size w w3) := HM3.out.bel.grown hgrow HM3.out.bel.size (fun k hk => (HM3.out.own.lt k hk).1)
    clear hown' hgrow hnil hj1 hj2 hj3 hj4 under
    go_wp2_with fail
    go_roundw
    case rel =>
     have hN9 := HN.out
     refine ⟨i + 1, by omega, by go_num, HB3.out, ?_⟩
     have h := HO3.out
     rw [filter_take HUI.out, HPE.out, HKB.out]
     rw [if_pos rfl, List.map_append, flat_append, List.length_append]
     show w3.ownsRow _ _ 5 v' (_ + 1) (_ ++ flat [u.1])
     rw [flat_one, HPE.out]
     exact h
    case measure => have hN9 := HN.out; simp [intOf]; omega
  ·have hi1 : ¬ (i : Int) < (n : Int) := by omega
   have HE : Hid (ys.take i = ys) := by show _ = _; rw [List.take_of_length_le (by have := HLEN.out; omega)]
   have HBW := lh HM.out.bel
   have ho := HM.out.own
   rw [HE.out] at ho
   obtain ⟨A', n', c', rfl, h1, h2⟩ := chosen_of (k := k) ho (fun y hy => (H.out.tq y (List.mem_filter.1 hy).1).below HBW.out)
   have H1 := lh h1
   have H2 := lh h2
   clear ho h1 h2 HM HE
   go_wp2_with fail
   exact ⟨rfl, .slice A' n' c', by simp [results, Tryz.results91, go_sem], A', n', c', rfl, H1.out, HBW.out, H2.out⟩
end V

namespace V
set_option maxRecDepth 100000
set_option maxHeartbeats 4000000
open Go.RowKit
open Q (IsQ OneQ RetQ below_on ql Qbx below_put4)
theorem keep_get {w : World} {gI : Nat} {p : Int} (hg : w.heap[gI]? = some (.cells #[.int .i64 p] 3 (0, 0))) : Keep w 97 #[.pointer (some ⟨gI, 0, none⟩)] (fun a => a == p) := by
 refine ⟨enters_of Tryz.func97 (by kernel_rfl) rfl, ?_⟩
 intro W a hb _ _
 show Calls tz 97 #[.int .i64 a, .pointer (some ⟨gI, 0, none⟩)] W _
 have hc : W.cell? ⟨gI, 0, none⟩ = some (.int .i64 p) := by rw [cell_of_row W gI 0 _ _ _ ((hb.block gI (lt_of_block hg)).trans hg)]; rfl
 clear hg hb
 go_enter Tryz.func97, Tryz.ntmps97
 go_wp2_with fail
 exact ⟨rfl, .bool (a == p), by simp [results, Tryz.results97, go_sem], rfl, bR _ _⟩
theorem keep_put {w : World} {gI : Nat} {p : Int} (hg : w.heap[gI]? = some (.cells #[.int .i64 p] 3 (0, 0))) : Keep w 92 #[.pointer (some ⟨gI, 0, none⟩)] (fun a => a != p) := by
 refine ⟨enters_of Tryz.func92 (by kernel_rfl) rfl, ?_⟩
 intro W a hb _ _
 show Calls tz 92 #[.int .i64 a, .pointer (some ⟨gI, 0, none⟩)] W _
 have hc : W.cell? ⟨gI, 0, none⟩ = some (.int .i64 p) := by rw [cell_of_row W gI 0 _ _ _ ((hb.block gI (lt_of_block hg)).trans hg)]; rfl
 clear hg hb
 go_enter Tryz.func92, Tryz.ntmps92
 go_wp2_with fail
 exact ⟨rfl, .bool (a != p), by simp [results, Tryz.results92, go_sem], rfl, bR _ _⟩
theorem vals_filter (ys : List (TV × Rat)) (kp : Int → Bool) : vals (ys.filter (fun y => kp y.1.at_)) = (vals ys).filter (fun x => kp x.1) := by
 unfold vals
 rw [List.filter_map]
 rfl
theorem Short.filter {l : List (Int × Rat)} (h : Short l) (p : Int × Rat → Bool) : Short (l.filter p) := h.sub (List.length_filter_le ..) (fun _ hx => (List.mem_filter.1 hx).1)
theorem Short.take {l : List (Int × Rat)} (h : Short l) (i : Nat) : ql (all (l.take i)) ≤ 700 := h _ (by rw [List.length_take]; omega) (fun _ hx => List.mem_of_mem_take hx)
theorem filter_len {w : World} {A : Option Addr} {n c k : Nat} {ys : List (TV × Rat)} {p : TV × Rat → Bool} {w' : World} {A' : Option Addr} {n' c' : Nat} (h : IsV w A n c ys k) (h2 : IsV w' A' n' c' (ys.filter p) k) : n' ≤ n := by
 rw [h.en, h2.en]
 exact List.length_filter_le ..
theorem get_v {w : World} {A : Option Addr} {n c k : Nat} {xs : List (TV × Rat)} (hx : IsV w A n c xs k) (hk : k ≤ 700) (hn : n ≤ 1000000) (hsx : Short (vals xs)) (p : Int) (q : Rat) (hq : tot (vals xs) p = q) :
  Calls tz 31 #[.slice A n c, .int .i64 p] w (Q.RetQ w q) := by
 obtain ⟨W0, hW0⟩ : ∃ V, w.alloc (.cells #[.int .i64 p] 3) = V := ⟨_, rfl⟩
 have hb0 : Below w.heap.size w W0 := by rw [← hW0]; exact (bR _ _).alloc (lR _) _
 have hs0 : W0.heap.size = w.heap.size + 1 := by rw [← hW0]; simp
 have hi0 : W0.heap[w.heap.size]? = some (.cells #[.int .i64 p] 3 (0, 0)) := by rw [← hW0]; exact heap_alloc_new w _
 obtain ⟨W1, hW1⟩ : ∃ V, W0.alloc (.cells #[.bool false, .slice none 0 0, .bool false, .slice none 0 0] 27) = V := ⟨_, rfl⟩
 have hb1 : Below W0.heap.size W0 W1 := by rw [← hW1]; exact (bR _ _).alloc (lR _) _
 have ho1 : Qbx W1 W0.heap.size false none 0 0 false none 0 0 := by rw [← hW1]; exact Qbx.new _ _ rfl
 have HB1 := lh (below_on hb0 hb1)
 have HX := lh (hx.below HB1.out)
 have HK := lh (keep_get ((hb1.block w.heap.size (lt_of_block hi0)).trans hi0))
 have HO := lh ho1
 have HZ := lh hs0
 have HN := lh hn
 have HKK := lh hk
 have HS := lh hsx
 have HE : Hid (all (vals (xs.filter (fun y => y.1.at_ == p))) = q) := by
  show _ = _
  have h1 := vals_filter xs (fun a => a == p)
  have h2 : (vals xs).filter (fun x => x.1 == p) = (vals xs).filter (fun x => decide (x.1 = p)) := List.filter_congr (fun x _ => by by_cases h : x.1 = p <;> simp [h])
  rw [h1, h2, ← tot_filter, hq]
 clear hx hk hn hsx hq hb0 hs0 hi0 hb1 ho1
 go_enter Tryz.func31, Tryz.ntmps31
 go_upto_region 1 with fail
 clear hW0 hW1
 go_wp2_with fail
 refine (only_any HX.out HN.out HK.out).mono ?_
 rintro e w2 ⟨A2, n2, c2, rfl, h2, hb2, _⟩
 have H2 := lh h2
 have HL2 : Hid (n2 ≤ n) := filter_len HX.out h2
 have HB2 := lh (below_on HB1.out hb2)
 have HO2 := lh (HO.out.below hb2)
 clear h2 hb2
 go_wp2_with fail
 refine (sum_any H2.out HKK.out (by have h1 := HL2.out; have h2 := HN.out; omega) (by rw [vals_filter xs (fun a => a == p)]; exact (HS.out.filter _).take)).mono ?_
 rintro e w3 ⟨s3, A3, n3, c3, t3, B3, m3, d3, rfl, h3, hb3⟩
 rw [HE.out] at h3
 have H3 := lh h3
 have HB3 := lh (below_on HB2.out hb3)
 have HO3 := lh (HO2.out.below hb3)
 clear h3 hb3
 go_wp2_with fail
 refine (Q.norm_q H3.out (by omega) (by omega)).mono ?_
 rintro e w5 ⟨s8, A8, n8, c8, t8, B8, m8, d8, rfl, h8, hb8⟩
 have HO5 := lh (HO3.out.below hb8)
 have HR5 := lh h8
 have HB5 := lh (below_on HB3.out hb8)
 clear h8 hb8
 have o0 := HO5.out.c0
 have o1 := HO5.out.c1
 have o2 := HO5.out.c2
 have o3 := HO5.out.c3
 have fo0 := HO5.out.f 0
 have fo1 := HO5.out.f 1
 have fo2 := HO5.out.f 2
 have fo3 := HO5.out.f 3
 go_wp2_with fail
 have p0 := (HO5.out.put (s' := s8) (A' := A8) (n' := n8) (c' := c8) (t' := t8) (B' := B8) (m' := m8) (d' := d8)).c0
 have p1 := (HO5.out.put (s' := s8) (A' := A8) (n' := n8) (c' := c8) (t' := t8) (B' := B8) (m' := m8) (d' := d8)).c1
 have p2 := (HO5.out.put (s' := s8) (A' := A8) (n' := n8) (c' := c8) (t' := t8) (B' := B8) (m' := m8) (d' := d8)).c2
 have p3 := (HO5.out.put (s' := s8) (A' := A8) (n' := n8) (c' := c8) (t' := t8) (B' := B8) (m' := m8) (d' := d8)).c3
 simp only [Q.put4] at p0 p1 p2 p3
 refine bodyPost_ret (v := .agg #[.bool s8, .slice A8 n8 c8, .bool t8, .slice B8 m8 d8]) (by simp [results, Tryz.results31, go_sem, p0, p1, p2, p3]) rfl ?_
 exact ⟨s8, A8, n8, c8, t8, B8, m8, d8, rfl, HR5.out.on4 HO5.out.bx, below_put4 HB5.out (by have := HZ.out; omega)⟩
theorem Short.one {a : Int} {q : Rat} (h : ql q ≤ 700) : Short [(a, q)] := by
 intro l hl hm
 match l, hl, hm with
 | [], _, _ => exact Nat.le_trans ql_zero1 (by omega)
 | x :: [], _, hm =>
  obtain rfl := List.mem_singleton.1 (hm x (List.mem_singleton.2 rfl))
  have e : all [(a, q)] = q := by show q + 0 = q; grind
  rw [e]; exact h
 | _ :: _ :: _, hl, _ => simp at hl
def putAt (F : Int → Rat) (p : Int) (q : Rat) (a : Int) : Rat := if a = p then q else F a
theorem put_is {X : List (Int × Rat)} {p : Int} {q : Rat} : ∀ l, Is (fun a => tot (X.filter (fun x => x.1 != p)) a + tot [(p, q)] a) l → Is (putAt (tot X) p q) l := by
 rintro l ⟨h1, h2⟩
 refine ⟨h1, fun a => ?_⟩
 rw [h2 a]
 show tot (X.filter (fun x => x.1 != p)) a + tot [(p, q)] a = putAt (tot X) p q a
 unfold putAt
 have h3 : tot [(p, q)] a = if p = a then q else 0 := by show (if p = a then q else 0) + 0 = _; grind
 rw [h3, tot_filter (X.filter _), List.filter_filter]
 by_cases h : a = p
 ·subst h
  have h4 : X.filter (fun x => decide (x.1 = a) && x.1 != a) = [] := by
   rw [List.filter_eq_nil_iff]; intro x _; by_cases h : x.1 = a <;> simp [h]
  rw [h4, if_pos rfl, if_pos rfl]
  show 0 + q = q
  grind
 ·have h4 : X.filter (fun x => decide (x.1 = a) && x.1 != p) = X.filter (fun x => decide (x.1 = a)) := by
   refine List.filter_congr (fun x _ => ?_)
   by_cases h5 : x.1 = a
   ·have : x.1 ≠ p := by omega
    simp [h5]; omega
   ·simp [h5]
  rw [h4, ← tot_filter, if_neg (fun e => h e.symm), if_neg h]
  grind
theorem put_v {w : World} {A : Option Addr} {n c k : Nat} {xs : List (TV × Rat)} {sa : Bool} {Aa : Option Addr} {na ca : Nat} {ta : Bool} {Ba : Option Addr} {ma da : Nat} {q : Rat} (hq : IsQ w sa Aa na ca ta Ba ma da q k) (hql : ql q ≤ 700) (hx : IsV w A n c xs k) (hk : k ≤ 700) (hn : n ≤ 1000000) (hsx : Short (vals xs)) (p : Int) (hp : -9223372036854775808 ≤ p ∧ p ≤ 9223372036854775807) :
  Calls tz 26 #[.slice A n c, .int .i64 p, .agg #[.bool sa, .slice Aa na ca, .bool ta, .slice Ba ma da]] w (RetV w (Is (putAt (tot (vals xs)) p q))) := by
 obtain ⟨W0, hW0⟩ : ∃ V, w.alloc (.cells #[.int .i64 p] 3) = V := ⟨_, rfl⟩
 have hb0 : Below w.heap.size w W0 := by rw [← hW0]; exact (bR _ _).alloc (lR _) _
 have hs0 : W0.heap.size = w.heap.size + 1 := by rw [← hW0]; simp
 have hi0 : W0.heap[w.heap.size]? = some (.cells #[.int .i64 p] 3 (0, 0)) := by rw [← hW0]; exact heap_alloc_new w _
 obtain ⟨W1, hW1⟩ : ∃ V, W0.alloc (.cells #[.bool sa, .slice Aa na ca, .bool ta, .slice Ba ma da] 27) = V := ⟨_, rfl⟩
 have hb1 : Below W0.heap.size W0 W1 := by rw [← hW1]; exact (bR _ _).alloc (lR _) _
 have ho1 : Qbx W1 W0.heap.size sa Aa na ca ta Ba ma da := by rw [← hW1]; exact Qbx.new _ _ rfl
 have hi1 : W1.heap[w.heap.size]? = some (.cells #[.int .i64 p] 3 (0, 0)) := (hb1.block w.heap.size (lt_of_block hi0)).trans hi0
 have HB1 := lh (below_on hb0 hb1)
 have HX := lh (hx.below HB1.out)
 have HQ := lh (hq.below HB1.out)
 have HK := lh (keep_put hi1)
 have HI := lh hi1
 have HO := lh ho1
 have HN := lh hn
 have HKK := lh hk
 have HS := lh hsx
 have HQL := lh hql
 have HP := lh hp
 clear hx hk hn hsx hq hql hp hb0 hs0 hi0 hb1 ho1 hi1
 go_enter Tryz.func26, Tryz.ntmps26
 go_upto_region 1 with fail
 clear hW0 hW1
 go_wp2_with fail
 refine (only_any HX.out HN.out HK.out).mono ?_
 rintro e w2 ⟨A2, n2, c2, rfl, h2, hb2, ha2⟩
 have H2 := lh h2
 have HL2 : Hid (n2 ≤ n) := filter_len HX.out h2
 have HB2 := lh (below_on HB1.out hb2)
 have HO2 := lh (HO.out.below hb2)
 have HI2 := lh ((hb2.block w.heap.size (lt_of_block HI.out)).trans HI.out)
 have HQ2 := lh (HQ.out.below hb2)
 have HA2 : Hid (∀ a, A2 = some a → a.block < w2.heap.size) := by
  intro a ha
  rcases ha2 with h | ⟨g, h, _, hg⟩
  ·rw [h] at ha; cases ha
  ·rw [h] at ha; obtain rfl := Option.some.inj ha; exact hg
 clear h2 hb2 ha2
 obtain ⟨W3, hW3⟩ : ∃ V, w2.alloc (.cells #[.int .i64 p, .bool sa, .slice Aa na ca, .bool ta, .slice Ba ma da] 67) = V := ⟨_, rfl⟩
 have hb3 : Below w2.heap.size w2 W3 := by rw [← hW3]; exact (bR _ _).alloc (lR _) _
 have hr3 : W3.heap[w2.heap.size]? = some (.cells #[.int .i64 p, .bool sa, .slice Aa na ca, .bool ta, .slice Ba ma da] 67 (0, 0)) := by rw [← hW3]; exact heap_alloc_new w2 _
 have H3 : Hid (IsV W3 (some ⟨w2.heap.size, 0, none⟩) 1 1 [((⟨p, sa, Aa, na, ca, ta, Ba, ma, da⟩ : TV), q)] k) := by
  refine ⟨rfl, lR _, row_cells (lt_of_block hr3) ?_, fun y hy => ?_⟩
  ·intro j u hj
   rw [Nat.zero_add, cell_of_row W3 _ j _ _ _ hr3, ← hj]
   show (#[Value.int .i64 p, .bool sa, .slice Aa na ca, .bool ta, .slice Ba ma da] : Array Value)[j]? = (flat [(⟨p, sa, Aa, na, ca, ta, Ba, ma, da⟩ : TV)])[j]?
   rw [flat_one]
   show (#[Value.int .i64 p, .bool sa, .slice Aa na ca, .bool ta, .slice Ba ma da] : Array Value)[j]? = [Value.int .i64 p, .bool sa, .slice Aa na ca, .bool ta, .slice Ba ma da][j]?
   simp
  ·obtain rfl := List.mem_singleton.1 hy
   exact ⟨HQ2.out.below hb3, HP.out⟩
 have HJ := lh (add_v (H2.out.below hb3) HKK.out (by have h1 := HL2.out; have h2 := HN.out; omega) (by rw [vals_filter xs (fun a => a != p)]; exact HS.out.filter _) (fun a h => lL (HA2.out a h) hb3.size) H3.out (by omega) (Short.one HQL.out) (fun a h => by obtain rfl := Option.some.inj h; exact lt_of_block hr3))
 have HB3 := lh (below_on HB2.out hb3)
 have hc : w2.cell? ⟨w.heap.size, 0, none⟩ = some (.int .i64 p) := by rw [cell_of_row w2 _ 0 _ _ _ HI2.out]; rfl
 have o0 := HO2.out.c0
 have o1 := HO2.out.c1
 have o2 := HO2.out.c2
 have o3 := HO2.out.c3
 clear hb3 hr3 H3 H2 HQ2 HA2
 go_wp2_with fail
 refine HJ.out.mono ?_
 rintro e w4 hret
 have HRET : Hid (RetV w (Is (putAt (tot (vals xs)) p q)) e w4) := by
  refine (RetV.mono hret (fun l h => put_is l ?_)).back HB3.out
  rw [← vals_filter xs (fun a => a != p)]
  exact h
 clear HJ hret
 obtain ⟨g1, n1, c1, zs1, rfl, _⟩ := id HRET.out
 go_wp2_with fail
 exact ⟨rfl, _, by simp [results, Tryz.results26, go_sem], HRET.out⟩
