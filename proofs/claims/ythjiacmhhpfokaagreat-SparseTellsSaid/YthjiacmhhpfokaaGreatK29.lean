/- Part 29 of the proof: PParts, PMake, POne, VRput, VRaw. -/
import Derived.Test.YthjiacmhhpfokaaGreatK28
namespace Go.Proofs.YthjiacmhhpfokaaGreat
open Lib renaming hid → lh
open Go.Proofs.Tryz renaming prog → tz
open Nat renaming le_refl → lR
open Go.RowKit.Below renaming refl → bR
namespace Q.P
open Go.RowKit
structure PA (w wx : World) (s : Bool) (A : Option Addr) (n c : Nat) (t : Bool) (B : Option Addr) (m d : Nat) : Prop where
 bel : Below w.heap.size w wx
 a : Qbx wx w.heap.size s A n c t B m d
 o1 : Ibx wx (w.heap.size + 1) false none 0 0
 o2 : Ibx wx (w.heap.size + 1 + 1) false none 0 0
theorem PA.start (w : World) (s : Bool) (A : Option Addr) (n c : Nat) (t : Bool) (B : Option Addr) (m d : Nat) : PA w (((w.alloc (.cells #[.bool s, .slice A n c, .bool t, .slice B m d] 27)).alloc (.cells #[.bool false, .slice none 0 0] 25)).alloc (.cells #[.bool false, .slice none 0 0] 25)) s A n c t B m d :=
 ⟨(((bR _ _).alloc (lR _) _).alloc (by simp) _).alloc (by simp; omega) _, ((Qbx.new _ _ rfl).alloc _).alloc _, (Ibx.new' _ _ _ _ _ _ (by simp)).alloc _, Ibx.new' _ _ _ _ _ _ (by simp)⟩
theorem PA.below {w wx wy : World} {s t : Bool} {A B : Option Addr} {n c m d : Nat} (h : PA w wx s A n c t B m d) (hb : Below wx.heap.size wx wy) : PA w wy s A n c t B m d :=
 ⟨below_on h.bel hb, h.a.below hb, h.o1.below hb, h.o2.below hb⟩
set_option maxRecDepth 100000 in
set_option maxHeartbeats 4000000 in
theorem parts_any {w : World} {s t : Bool} {A B : Option Addr} {n c m d k : Nat} {q : Rat} (h : IsQ w s A n c t B m d q k) (hk : 1 ≤ k) (hk2 : k ≤ 3000) :
  Calls tz 142 #[.agg #[.bool s, .slice A n c, .bool t, .slice B m d]] w (RetP w q k) := by
 obtain ⟨y, z, hy, hz, hq⟩ := h.two
 have HS := lh (PA.start w s A n c t B m d)
 have HY := lh (((hy.alloc (.cells #[.bool s, .slice A n c, .bool t, .slice B m d] 27)).alloc (.cells #[.bool false, .slice none 0 0] 25)).alloc (.cells #[.bool false, .slice none 0 0] 25))
 have HZ := lh (((hz.alloc (.cells #[.bool s, .slice A n c, .bool t, .slice B m d] 27)).alloc (.cells #[.bool false, .slice none 0 0] 25)).alloc (.cells #[.bool false, .slice none 0 0] 25))
 have HYL := lh hy.zl
 have HZL := lh hz.zl
 have HQ := lh hq
 have HOL : Hid (zl (1 : Int) ≤ k) := Nat.le_trans (zl_small (by omega) (by omega)) hk
 clear hy hz hq h
 go_enter Tryz.func142, Tryz.ntmps142
 go_wp2_with fail
 refine (norm_j HY.out hk2).mono ?_
 rintro e w1 ⟨s1, A1, n1, c1, rfl, h1, hb1⟩
 have HS1 := lh (HS.out.below hb1)
 have HZ1 := lh (HZ.out.below hb1)
 have HN1 := lh h1
 clear h1 hb1 HS HY HZ
 obtain ⟨V, hV⟩ : ∃ V, w1.alloc (.cells #[.bool s1, .slice A1 n1 c1] 25) = V := ⟨_, rfl⟩
 have HV : Hid (Below w1.heap.size w1 V) := by rw [← hV]; exact (bR _ _).alloc (lR _) _
 have HI1 : Hid (Ibx V w1.heap.size s1 A1 n1 c1) := by rw [← hV]; exact Ibx.new' _ _ _ _ _ _ rfl
 have HLW : Hid (w.heap.size + 1 + 1 < w1.heap.size) := HS1.out.o2.lt
 have HS2 := lh (HS1.out.below HV.out)
 have HZ2 := lh (HZ1.out.below HV.out)
 have HN2 := lh (HN1.out.below HV.out)
 clear HS1 HZ1 HN1 HV
 have k0 := HS2.out.a.c0
 have k1 := HS2.out.a.c1
 have k2 := HS2.out.a.c2
 have k3 := HS2.out.a.c3
 go_wp2_with fail
 refine (norm_j HZ2.out hk2).mono ?_
 rintro e w2 ⟨s2, A2, n2, c2, rfl, h2, hb2⟩
 clear hV k0 k1 k2 k3
 have HS3 := lh (HS2.out.below hb2)
 have HI3 := lh (HI1.out.below hb2)
 have HN3 := lh (HN2.out.below hb2)
 have HD3 := lh h2
 clear h2 hb2 HS2 HI1 HN2 HZ2
 obtain ⟨W, hW⟩ : ∃ W, w2.alloc (.cells #[.bool s2, .slice A2 n2 c2] 25) = W := ⟨_, rfl⟩
 have HV : Hid (Below w2.heap.size w2 W) := by rw [← hW]; exact (bR _ _).alloc (lR _) _
 have HI4 : Hid (Ibx W w2.heap.size s2 A2 n2 c2) := by rw [← hW]; exact Ibx.new' _ _ _ _ _ _ rfl
 have HLX : Hid (w.heap.size + 1 + 1 < w2.heap.size) := HS3.out.o2.lt
 have HNE : Hid (w1.heap.size ≠ w2.heap.size) := Nat.ne_of_lt HI3.out.lt
 have HS := lh (HS3.out.below HV.out)
 have HN := lh (HN3.out.below HV.out)
 have HD := lh (HD3.out.below HV.out)
 have HP : Hid (PS w W w1.heap.size w2.heap.size s1 A1 n1 c1 s2 A2 n2 c2) := ⟨HS.out.bel, HI3.out.below HV.out, HI4.out, HS.out.o1, HS.out.o2, HNE.out, HLW.out, HLX.out⟩
 clear HS3 HI3 HN3 HD3 HV HI4
 have k3 := HS.out.a.c3
 have k2 := HS.out.a.c2
 have r0 := HP.out.i2.c0
 have r1 := HP.out.i2.c1
 have fr0 := HP.out.i2.f 0
 have fr1 := HP.out.i2.f 1
 by_cases hm : m = 0
 ·have hm0 : ((m : Int) == 0) = true := by rw [hm]; rfl
  have HE : Hid (Rat.divInt y 1 = q) := by show _ = _; rw [← HQ.out, if_pos hm]
  clear hm
  go_wp2_with fail
  refine (of_j _ 1 1 rfl (by omega) (by omega)).mono ?_
  rintro e w3 ⟨s3, A3, n3, c3, rfl, h3, hb3⟩
  obtain rfl : s3 = false := h3.es
  clear hW k2 k3 r0 r1 fr0 fr1
  have HP3 := lh (HP.out.below hb3)
  have HN3 := lh (HN.out.below hb3)
  have HO3 := lh h3
  clear h3 hb3
  obtain ⟨U, hU⟩ : ∃ U, (w3.setCell ⟨w2.heap.size, 0, none⟩ (.bool false)).setCell ⟨w2.heap.size, 1, none⟩ (.slice A3 n3 c3) = U := ⟨_, rfl⟩
  have HP4 : Hid (PS w U w1.heap.size w2.heap.size s1 A1 n1 c1 false A3 n3 c3) := by rw [← hU]; exact HP3.out.den
  have HN4 : Hid (OneZ U s1 A1 n1 c1 y) := by rw [← hU]; exact HN3.out.on2 HP3.out.i2.bx
  have HO4 : Hid (OneZ U false A3 n3 c3 1) := by rw [← hU]; exact HO3.out.on2 HP3.out.i2.bx
  have r0 := HP3.out.i2.c0
  have r1 := HP3.out.i2.c1
  have fr0 := HP3.out.i2.f 0
  have fr1 := HP3.out.i2.f 1
  have t0 := HP4.out.i2.c0
  have t1 := HP4.out.i2.c1
  go_wp2_with fail
  refine (sign_j (HO4.out.isz HOL.out) hk2 1 rfl).mono ?_
  rintro e w5 ⟨rfl, hb5⟩
  clear hU r0 r1 fr0 fr1 t0 t1
  have HP5 := lh (HP4.out.below hb5)
  have HN5 := lh ((HN4.out.below hb5).isz HYL.out)
  have HO5 := lh ((HO4.out.below hb5).isz HOL.out)
  clear hb5
  have p0 := HP5.out.i1.c0
  have p1 := HP5.out.i1.c1
  have r0 := HP5.out.i2.c0
  have r1 := HP5.out.i2.c1
  have o0 := HP5.out.o1.c0
  have o1 := HP5.out.o1.c1
  have v0 := HP5.out.o2.c0
  have v1 := HP5.out.o2.c1
  have fo0 := HP5.out.o1.f 0
  have fo1 := HP5.out.o1.f 1
  have fv0 := HP5.out.o2.f 0
  have fv1 := HP5.out.o2.f 1
  have hpp := HLW.out
  have hrr := HLX.out
  have e1 : w.heap.size + 1 ≠ w1.heap.size := by omega
  have e2 : w.heap.size + 1 + 1 ≠ w1.heap.size := by omega
  have e3 : w.heap.size + 1 ≠ w2.heap.size := by omega
  have e4 : w.heap.size + 1 + 1 ≠ w2.heap.size := by omega
  go_upto_region 10 with fail
  go_region
  all_goals
   go_wp2_with fail
   refine bodyPost_ret (v := .tuple #[.agg #[.bool s1, .slice A1 n1 c1], .agg #[.bool false, .slice A3 n3 c3]]) (by simp [results, Tryz.results142, go_sem, o0, o1, v0, v1]) rfl ?_
   exact ⟨s1, A1, n1, c1, false, A3, n3, c3, _, _, rfl, ((HN5.out.on2 HP5.out.o1.bx).on2 (HP5.out.o2.put_far (by omega)).bx).drew, ((HO5.out.on2 HP5.out.o1.bx).on2 (HP5.out.o2.put_far (by omega)).bx).drew, by omega, HE.out, (below_put2 (below_put2 HP5.out.bel (by omega)) (by omega)).drew⟩
 ·have hm0 : ((m : Int) == 0) = false := by rw [beq_eq_false_iff_ne]; omega
  have HE : Hid (Rat.divInt y z = q) := by show _ = _; rw [← HQ.out, if_neg hm]
  clear hm
  obtain ⟨sg, hsg⟩ : ∃ sg, z.sign = sg := ⟨_, rfl⟩
  have HSG := lh hsg
  rcases Int.lt_trichotomy z 0 with hz | hz | hz
  ·have hs1 : (sg == 0) = false := by rw [← hsg, Int.sign_eq_neg_one_of_neg hz]; rfl
   obtain rfl : s2 = true := by rw [HD.out.es]; unfold zneg; exact decide_eq_true hz
   have HZP : Hid (0 < -z) := by show _ < _; omega
   have HE2 : Hid (Rat.divInt (-y) (-z) = q) := by show _ = _; rw [Rat.neg_divInt_neg, HE.out]
   have HNL : Hid (zl (-y) ≤ k) := by show _ ≤ _; rw [zl_neg]; exact HYL.out
   have HDL : Hid (zl (-z) ≤ k) := by show _ ≤ _; rw [zl_neg]; exact HZL.out
   obtain ⟨y', hy'⟩ : ∃ y', -y = y' := ⟨_, rfl⟩
   obtain ⟨z', hz'⟩ : ∃ z', -z = z' := ⟨_, rfl⟩
   rw [hy'] at HE2 HNL
   rw [hz'] at HE2 HZP HDL
   have HY' := lh hy'
   have HZ' := lh hz'
   clear hsg hz hy' hz'
   go_wp2_with fail
   refine (sign_j (HD.out.isz HZL.out) hk2 sg HSG.out).mono ?_
   rintro e w3 ⟨rfl, hb3⟩
   clear hW k2 k3 r0 r1 fr0 fr1
   have HP3 := lh (HP.out.below hb3)
   have HN3 := lh ((HN.out.below hb3).isz HYL.out)
   have HD3 := lh ((HD.out.below hb3).isz HZL.out)
   clear hb3
   have p0 := HP3.out.i1.c0
   have p1 := HP3.out.i1.c1
   have r0 := HP3.out.i2.c0
   have r1 := HP3.out.i2.c1
   go_wp2_with fail
   refine (neg_j HN3.out hk2 y' HY'.out).mono ?_
   rintro e w4 ⟨s4, A4, n4, c4, rfl, h4, hb4⟩
   clear p0 p1 r0 r1
   have HP4 := lh (HP3.out.below hb4)
   have HD4 := lh (HD3.out.below hb4)
   have HN4 := lh h4
   clear h4 hb4
   obtain ⟨U, hU⟩ : ∃ U, (w4.setCell ⟨w1.heap.size, 0, none⟩ (.bool s4)).setCell ⟨w1.heap.size, 1, none⟩ (.slice A4 n4 c4) = U := ⟨_, rfl⟩
   have HP5 : Hid (PS w U w1.heap.size w2.heap.size s4 A4 n4 c4 true A2 n2 c2) := by rw [← hU]; exact HP4.out.num
   have HN5 : Hid (OneZ U s4 A4 n4 c4 y') := by rw [← hU]; exact HN4.out.on2 HP4.out.i1.bx
   have HD5 : Hid (IsZ U true A2 n2 c2 z k) := by rw [← hU]; exact HD4.out.on2 HP4.out.i1.bx
   have p0 := HP4.out.i1.c0
   have p1 := HP4.out.i1.c1
   have fp0 := HP4.out.i1.f 0
   have fp1 := HP4.out.i1.f 1
   have r0 := HP5.out.i2.c0
   have r1 := HP5.out.i2.c1
   go_wp2_with fail
   refine (neg_j HD5.out hk2 z' HZ'.out).mono ?_
   rintro e w6 ⟨s6, A6, n6, c6, rfl, h6, hb6⟩
   clear hU p0 p1 fp0 fp1 r0 r1
   have HP6 := lh (HP5.out.below hb6)
   have HN6 := lh (HN5.out.below hb6)
   have HD6 := lh h6
   clear h6 hb6
   obtain ⟨X, hX⟩ : ∃ X, (w6.setCell ⟨w2.heap.size, 0, none⟩ (.bool s6)).setCell ⟨w2.heap.size, 1, none⟩ (.slice A6 n6 c6) = X := ⟨_, rfl⟩
   have HP7 : Hid (PS w X w1.heap.size w2.heap.size s4 A4 n4 c4 s6 A6 n6 c6) := by rw [← hX]; exact HP6.out.den
   have HN7 : Hid (IsZ X s4 A4 n4 c4 y' k) := by rw [← hX]; exact (HN6.out.on2 HP6.out.i2.bx).isz HNL.out
   have HD7 : Hid (IsZ X s6 A6 n6 c6 z' k) := by rw [← hX]; exact (HD6.out.on2 HP6.out.i2.bx).isz HDL.out
   have q0 := HP6.out.i2.c0
   have q1 := HP6.out.i2.c1
   have fq0 := HP6.out.i2.f 0
   have fq1 := HP6.out.i2.f 1
   go_upto_region 10 with fail
   clear hX q0 q1 fq0 fq1
   have p0 := HP7.out.i1.c0
   have p1 := HP7.out.i1.c1
   have r0 := HP7.out.i2.c0
   have r1 := HP7.out.i2.c1
   have o0 := HP7.out.o1.c0
   have o1 := HP7.out.o1.c1
   have v0 := HP7.out.o2.c0
   have v1 := HP7.out.o2.c1
   have fo0 := HP7.out.o1.f 0
   have fo1 := HP7.out.o1.f 1
   have fv0 := HP7.out.o2.f 0
   have fv1 := HP7.out.o2.f 1
   have hpp := HLW.out
   have hrr := HLX.out
   have e1 : w.heap.size + 1 ≠ w1.heap.size := by omega
   have e2 : w.heap.size + 1 + 1 ≠ w1.heap.size := by omega
   have e3 : w.heap.size + 1 ≠ w2.heap.size := by omega
   have e4 : w.heap.size + 1 + 1 ≠ w2.heap.size := by omega
   go_region
   all_goals
    go_wp2_with fail
    refine bodyPost_ret (v := .tuple #[.agg #[.bool s4, .slice A4 n4 c4], .agg #[.bool s6, .slice A6 n6 c6]]) (by simp [results, Tryz.results142, go_sem, o0, o1, v0, v1]) rfl ?_
    exact ⟨s4, A4, n4, c4, s6, A6, n6, c6, _, _, rfl, ((HN7.out.on2 HP7.out.o1.bx).on2 (HP7.out.o2.put_far (by omega)).bx).drew, ((HD7.out.on2 HP7.out.o1.bx).on2 (HP7.out.o2.put_far (by omega)).bx).drew, HZP.out, HE2.out, (below_put2 (below_put2 HP7.out.bel (by omega)) (by omega)).drew⟩
  ·have hs1 : (sg == 0) = true := by rw [← hsg, hz]; rfl
   have HE0 : Hid (Rat.divInt 0 1 = q) := by show _ = _; rw [← HE.out, hz, Rat.divInt_zero, Rat.zero_divInt]
   clear hsg hz
   go_wp2_with fail
   refine (sign_j (HD.out.isz HZL.out) hk2 sg HSG.out).mono ?_
   rintro e w3 ⟨rfl, hb3⟩
   clear hW k2 k3 r0 r1 fr0 fr1
   have HP3 := lh (HP.out.below hb3)
   clear hb3
   go_wp2_with fail
   refine (of_j _ 1 1 rfl (by omega) (by omega)).mono ?_
   rintro e w4 ⟨s4, A4, n4, c4, rfl, h4, hb4⟩
   have HP4 := lh (HP3.out.below hb4)
   have HO4 := lh (h4.isz HOL.out)
   clear h4 hb4
   have o0 := HP4.out.o1.c0
   have o1 := HP4.out.o1.c1
   have v0 := HP4.out.o2.c0
   have v1 := HP4.out.o2.c1
   have fo0 := HP4.out.o1.f 0
   have fo1 := HP4.out.o1.f 1
   have fv0 := HP4.out.o2.f 0
   have fv1 := HP4.out.o2.f 1
   go_wp2_with fail
   refine bodyPost_ret (v := .tuple #[.agg #[.bool false, .slice none 0 0], .agg #[.bool s4, .slice A4 n4 c4]]) (by simp [results, Tryz.results142, go_sem, o0, o1, v0, v1]) rfl ?_
   exact ⟨false, none, 0, 0, s4, A4, n4, c4, 0, 1, rfl, IsZ.nil _ _ _ _ _, (HO4.out.on2 HP4.out.o1.bx).on2 (HP4.out.o2.put_far (by omega)).bx, by omega, HE0.out, below_put2 (below_put2 HP4.out.bel (by omega)) (by omega)⟩
  ·have hs1 : (sg == 0) = false := by rw [← hsg, Int.sign_eq_one_of_pos hz]; rfl
   obtain rfl : s2 = false := by rw [HD.out.es]; unfold zneg; exact decide_eq_false (by omega)
   clear hsg
   go_wp2_with fail
   refine (sign_j (HD.out.isz HZL.out) hk2 sg HSG.out).mono ?_
   rintro e w3 ⟨rfl, hb3⟩
   clear hW k2 k3 r0 r1 fr0 fr1
   have HP3 := lh (HP.out.below hb3)
   have HN3 := lh ((HN.out.below hb3).isz HYL.out)
   have HD3 := lh ((HD.out.below hb3).isz HZL.out)
   clear hb3
   have p0 := HP3.out.i1.c0
   have p1 := HP3.out.i1.c1
   have r0 := HP3.out.i2.c0
   have r1 := HP3.out.i2.c1
   have o0 := HP3.out.o1.c0
   have o1 := HP3.out.o1.c1
   have v0 := HP3.out.o2.c0
   have v1 := HP3.out.o2.c1
   have fo0 := HP3.out.o1.f 0
   have fo1 := HP3.out.o1.f 1
   have fv0 := HP3.out.o2.f 0
   have fv1 := HP3.out.o2.f 1
   have hpp := HLW.out
   have hrr := HLX.out
   have e1 : w.heap.size + 1 ≠ w1.heap.size := by omega
   have e2 : w.heap.size + 1 + 1 ≠ w1.heap.size := by omega
   have e3 : w.heap.size + 1 ≠ w2.heap.size := by omega
   have e4 : w.heap.size + 1 + 1 ≠ w2.heap.size := by omega
   go_upto_region 10 with fail
   go_region
   all_goals
    go_wp2_with fail
    refine bodyPost_ret (v := .tuple #[.agg #[.bool s1, .slice A1 n1 c1], .agg #[.bool false, .slice A2 n2 c2]]) (by simp [results, Tryz.results142, go_sem, o0, o1, v0, v1]) rfl ?_
    exact ⟨s1, A1, n1, c1, false, A2, n2, c2, _, _, rfl, ((HN3.out.on2 HP3.out.o1.bx).on2 (HP3.out.o2.put_far (by omega)).bx).drew, ((HD3.out.on2 HP3.out.o1.bx).on2 (HP3.out.o2.put_far (by omega)).bx).drew, hz, HE.out, (below_put2 (below_put2 HP3.out.bel (by omega)) (by omega)).drew⟩
end Q.P

namespace Q.P
set_option maxRecDepth 100000
set_option maxHeartbeats 2000000
open Go.RowKit
theorem make_q {w : World} {s t : Bool} {A B : Option Addr} {n c m d k : Nat} {y z : Int} (h1 : IsZ w s A n c y k) (h2 : IsZ w t B m d z k) (hk : 1 ≤ k) (hk2 : k ≤ 3000) (q : Rat) (hq : Rat.divInt y z = q) :
  Calls tz 138 #[.agg #[.bool s, .slice A n c], .agg #[.bool t, .slice B m d]] w (RetQ w q) := by
 have HS := lh (SQ.start w s A n c t B m d)
 have HA := lh (((h1.alloc (.cells #[.bool s, .slice A n c] 25)).alloc (.cells #[.bool t, .slice B m d] 25)).alloc (.cells #[.bool false, .slice none 0 0, .bool false, .slice none 0 0] 27))
 have HB := lh (((h2.alloc (.cells #[.bool s, .slice A n c] 25)).alloc (.cells #[.bool t, .slice B m d] 25)).alloc (.cells #[.bool false, .slice none 0 0, .bool false, .slice none 0 0] 27))
 obtain ⟨sg, hsg⟩ : ∃ sg, z.sign = sg := ⟨_, rfl⟩
 have HSG := lh hsg
 rcases Int.lt_trichotomy z 0 with hz | hz | hz
 ·have hs1 : (sg == 0) = false := by rw [← hsg, Int.sign_eq_neg_one_of_neg hz]; rfl
  have hs2 : sg < 0 := by rw [← hsg, Int.sign_eq_neg_one_of_neg hz]; omega
  obtain ⟨y', hy'⟩ : ∃ y', -y = y' := ⟨_, rfl⟩
  obtain ⟨z', hz'⟩ : ∃ z', -z = z' := ⟨_, rfl⟩
  have hzp : 0 < z' := by omega
  have HQ : Hid (Rat.divInt y' z' = q) := by show _ = _; rw [← hq, ← hy', ← hz', Rat.neg_divInt_neg]
  have HYL : Hid (zl y' ≤ k) := by show _ ≤ _; rw [← hy', zl_neg]; exact h1.zl
  have HZL : Hid (zl z' ≤ k) := by show _ ≤ _; rw [← hz', zl_neg]; exact h2.zl
  have HY := lh hy'
  have HZ := lh hz'
  clear h1 h2 hq hsg hz hy' hz'
  go_enter Tryz.func138, Tryz.ntmps138
  go_wp2_with fail
  refine (sign_j HB.out hk2 sg HSG.out).mono ?_
  rintro e w1 ⟨rfl, hb1⟩
  have HS1 := lh (HS.out.below hb1)
  have HA1 := lh (HA.out.below hb1)
  have HB1 := lh (HB.out.below hb1)
  clear hb1
  have k0 := HS1.out.i1.c0
  have k1 := HS1.out.i1.c1
  go_wp2_with fail
  refine (neg_j HA1.out hk2 y' HY.out).mono ?_
  rintro e w2 ⟨s2, A2, n2, c2, rfl, h2, hb2⟩
  have HS2 := lh (HS1.out.below hb2)
  have HB2 := lh (HB1.out.below hb2)
  have HN2 := lh (h2.isz HYL.out)
  clear h2 hb2 k0 k1
  obtain ⟨V, hV⟩ : ∃ V, (w2.setCell ⟨w.heap.size, 0, none⟩ (.bool s2)).setCell ⟨w.heap.size, 1, none⟩ (.slice A2 n2 c2) = V := ⟨_, rfl⟩
  have HS3 : Hid (SQ w V s2 A2 n2 c2 t B m d) := by rw [← hV]; exact HS2.out.fst
  have HB3 : Hid (IsZ V t B m d z k) := by rw [← hV]; exact HB2.out.on2 HS2.out.i1.bx
  have HN3 : Hid (IsZ V s2 A2 n2 c2 y' k) := by rw [← hV]; exact HN2.out.on2 HS2.out.i1.bx
  have j0 := HS2.out.i1.c0
  have j1 := HS2.out.i1.c1
  have f0 := HS2.out.i1.f 0
  have f1 := HS2.out.i1.f 1
  have k0 := HS3.out.i2.c0
  have k1 := HS3.out.i2.c1
  go_wp2_with fail
  refine (neg_j HB3.out hk2 z' HZ.out).mono ?_
  rintro e w4 ⟨s4, A4, n4, c4, rfl, h4, hb4⟩
  clear hV j0 j1 f0 f1 k0 k1
  have HS4 := lh (HS3.out.below hb4)
  have HN4 := lh (HN3.out.below hb4)
  have HD4 := lh (h4.isz HZL.out)
  clear h4 hb4
  obtain ⟨U, hU⟩ : ∃ U, (w4.setCell ⟨w.heap.size + 1, 0, none⟩ (.bool s4)).setCell ⟨w.heap.size + 1, 1, none⟩ (.slice A4 n4 c4) = U := ⟨_, rfl⟩
  have HS5 : Hid (SQ w U s2 A2 n2 c2 s4 A4 n4 c4) := by rw [← hU]; exact HS4.out.snd
  have HN5 : Hid (IsZ U s2 A2 n2 c2 y' k) := by rw [← hU]; exact HN4.out.on2 HS4.out.i2.bx
  have HD5 : Hid (IsZ U s4 A4 n4 c4 z' k) := by rw [← hU]; exact HD4.out.on2 HS4.out.i2.bx
  have j0 := HS4.out.i2.c0
  have j1 := HS4.out.i2.c1
  have f0 := HS4.out.i2.f 0
  have f1 := HS4.out.i2.f 1
  have k0 := HS5.out.i1.c0
  have k1 := HS5.out.i1.c1
  have k2 := HS5.out.i2.c0
  have k3 := HS5.out.i2.c1
  go_wp2_with fail
  refine (lowest_q HN5.out HD5.out hk hk2 hzp HQ.out).mono ?_
  rintro e w8 ⟨s8, A8, n8, c8, t8, B8, m8, d8, rfl, h8, hb8⟩
  clear hU j0 j1 f0 f1 k0 k1 k2 k3
  have HS8 := lh (HS5.out.below hb8)
  have HR8 := lh h8
  clear h8 hb8
  have o0 := HS8.out.o.c0
  have o1 := HS8.out.o.c1
  have o2 := HS8.out.o.c2
  have o3 := HS8.out.o.c3
  have f0 := HS8.out.o.f 0
  have f1 := HS8.out.o.f 1
  have f2 := HS8.out.o.f 2
  have f3 := HS8.out.o.f 3
  go_wp2_with fail
  refine bodyPost_ret (v := .agg #[.bool s8, .slice A8 n8 c8, .bool t8, .slice B8 m8 d8]) (by simp [results, Tryz.results138, go_sem, o0, o1, o2, o3]) rfl ?_
  exact retq_put HR8.out HS8.out.o (by omega) HS8.out.bel
 ·have hs1 : (sg == 0) = true := by rw [← hsg, hz]; rfl
  have HQ : Hid (q = 0) := by show _ = _; rw [← hq, hz, Rat.divInt_zero]
  clear h1 h2 hq hsg hz
  go_enter Tryz.func138, Tryz.ntmps138
  go_wp2_with fail
  refine (sign_j HB.out hk2 sg HSG.out).mono ?_
  rintro e w1 ⟨rfl, hb1⟩
  have HS1 := lh (HS.out.below hb1)
  clear hb1
  have o0 := HS1.out.o.c0
  have o1 := HS1.out.o.c1
  have o2 := HS1.out.o.c2
  have o3 := HS1.out.o.c3
  have f0 := HS1.out.o.f 0
  have f1 := HS1.out.o.f 1
  have f2 := HS1.out.o.f 2
  have f3 := HS1.out.o.f 3
  go_wp2_with fail
  refine bodyPost_ret (v := .agg #[.bool false, .slice none 0 0, .bool false, .slice none 0 0]) (by simp [results, Tryz.results138, go_sem, o0, o1, o2, o3]) rfl ?_
  exact (by rw [HQ.out]; exact retq_put (oneq_zero _ 0 0) HS1.out.o (by omega) HS1.out.bel)
 ·have hs1 : (sg == 0) = false := by rw [← hsg, Int.sign_eq_one_of_pos hz]; rfl
  have hs2 : ¬ sg < 0 := by rw [← hsg, Int.sign_eq_one_of_pos hz]; omega
  have HQ := lh hq
  clear h1 h2 hq hsg
  go_enter Tryz.func138, Tryz.ntmps138
  go_wp2_with fail
  refine (sign_j HB.out hk2 sg HSG.out).mono ?_
  rintro e w1 ⟨rfl, hb1⟩
  have HS1 := lh (HS.out.below hb1)
  have HA1 := lh (HA.out.below hb1)
  have HB1 := lh (HB.out.below hb1)
  clear hb1
  have k0 := HS1.out.i1.c0
  have k1 := HS1.out.i1.c1
  have k2 := HS1.out.i2.c0
  have k3 := HS1.out.i2.c1
  go_wp2_with fail
  refine (lowest_q HA1.out HB1.out hk hk2 hz HQ.out).mono ?_
  rintro e w8 ⟨s8, A8, n8, c8, t8, B8, m8, d8, rfl, h8, hb8⟩
  have HS8 := lh (HS1.out.below hb8)
  have HR8 := lh h8
  clear h8 hb8 k0 k1 k2 k3
  have o0 := HS8.out.o.c0
  have o1 := HS8.out.o.c1
  have o2 := HS8.out.o.c2
  have o3 := HS8.out.o.c3
  have f0 := HS8.out.o.f 0
  have f1 := HS8.out.o.f 1
  have f2 := HS8.out.o.f 2
  have f3 := HS8.out.o.f 3
  go_wp2_with fail
  refine bodyPost_ret (v := .agg #[.bool s8, .slice A8 n8 c8, .bool t8, .slice B8 m8 d8]) (by simp [results, Tryz.results138, go_sem, o0, o1, o2, o3]) rfl ?_
  exact retq_put HR8.out HS8.out.o (by omega) HS8.out.bel
theorem of_q (w : World) (y z : Int) (h1 : -9223372036854775808 ≤ y) (h2 : y ≤ 9223372036854775807) (h3 : -9223372036854775808 ≤ z) (h4 : z ≤ 9223372036854775807) (q : Rat) (hq : Rat.divInt y z = q) :
  Calls tz 82 #[.int .i64 y, .int .i64 z] w (RetQ w q) := by
 have HS := lh (S0.start w)
 have HY : Hid (zl y ≤ 1) := zl_small h1 h2
 have HZ : Hid (zl z ≤ 1) := zl_small h3 h4
 have HO1 := lh (fun W => of_j W y y rfl h1 h2)
 have HO2 := lh (fun W => of_j W z z rfl h3 h4)
 have HQ := lh hq
 clear h1 h2 h3 h4 hq
 go_enter Tryz.func82, Tryz.ntmps82
 go_wp2_with fail
 refine (HO1.out _).mono ?_
 rintro e w1 ⟨s1, A1, n1, c1, rfl, h1, hb1⟩
 have HS1 := lh (HS.out.below hb1)
 have HN1 := lh h1
 clear h1 hb1
 go_wp2_with fail
 refine (HO2.out _).mono ?_
 rintro e w2 ⟨s2, A2, n2, c2, rfl, h2, hb2⟩
 have HS2 := lh (HS1.out.below hb2)
 have HN2 := lh (HN1.out.below hb2)
 have HD2 := lh h2
 clear h2 hb2
 go_wp2_with fail
 refine (make_q (HN2.out.isz HY.out) (HD2.out.isz HZ.out) (by omega) (by omega) q HQ.out).mono ?_
 rintro e w8 ⟨s8, A8, n8, c8, t8, B8, m8, d8, rfl, h8, hb8⟩
 have HS8 := lh (HS2.out.below hb8)
 have HR8 := lh h8
 clear h8 hb8
 have o0 := HS8.out.o.c0
 have o1 := HS8.out.o.c1
 have o2 := HS8.out.o.c2
 have o3 := HS8.out.o.c3
 have f0 := HS8.out.o.f 0
 have f1 := HS8.out.o.f 1
 have f2 := HS8.out.o.f 2
 have f3 := HS8.out.o.f 3
 go_wp2_with fail
 refine bodyPost_ret (v := .agg #[.bool s8, .slice A8 n8 c8, .bool t8, .slice B8 m8 d8]) (by simp [results, Tryz.results82, go_sem, o0, o1, o2, o3]) rfl ?_
 exact retq_put HR8.out HS8.out.o (by omega) HS8.out.bel
end Q.P

namespace Q.P
set_option maxRecDepth 100000
set_option maxHeartbeats 4000000
open Go.RowKit
theorem norm_q {w : World} {s t : Bool} {A B : Option Addr} {n c m d k : Nat} {p : Rat} (h1 : IsQ w s A n c t B m d p k) (hk : 1 ≤ k) (hk2 : k ≤ 3000) :
  Calls tz 104 #[.agg #[.bool s, .slice A n c, .bool t, .slice B m d]] w (RetQ w p) := by
 have HS := lh (S1.start w s A n c t B m d)
 have HP := lh ((h1.alloc (.cells #[.bool s, .slice A n c, .bool t, .slice B m d] 27)).alloc (.cells #[.bool false, .slice none 0 0, .bool false, .slice none 0 0] 27))
 clear h1
 go_enter Tryz.func104, Tryz.ntmps104
 go_wp2_with fail
 refine (parts_any HP.out hk (by omega)).mono ?_
 rintro e w1 ⟨s1, A1, n1, c1, s2, A2, n2, c2, x, dx, rfl, hx, hdx, hdp, hqp, hb1⟩
 have HS1 := lh (HS.out.below hb1)
 have HX1 := lh hx
 have HD1 := lh hdx
 have HQP := lh hqp
 clear hx hdx hqp hb1 HS HP
 obtain ⟨W, hW⟩ : ∃ W, (w1.alloc (.cells #[.bool s1, .slice A1 n1 c1] 25)).alloc (.cells #[.bool s2, .slice A2 n2 c2] 25) = W := ⟨_, rfl⟩
 have HV : Hid (Below w1.heap.size w1 W) := by rw [← hW]; exact ((bR _ _).alloc (lR _) _).alloc (by simp) _
 have HI2 : Hid (Ibx W w1.heap.size s1 A1 n1 c1) := by rw [← hW]; exact (Ibx.new' _ _ _ _ _ _ rfl).alloc _
 have HJ2 : Hid (Ibx W (w1.heap.size + 1) s2 A2 n2 c2) := by rw [← hW]; exact Ibx.new' _ _ _ _ _ _ (by simp)
 have HS2 := lh (HS1.out.below HV.out)
 have HX2 := lh (HX1.out.below HV.out)
 have HD2 := lh (HD1.out.below HV.out)
 clear HX1 HD1 HV
 have k0 := HI2.out.c0
 have k1 := HI2.out.c1
 have j0 := HJ2.out.c0
 have j1 := HJ2.out.c1
 go_wp2_with fail
 refine (lowest_q HX2.out HD2.out hk hk2 hdp HQP.out).mono ?_
 rintro e w8 ⟨s8, A8, n8, c8, t8, B8, m8, d8, rfl, h8, hb8⟩
 clear hW k0 k1 j0 j1
 have HS8 := lh (HS2.out.below hb8)
 have HR8 := lh h8
 clear h8 hb8
 have o0 := HS8.out.o.c0
 have o1 := HS8.out.o.c1
 have o2 := HS8.out.o.c2
 have o3 := HS8.out.o.c3
 have f0 := HS8.out.o.f 0
 have f1 := HS8.out.o.f 1
 have f2 := HS8.out.o.f 2
 have f3 := HS8.out.o.f 3
 go_wp2_with fail
 refine bodyPost_ret (v := .agg #[.bool s8, .slice A8 n8 c8, .bool t8, .slice B8 m8 d8]) (by simp [results, Tryz.results104, go_sem, o0, o1, o2, o3]) rfl ?_
 exact retq_put HR8.out HS8.out.o (by omega) HS8.out.bel
theorem sign_q {w : World} {s t : Bool} {A B : Option Addr} {n c m d k : Nat} {p : Rat} (h1 : IsQ w s A n c t B m d p k) (hk : 1 ≤ k) (hk2 : k ≤ 3000) (r : Int) (hr : qsign p = r) :
  Calls tz 121 #[.agg #[.bool s, .slice A n c, .bool t, .slice B m d]] w (RetI w r) := by
 have HS : Hid (Below w.heap.size w (w.alloc (.cells #[.bool s, .slice A n c, .bool t, .slice B m d] 27))) := (bR _ _).alloc (lR _) _
 have HP := lh (h1.alloc (.cells #[.bool s, .slice A n c, .bool t, .slice B m d] 27))
 have HR := lh hr
 clear h1 hr
 go_enter Tryz.func121, Tryz.ntmps121
 go_wp2_with fail
 refine (parts_any HP.out hk (by omega)).mono ?_
 rintro e w1 ⟨s1, A1, n1, c1, s2, A2, n2, c2, x, dx, rfl, hx, hdx, hdp, hqp, hb1⟩
 have HS1 := lh (below_on HS.out hb1)
 have HX1 := lh hx
 have HD1 := lh hdx
 have HQP := lh hqp
 clear hx hdx hqp hb1 HS HP
 obtain ⟨W, hW⟩ : ∃ W, (w1.alloc (.cells #[.bool s1, .slice A1 n1 c1] 25)).alloc (.cells #[.bool s2, .slice A2 n2 c2] 25) = W := ⟨_, rfl⟩
 have HV : Hid (Below w1.heap.size w1 W) := by rw [← hW]; exact ((bR _ _).alloc (lR _) _).alloc (by simp) _
 have HI2 : Hid (Ibx W w1.heap.size s1 A1 n1 c1) := by rw [← hW]; exact (Ibx.new' _ _ _ _ _ _ rfl).alloc _
 have HJ2 : Hid (Ibx W (w1.heap.size + 1) s2 A2 n2 c2) := by rw [← hW]; exact Ibx.new' _ _ _ _ _ _ (by simp)
 have HS2 := lh (below_on HS1.out HV.out)
 have HX2 := lh (HX1.out.below HV.out)
 have HD2 := lh (HD1.out.below HV.out)
 clear HX1 HD1 HV
 have k0 := HI2.out.c0
 have k1 := HI2.out.c1
 have j0 := HJ2.out.c0
 have j1 := HJ2.out.c1
 have HSG : Hid (x.sign = r) := by show _ = _; rw [← HR.out, ← HQP.out, sign_pos hdp]
 go_wp2_with fail
 refine (sign_j HX2.out hk2 r HSG.out).mono ?_
 rintro e w8 ⟨rfl, hb8⟩
 clear hW k0 k1 j0 j1
 have HS8 := lh (below_on HS2.out hb8)
 clear hb8
 go_wp2_with fail
 go_ret
 exact ⟨rfl, HS8.out⟩
end Q.P

namespace V
open Go.RowKit
open Q (IsQ OneQ RetQ below_on ql Qbx qsign qsign_zero_iff)
theorem wpList_appU {ops : Array Oper} {rest : List Oper} {o : Oper} {a : Act} {w : World} {Q : Exit → Act → World → Prop} (hgd : o.guard = none) (sl x : Operand)
  (ho : o.op = .call { callee := .builtin .append, args := #[sl, x], argTypes := #[33, 33] })
  (base : Nat) (v : Value) (ts : List TV) (y : TV) (ad : Addr) (hs : a.eval sl = v) (hx : a.eval x = .slice (some ad) 1 1) (hown : OwnU w base v ts) (had : ∀ j u, y.enc[j]? = some u → w.cell? (ad.add j) = some u) (h : ts.length ≤ 10000000) (hbase : base ≤ w.heap.size)
  (hk : ∀ v' w', OwnU w' base v' (ts ++ [y]) → w.grownBy w' v.ownBlock → (v'.ownBlock = v.ownBlock ∨ v'.ownBlock = some w.heap.size) → wpList tz ops Q rest (a.put o.dst v') w') : wpList tz ops Q (o :: rest) a w := by
 refine wpList_plain hgd fun K hK => ?_
 obtain ⟨v', w', hr, h1, h2, h3⟩ := appU_at w base o.type v ts y ad hown had h hbase
 unfold Oper.wp
 simp [execOp, ho, resolve, invoke, builtin, hs, hx, hr, Result.andThen]
 exact hK _ _ (hk v' w' h1 h2 h3)
structure OwnZ (w : World) (base : Nat) (v : Value) (zs : List (TV × Rat)) : Prop where
 own : OwnU w base v (zs.map Prod.fst)
 one : ∀ y ∈ zs, OneQ w y.1.s y.1.A y.1.n y.1.c y.1.t y.1.B y.1.m y.1.d y.2 ∧ -9223372036854775808 ≤ y.1.at_ ∧ y.1.at_ ≤ 9223372036854775807
theorem OwnZ.below {w w' : World} {base : Nat} {v : Value} {zs : List (TV × Rat)} (h : OwnZ w base v zs) (hb : Below w.heap.size w w') : OwnZ w' base v zs :=
 ⟨h.own.keep (fun g hg => hb.block g (h.own.lt hg)), fun y hy => ⟨(h.one y hy).1.below hb, (h.one y hy).2⟩⟩
theorem OwnZ.nil (w : World) (base : Nat) : OwnZ w base (.slice none 0 0) [] := ⟨OwnU.nil w base, fun _ h => by cases h⟩
def Grown (w w' : World) (v : Value) : Prop := Near (fun b => some b = v.ownBlock) w w'
def RetP (w : World) (base : Nat) (v : Value) (l : List (Int × Rat)) (e : Ending) (w' : World) : Prop :=
 ∃ A n c zs, e = .returned (.slice A n c) ∧ OwnZ w' base (.slice A n c) zs ∧ vals zs = l ∧ Grown w w' v ∧ ((Value.slice A n c).ownBlock = v.ownBlock ∨ ∃ g, (Value.slice A n c).ownBlock = some g ∧ w.heap.size ≤ g)
theorem own_nodig {w : World} {base : Nat} {v : Value} {zs : List (TV × Rat)} (h : OwnZ w base v zs) : NoDig w (fun b => some b = v.ownBlock) := fun b hb i u hu => h.own.all b hb.symm i u hu
theorem Near.of_grown {w w' : World} {v : Value} (h : w.grownBy w' v.ownBlock) : Grown w w' v := ⟨h.os, h.tape, h.output, h.size, fun b hb hn => h.block b hb hn⟩
set_option maxRecDepth 100000 in
set_option maxHeartbeats 4000000 in
theorem rput_any {w : World} {base : Nat} {A0 : Option Addr} {n0 c0 : Nat} {zs : List (TV × Rat)} {a : Int} {s : Bool} {A : Option Addr} {n c : Nat} {t : Bool} {B : Option Addr} {m d k : Nat} {q : Rat} (h : OwnZ w base (.slice A0 n0 c0) zs) (hb : base ≤ w.heap.size) (hq : IsQ w s A n c t B m d q k) (hk : 1 ≤ k) (hk2 : k ≤ 3000) (ha : -9223372036854775808 ≤ a ∧ a ≤ 9223372036854775807) (hl : zs.length ≤ 10000000) :
  Calls tz 87 #[.slice A0 n0 c0, .int .i64 a, .agg #[.bool s, .slice A n c, .bool t, .slice B m d]] w (RetP w base (.slice A0 n0 c0) (if q = 0 then vals zs else vals zs ++ [(a, q)])) := by
 obtain ⟨W0, hW0⟩ : ∃ V, w.alloc (.cells #[.bool s, .slice A n c, .bool t, .slice B m d] 27) = V := ⟨_, rfl⟩
 have b0 : Below w.heap.size w W0 := by rw [← hW0]; exact (bR _ _).alloc (lR _) _
 have hx0 : Qbx W0 w.heap.size s A n c t B m d := by rw [← hW0]; exact Qbx.new _ _ rfl
 have HX := lh hx0
 have HB := lh b0
 have HQ := lh (hq.below b0)
 have HZ := lh (h.below b0)
 have HK : Hid (1 ≤ k ∧ k ≤ 3000) := ⟨hk, hk2⟩
 have HA := lh ha
 have HLL := lh hl
 have HBS := lh hb
 obtain ⟨sg, hsg⟩ : ∃ sg, qsign q = sg := ⟨_, rfl⟩
 have HSG := lh hsg
 obtain ⟨L, hL⟩ : ∃ L, (if q = 0 then vals zs else vals zs ++ [(a, q)]) = L := ⟨_, rfl⟩
 rw [hL]
 by_cases h0 : q = 0
 ·have g1 : (sg == 0) = true := by rw [← hsg, qsign_zero_iff.2 h0]; rfl
  have HE : Hid (L = vals zs) := by show _ = _; rw [← hL]; exact if_pos h0
  clear hL
  clear h hb hq hk hk2 ha hl b0 hx0 hsg h0
  go_enter Tryz.func87, Tryz.ntmps87
  have e0 := HX.out.c0
  have e1 := HX.out.c1
  have e2 := HX.out.c2
  have e3 := HX.out.c3
  go_upto_region 1 with fail
  clear hW0
  go_wp2_with fail
  refine (Q.P.sign_q HQ.out HK.out.1 HK.out.2 sg HSG.out).mono ?_
  rintro e w1 ⟨rfl, hb1⟩
  have HZ1 := lh (HZ.out.below hb1)
  have HB1 := lh (below_on HB.out hb1)
  clear hb1 e0 e1 e2 e3
  go_wp2_with fail
  refine ⟨rfl, .slice A0 n0 c0, by simp [results, Tryz.results87, go_sem], ?_⟩
  rw [HE.out]
  exact ⟨A0, n0, c0, zs, rfl, HZ1.out, rfl, Near.of_below HB1.out, .inl rfl⟩
 ·have g1 : (sg == 0) = false := by rw [← hsg, beq_eq_false_iff_ne]; exact fun h => h0 (qsign_zero_iff.1 h)
  have HE : Hid (L = vals zs ++ [(a, q)]) := by show _ = _; rw [← hL]; exact if_neg h0
  clear hL
  clear h hb hq hk hk2 ha hl b0 hx0 hsg h0
  go_enter Tryz.func87, Tryz.ntmps87
  have e0 := HX.out.c0
  have e1 := HX.out.c1
  have e2 := HX.out.c2
  have e3 := HX.out.c3
  go_upto_region 1 with fail
  clear hW0
  go_wp2_with fail
  refine (Q.P.sign_q HQ.out HK.out.1 HK.out.2 sg HSG.out).mono ?_
  rintro e w1 ⟨rfl, hb1⟩
  have HZ1 := lh (HZ.out.below hb1)
  have HB1 := lh (below_on HB.out hb1)
  have HQ1 := lh (HQ.out.below hb1)
  have HX1 := lh (HX.out.below hb1)
  clear hb1 e0 e1 e2 e3
  have e0 := HX1.out.c0
  have e1 := HX1.out.c1
  have e2 := HX1.out.c2
  have e3 := HX1.out.c3
  go_wp2_with fail
  refine (Q.P.norm_q HQ1.out HK.out.1 HK.out.2).mono ?_
  rintro e w2 ⟨s8, A8, n8, c8, t8, B8, m8, d8, rfl, h8, hb8⟩
  have HZ2 := lh (HZ1.out.below hb8)
  have HB2 := lh (below_on HB1.out hb8)
  have HO2 := lh h8
  clear h8 hb8 e0 e1 e2 e3
  obtain ⟨W3, hW3⟩ : ∃ V, w2.alloc (.cells #[.int .i64 a, .bool s8, .slice A8 n8 c8, .bool t8, .slice B8 m8 d8] 67) = V := ⟨_, rfl⟩
  have hb3 : Below w2.heap.size w2 W3 := by rw [← hW3]; exact (bR _ _).alloc (lR _) _
  have hr3 : W3.heap[w2.heap.size]? = some (.cells #[.int .i64 a, .bool s8, .slice A8 n8 c8, .bool t8, .slice B8 m8 d8] 67 (0, 0)) := by rw [← hW3]; exact heap_alloc_new w2 _
  have HZ3 := lh (HZ2.out.below hb3)
  have HB3 := lh (below_on HB2.out hb3)
  have HO3 := lh (HO2.out.below hb3)
  have HR3 : Hid (∀ j u, (⟨a, s8, A8, n8, c8, t8, B8, m8, d8⟩ : TV).enc[j]? = some u → W3.cell? ((⟨w2.heap.size, 0, none⟩ : Addr).add j) = some u) := by
   intro j u hj
   rw [add_flat, Nat.zero_add, cell_of_row _ _ j _ _ _ hr3]
   simpa [TV.enc] using hj
  clear hb3 hr3
  go_wp2_with (at_builtin; refine wpList_appU rfl (.tmp 11) (.tmp 16) rfl base (.slice A0 n0 c0) (zs.map Prod.fst) ⟨a, s8, A8, n8, c8, t8, B8, m8, d8⟩ ⟨w2.heap.size, 0, none⟩ rfl rfl HZ3.out.own HR3.out (by rw [List.length_map]; exact HLL.out) (Nat.le_trans HBS.out HB3.out.size) ?_)
  rintro v' w4 h4 hg hbk
  obtain ⟨A', n', c', rfl⟩ := h4.some_
  have hgr : Grown W3 w4 (.slice A0 n0 c0) := Near.of_grown hg
  have HRET : Hid (RetP w base (.slice A0 n0 c0) L (.returned (.slice A' n' c')) w4) := by
   refine ⟨A', n', c', zs ++ [((⟨a, s8, A8, n8, c8, t8, B8, m8, d8⟩ : TV), q)], rfl, ⟨by rw [List.map_append]; exact h4, fun y hy => ?_⟩, ?_, (Near.of_below HB3.out).trans hgr, ?_⟩
   ·rcases List.mem_append.1 hy with hy | hy
    ·exact ⟨one_near (HZ3.out.one y hy).1 (own_nodig HZ3.out) hgr, (HZ3.out.one y hy).2⟩
    ·obtain rfl := List.mem_singleton.1 hy
     exact ⟨one_near HO3.out (own_nodig HZ3.out) hgr, HA.out⟩
   ·rw [HE.out]
    unfold vals
    rw [List.map_append]
    rfl
   ·rcases hbk with h | h
    ·exact .inl h
    ·exact .inr ⟨_, h, HB3.out.size⟩
  clear h4 hg hbk hgr hW3
  go_wp2_with fail
  exact ⟨rfl, .slice A' n' c', by simp [results, Tryz.results87, go_sem], HRET.out⟩
theorem OwnZ.ret {w wx : World} {base : Nat} {A : Option Addr} {n c : Nat} {zs : List (TV × Rat)} {F : Int → Rat} {p m L : Nat} (h : OwnZ wx base (.slice A n c) zs) (hp : Is F (vals zs)) (hF : Fn p m L F) (hp7 : p ≤ 700) (hm7 : m ≤ 700) (hB : Below w.heap.size w wx) : RetC w F (.returned (.slice A n c)) wx := by
 have hk : ∀ y ∈ zs, ql y.2 ≤ 700 := fun y hy => is_ql hp hF hp7 hm7 (y.1.at_, y.2) (List.mem_map.2 ⟨y, hy, rfl⟩)
 refine ⟨A, n, c, rfl, ?_, hB⟩
 rcases h.own.row.2 with ⟨e, h0⟩ | ⟨g, cap, cur, e, _, hgc, hnc, hcm, hcs, htake⟩
 ·obtain ⟨rfl, rfl, rfl⟩ : A = none ∧ n = 0 ∧ c = 0 := by simpa using e
  have hz : zs = [] := by rw [List.length_map] at h0; exact List.eq_nil_of_length_eq_zero h0
  subst hz
  exact ⟨⟨[], IsV.nil _ _ _ _, hp, (fun _ h => by cases h)⟩, fun a ha => by cases ha⟩
 ·obtain ⟨rfl, rfl, rfl⟩ : A = some ⟨g, 0, none⟩ ∧ n = (zs.map Prod.fst).length ∧ c = cap := by simpa using e
  have hown : OwnT wx 0 (.slice (some ⟨g, 0, none⟩) (zs.map Prod.fst).length c) (zs.map Prod.fst) := ⟨⟨h.own.row.1, .inr ⟨g, c, cur, rfl, Nat.zero_le _, hgc, hnc, hcm, hcs, htake⟩⟩, h.own.all, _, _, _, rfl⟩
  exact ⟨⟨zs, own_isv hown h.one hk, hp, fun y hy => (h.one y hy).1⟩, fun a ha => by obtain rfl := Option.some.inj ha; exact lt_of_block hgc⟩
structure New (w wx : World) (v : Value) : Prop where
 bel : Below w.heap.size w wx
 new : ∀ g, v.ownBlock = some g → w.heap.size ≤ g
theorem New.step {w wx wy : World} {v v' : Value} (h : New w wx v) (hg : Grown wx wy v) (hb : v'.ownBlock = v.ownBlock ∨ ∃ g, v'.ownBlock = some g ∧ wx.heap.size ≤ g) : New w wy v' :=
 ⟨hg.new h.bel (fun b hb => h.new b hb.symm), fun g hg2 => by
  rcases hb with hb | ⟨g', hb, hl⟩
  ·exact h.new g (hb ▸ hg2)
  ·rw [hb] at hg2
   obtain rfl := Option.some.inj hg2
   exact Nat.le_trans h.bel.size hl⟩
end V

namespace Q
set_option maxRecDepth 100000
set_option maxHeartbeats 2000000
open Go.RowKit
structure Raw (w : World) (A : Option Addr) (n c : Nat) (B : Option Addr) (m d : Nat) (xs ys : List Nat) : Prop where
 en : n = xs.length
 em : m = ys.length
 x : Num w A xs
 y : Num w B ys
 cap : n ≤ c
 cap2 : m ≤ d
section
variable {w w' V : World} {A B : Option Addr} {n c m d g : Nat} {xs ys : List Nat} {s' t' : Bool} {A' B' : Option Addr} {n' c' m' d' : Nat} {o : Obj}
theorem Raw.below (h : Raw w A n c B m d xs ys) (hb : Below w.heap.size w w') : Raw w' A n c B m d xs ys := ⟨h.en, h.em, h.x.below hb, h.y.below hb, h.cap, h.cap2⟩
theorem Raw.alloc (h : Raw w A n c B m d xs ys) (o : Obj) : Raw (w.alloc o) A n c B m d xs ys := h.below ((bR _ _).alloc (lR _) o)
theorem Raw.drew (h : Raw w A n c B m d xs ys) : Raw w.drew A n c B m d xs ys := h.below ((bR _ _).drew)
theorem num_on4 {xs : List Nat} {A : Option Addr} (h : Num w A xs) (b : Box w g) : Num (put4 w g s' A' n' c' t' B' m' d') A xs := Num.set (Num.set (Num.set (Num.set h b _ _) (bx2 b) _ _) b.on2 _ _) b.three _ _
theorem Raw.pt {s0 t0 : Bool} {A0 B0 : Option Addr} {n0 c0 m0 d0 : Nat} (h : Raw w A n c B m d xs ys) (b : Qbx w g s0 A0 n0 c0 t0 B0 m0 d0) (e : put4 w g s' A' n' c' t' B' m' d' = V) : Raw V A n c B m d xs ys := by
 subst e; exact ⟨h.en, h.em, num_on4 h.x b.bx, num_on4 h.y b.bx, h.cap, h.cap2⟩
end
theorem IsQ.raw {w : World} {s t : Bool} {A B : Option Addr} {n c m d k : Nat} {q : Rat} (h : IsQ w s A n c t B m d q k) : ∃ xs ys, Raw w A n c B m d xs ys := by
 obtain ⟨xs, ys, h1, h2, h3, h4, h5⟩ := h.ex
 exact ⟨xs, ys, h1, h2, h3, h4, h.cap, h.cap2⟩
def RetCQ (w : World) (s : Bool) (n : Nat) (t : Bool) (m : Nat) (xs ys : List Nat) (e : Ending) (w' : World) : Prop :=
 ∃ A c B d, e = .returned (.agg #[.bool s, .slice A n c, .bool t, .slice B m d]) ∧ Raw w' A n c B m d xs ys ∧ Below w.heap.size w w'
theorem copy_q {w : World} {s t : Bool} {A B : Option Addr} {n c m d : Nat} {xs ys : List Nat} (h : Raw w A n c B m d xs ys) (hA : A = none → c = 0) (hB : B = none → d = 0) (hn : n ≤ 1000) (hm : m ≤ 1000) :
  Calls tz 77 #[.agg #[.bool s, .slice A n c, .bool t, .slice B m d]] w (RetCQ w s n t m xs ys) := by
 have HS := lh (S1.start w s A n c t B m d)
 have HR := lh ((h.alloc (.cells #[.bool s, .slice A n c, .bool t, .slice B m d] 27)).alloc (.cells #[.bool false, .slice none 0 0, .bool false, .slice none 0 0] 27))
 have HC1 : Hid (∀ W : World, Num W A xs → Calls tz 129 #[.slice A n c] W (RetCW W xs)) := by
  intro W hW; rw [h.en]; exact copyw_any W A c xs hW hA (by have := h.en; omega)
 have HC2 : Hid (∀ W : World, Num W B ys → Calls tz 129 #[.slice B m d] W (RetCW W ys)) := by
  intro W hW; rw [h.em]; exact copyw_any W B d ys hW hB (by have := h.em; omega)
 have HEN := lh h.en
 have HEM := lh h.em
 clear h hA hB hn hm
 go_enter Tryz.func77, Tryz.ntmps77
 go_upto_region 1 with fail
 go_region_held3 (fun V => V.cell? ⟨w.heap.size, 0, none⟩ = some (.bool s) ∧ V.cell? ⟨w.heap.size, 1, none⟩ = some (.slice A n c) ∧ V.cell? ⟨w.heap.size, 2, none⟩ = some (.bool t) ∧ V.cell? ⟨w.heap.size, 3, none⟩ = some (.slice B m d))
  (first | (have a1 := HSb.out.i.put4_far (g' := w.heap.size + 1) (s' := s) (A' := A8) (n' := n) (c' := c8) (t' := t) (B' := B8) (m' := m) (d' := d8) (by omega); with_reducible exact ⟨a1.c0, a1.c1, a1.c2, a1.c3⟩) | (with_reducible exact ⟨HSb.out.i.c0, HSb.out.i.c1, HSb.out.i.c2, HSb.out.i.c3⟩) | (with_reducible exact ⟨HSa.out.i.c0, HSa.out.i.c1, HSa.out.i.c2, HSa.out.i.c3⟩) | (with_reducible exact ⟨HS.out.drew.i.c0, HS.out.drew.i.c1, HS.out.drew.i.c2, HS.out.drew.i.c3⟩))
  (first
  | (go_at_call 129; (with_reducible refine (HC2.out _ HRa.out.y).mono ?_); rintro e wb ⟨B8, d8, rfl, hd8, h8, hbb⟩; rw [← HEM.out]; have HSb := lh (HSa.out.below hbb); have HXb := lh (HXa.out.below hbb); have HYb := lh h8; have HDb := lh hd8; have o0 := HSb.out.o.c0; have o1 := HSb.out.o.c1; have o2 := HSb.out.o.c2; have o3 := HSb.out.o.c3; have f0 := HSb.out.o.f 0; have f1 := HSb.out.o.f 1; have f2 := HSb.out.o.f 2; have f3 := HSb.out.o.f 3)
  | (go_at_call 129; (with_reducible refine (HC1.out _ HR.out.drew.x).mono ?_); rintro e wa ⟨A8, c8, rfl, hc8, h7, hba⟩; rw [← HEN.out]; have HSa := lh (HS.out.drew.below hba); have HRa := lh (HR.out.drew.below hba); have HXa := lh h7; have HCa := lh hc8))
 all_goals
  go_wp2_with fail
  refine bodyPost_ret (v := .agg #[.bool s, .slice A8 n c8, .bool t, .slice B8 m d8]) (by simp [results, Tryz.results77, go_sem, o0, o1, o2, o3]) rfl ?_
  exact ⟨A8, c8, B8, d8, rfl, ⟨HEN.out, HEM.out, num_on4 HXb.out HSb.out.o.bx, num_on4 HYb.out HSb.out.o.bx, HEN.out ▸ HCa.out, HEM.out ▸ HDb.out⟩, below_put4 HSb.out.bel (by omega)⟩
theorem int_raw {w : World} {s : Bool} {A B : Option Addr} {n c d : Nat} {xs : List Nat} (h1 : Num w A xs) (h2 : Num w B xs) (hn : n = xs.length) (hl : n ≤ 100000) :
  Calls tz 93 #[.agg #[.bool s, .slice A n c], .agg #[.bool s, .slice B n d]] w (RetB w true) := by
 have HP := lh (PI.start w s A n c s B n d)
 have HC : Hid (Calls tz 146 #[.slice A n c, .slice B n d] ((w.alloc (.cells #[.bool s, .slice A n c] 25)).alloc (.cells #[.bool s, .slice B n d] 25)) (RetB ((w.alloc (.cells #[.bool s, .slice A n c] 25)).alloc (.cells #[.bool s, .slice B n d] 25)) true)) := by
  show Calls _ _ _ _ _
  subst hn
  exact same_yes _ A B c d xs ((h1.alloc _).alloc _) ((h2.alloc _).alloc _) (by omega)
 have b1 : (s == s) = true := by cases s <;> rfl
 clear h1 h2 hn hl
 go_enter Tryz.func93, Tryz.ntmps93
 go_wp2_with fail
 refine HC.out.mono ?_
 rintro e w1 ⟨rfl, hb1⟩
 have HB := lh (below_on HP.out.bel hb1)
 clear hb1
 go_wp2_with fail
 go_ret
 exact ⟨rfl, HB.out⟩
theorem rat_raw {w : World} {s t : Bool} {A B A' B' : Option Addr} {n c m d c' d' : Nat} {xs ys : List Nat} (h1 : Raw w A n c B m d xs ys) (h2 : Raw w A' n c' B' m d' xs ys) (hn : n ≤ 100000) (hm : m ≤ 100000) :
  Calls tz 28 #[.agg #[.bool s, .slice A n c, .bool t, .slice B m d], .agg #[.bool s, .slice A' n c', .bool t, .slice B' m d']] w (RetB w true) := by
 have HP := lh (P2.start w s A n c t B m d s A' n c' t B' m d')
 have HR1 := lh ((h1.alloc (.cells #[.bool s, .slice A n c, .bool t, .slice B m d] 27)).alloc (.cells #[.bool s, .slice A' n c', .bool t, .slice B' m d'] 27))
 have HR2 := lh ((h2.alloc (.cells #[.bool s, .slice A n c, .bool t, .slice B m d] 27)).alloc (.cells #[.bool s, .slice A' n c', .bool t, .slice B' m d'] 27))
 have HN := lh hn
 have HM := lh hm
 clear h1 h2 hn hm
 go_enter Tryz.func28, Tryz.ntmps28
 go_wp2_with fail
 refine (int_raw HR1.out.x HR2.out.x HR1.out.en HN.out).mono ?_
 rintro e w1 ⟨rfl, hb1⟩
 have HP1 := lh (HP.out.below hb1)
 have HB1 := lh (HR1.out.below hb1)
 have HB3 := lh (HR2.out.below hb1)
 clear hb1
 have k2 := HP1.out.i1.c2
 have k3 := HP1.out.i1.c3
 have j2 := HP1.out.i2.c2
 have j3 := HP1.out.i2.c3
 go_wp2_with fail
 refine (int_raw HB1.out.y HB3.out.y HB1.out.em HM.out).mono ?_
 rintro e w2 ⟨rfl, hb2⟩
 have HW := lh (below_on HP1.out.bel hb2)
 clear hb2
 go_wp2_with fail
 go_ret
 exact ⟨rfl, HW.out⟩
structure T2 (w wx : World) (sa : Bool) (Aa : Option Addr) (na ca : Nat) (ta : Bool) (Ba : Option Addr) (ma da : Nat) (sb : Bool) (Ab : Option Addr) (nb cb : Nat) (tb : Bool) (Bb : Option Addr) (mb db : Nat) (xa ya xb yb : List Nat) (y z : Int) (p r : Rat) : Prop where
 bel : Below w.heap.size w wx
 i1 : Qbx wx w.heap.size sa Aa na ca ta Ba ma da
 i2 : Qbx wx (w.heap.size + 1) sb Ab nb cb tb Bb mb db
 a : IsQ wx sa Aa na ca ta Ba ma da p 5
 b : IsQ wx sb Ab nb cb tb Bb mb db r 5
 ra : Raw wx Aa na ca Ba ma da xa ya
 rb : Raw wx Ab nb cb Bb mb db xb yb
 zn : IsZ wx sa Aa na ca y 5
 zd : IsZ wx ta Ba ma da z 5
section
variable {w wx wy V : World} {sa : Bool} {Aa : Option Addr} {na ca : Nat} {ta : Bool} {Ba : Option Addr} {ma da : Nat} {sb : Bool} {Ab : Option Addr} {nb cb : Nat} {tb : Bool} {Bb : Option Addr} {mb db : Nat} {xa ya xb yb : List Nat} {y z : Int} {p r : Rat} {g : Nat} {s1 t1 s3 t3 : Bool} {A1 B1 A3 B3 : Option Addr} {n1 c1 m1 d1 n3 c3 m3 d3 : Nat} {o : Obj}
end
section
variable {wx V : World} {g g1 : Nat} {s0 t0 s1 t1 : Bool} {A0 B0 A1 B1 : Option Addr} {n0 c0 m0 d0 n1 c1 m1 d1 : Nat}
theorem Qbx.pt (h : Qbx wx g s0 A0 n0 c0 t0 B0 m0 d0) (e : put4 wx g s1 A1 n1 c1 t1 B1 m1 d1 = V) : Qbx V g s1 A1 n1 c1 t1 B1 m1 d1 := by subst e; exact h.put
end
section
variable {w wx wy : World} {gx gy gq : Nat} {sa : Bool} {Aa : Option Addr} {na ca : Nat} {ta : Bool} {Ba : Option Addr} {ma da : Nat} {sb : Bool} {Ab : Option Addr} {nb cb : Nat} {tb : Bool} {Bb : Option Addr} {mb db : Nat} {xa ya xb yb : List Nat} {y z : Int} {p r u : Rat} {Ax : Option Addr} {cx : Nat} {Bx : Option Addr} {dx : Nat} {Ay : Option Addr} {cy : Nat} {By : Option Addr} {dy : Nat} {sq : Bool} {Aq : Option Addr} {nq cq : Nat} {tq : Bool} {Bq : Option Addr} {mq dq : Nat}
end
theorem OneQ.len {w : World} {s t : Bool} {A B : Option Addr} {n c m d : Nat} {q : Rat} (h : OneQ w s A n c t B m d q) : ((m : Int) == 0) = decide (q.den = 1) := by
 have e := h.em
 unfold dden at e
 by_cases hd : q.den = 1
 ·rw [if_pos hd] at e
  rw [e, decide_eq_true hd]; rfl
 ·rw [if_neg hd] at e
  have hne : (dig q.den).length ≠ 0 := fun h2 => q.den_nz (dig_nil_iff.1 h2)
  rw [decide_eq_false hd, beq_eq_false_iff_ne]
  omega
