/- Part 7 of the proof: WholeG, WholeNorm, WholeNeg, WholeAbs, WholeMul, WholeGcd, WholeH, WholeI, RVal. -/
import Derived.Test.YthjiacmhhpfokaaGreatK6
namespace Go.Proofs.YthjiacmhhpfokaaGreat
open Lib renaming hid → lh
open Go.Proofs.Tryz renaming prog → tz
open Nat renaming le_refl → lR, le_trans → lT
open Go.RowKit.Below renaming refl → bR
section
open Go.RowKit
set_option maxRecDepth 10000 in
set_option maxHeartbeats 4000000 in
theorem zdivmod_any (w : World) (s t : Bool) (A B : Option Addr) (c d : Nat) (xs ys : List Nat) (y z : Int) (ha : Num w A xs) (hb : Num w B ys) (hx : zv s (val xs) = y) (hy : zv t (val ys) = z) (hn : xs.length ≤ 400000) (hm : ys.length ≤ 400000) (hc : xs.length ≤ c) (hd : ys.length ≤ d) :
  Calls tz 201 #[.agg #[.bool s, .slice A xs.length c], .agg #[.bool t, .slice B ys.length d]] w (RetZZ w (y / z) (zrem y z)) := by
 have hd1 := dig_length_val ha.1
 have hd2 := dig_length_val hb.1
 obtain ⟨a, hva⟩ : ∃ a, val xs = a := ⟨_, rfl⟩
 obtain ⟨b, hvb⟩ : ∃ b, val ys = b := ⟨_, rfl⟩
 rw [hva] at hd1 hx
 rw [hvb] at hd2 hy
 have HA := lh ha
 have HB := lh hb
 have HVA := lh hva
 have HVB := lh hvb
 obtain ⟨hzq, hzr⟩ := zdm_eq s t a b
 rw [hx, hy] at hzq hzr
 have HZQ := lh hzq
 have HZR := lh hzr
 have hqlen := dq_len s a b
 have hrlen := dr_len s a b
 have hql : (dig (dq s a b)).length ≤ 8589934592 := by omega
 have hrl : (dig (dr s a b)).length ≤ 8589934592 := by omega
 have hml : (dig (dmr a b)).length ≤ 1000000 := by
  have h : dmr a b ≤ a := by unfold dmr; have := Nat.mod_le a b; split <;> omega
  have := dl_le h
  omega
 have hmq : (dig (dmq a b)).length ≤ 1000000 := by
  have := dl_le (show dmq a b ≤ a from Nat.div_le_self a b)
  omega
 clear ha hb hx hy hva hvb hzq hzr hqlen hrlen
 go_enter Tryz.func201, Tryz.ntmps201
 go_wp2_with fail
 have HW := lh (show Below w.heap.size w ((((w.alloc (.cells #[.bool s, .slice A xs.length c] 25)).alloc (.cells #[.bool t, .slice B ys.length d] 25)).alloc (.cells #[.bool false, .slice none 0 0] 25)).alloc (.cells #[.bool false, .slice none 0 0] 25)) from
  ((((bR _ _).alloc (lR _) _).alloc (by simp) _).alloc (by simp; omega) _).alloc (by simp; omega) _)
 have HC4 := lh (((C4.base w (.bool s) (.slice A xs.length c) (.bool t) (.slice B ys.length d) 25 25).alloc (.cells #[.bool false, .slice none 0 0] 25)).alloc (.cells #[.bool false, .slice none 0 0] 25))
 have HG1 := lh (show Ibx ((((w.alloc (.cells #[.bool s, .slice A xs.length c] 25)).alloc (.cells #[.bool t, .slice B ys.length d] 25)).alloc (.cells #[.bool false, .slice none 0 0] 25)).alloc (.cells #[.bool false, .slice none 0 0] 25)) (w.heap.size + 1 + 1) false none 0 0 from (Ibx.new' _ _ _ _ _ _ (by simp)).alloc _)
 have HG2 := lh (show Ibx ((((w.alloc (.cells #[.bool s, .slice A xs.length c] 25)).alloc (.cells #[.bool t, .slice B ys.length d] 25)).alloc (.cells #[.bool false, .slice none 0 0] 25)).alloc (.cells #[.bool false, .slice none 0 0] 25)) (w.heap.size + 1 + 1 + 1) false none 0 0 from Ibx.new' _ _ _ _ _ _ (by simp))
 have HDM := lh (dm_v ((((w.alloc (.cells #[.bool s, .slice A xs.length c] 25)).alloc (.cells #[.bool t, .slice B ys.length d] 25)).alloc (.cells #[.bool false, .slice none 0 0] 25)).alloc (.cells #[.bool false, .slice none 0 0] 25)) A B c d xs ys a b ((((HA.out.alloc _).alloc _).alloc _).alloc _) ((((HB.out.alloc _).alloc _).alloc _).alloc _) HVA.out HVB.out (by omega) (by omega) hc hd)
 refine HDM.out.mono ?_
 rintro e w1 ⟨Aq, cq, Ar, cr, rfl, hcq, hcr, hq, hr, hb1⟩
 have HC1 := lh (C4.below hb1 HC4.out)
 have G11 := lh (HG1.out.below hb1)
 have G21 := lh (HG2.out.below hb1)
 have HW1 := lh (HW.out.trans (hb1.mono HW.out.size))
 have HQ := lh hq
 have HR := lh hr
 have HNB := lh (((((HB.out.alloc _).alloc _).alloc _).alloc _ : Num ((((w.alloc (.cells #[.bool s, .slice A xs.length c] 25)).alloc (.cells #[.bool t, .slice B ys.length d] 25)).alloc (.cells #[.bool false, .slice none 0 0] 25)).alloc (.cells #[.bool false, .slice none 0 0] 25)) B ys).below hb1)
 clear hb1 hq hr HDM HW HC4 HG1 HG2
 have HBI := lh (bits_any w1 Ar cr (dig (dmr a b)) HR.out (by omega) hcr)
 rw [val_dig] at HBI
 go_upto_region 2 with fail
 obtain ⟨k0, k1, k2, k3⟩ := HC1.out
 by_cases hs : s = true ∧ 0 < dmr a b
 ·obtain ⟨hs1, hs2⟩ := hs
  have hdq : dmq a b + 1 = dq s a b := by unfold dq; rw [if_pos ⟨hs1, hs2⟩]
  have hdr : b - dmr a b = dr s a b := by unfold dr; rw [if_pos ⟨hs1, hs2⟩]
  have hbp := blen_pos (Nat.pos_iff_ne_zero.1 hs2)
  have hbd : decide ((0 : Int) < ((blen (dmr a b) : Nat) : Int)) = true := decide_eq_true (by omega)
  have hbp' : (0 : Int) < ((blen (dmr a b) : Nat) : Int) := by omega
  have HDQ := lh hdq
  have HDR := lh hdr
  clear hdq hdr hs2 hbp
  subst hs1
  rw [Bool.true_bne] at HZQ
  go_wp2_with fail
  refine HBI.out.mono ?_
  rintro e w' ⟨rfl, rfl⟩
  have HL1 : Hid (Num (w1.alloc (.cells #[.int .u64 1] 164)) (some ⟨w1.heap.size, 0, none⟩) [1]) := (Blk.lit1' w1 1).num (Digs.cons (by rw [B64_eq]; omega) Digs.nil)
  go_upto_region 3 with fail
  go_region_held3 (fun W => W.cell? ⟨w.heap.size, 0, none⟩ = some (.bool true) ∧ W.cell? ⟨w.heap.size, 1, none⟩ = some (.slice A xs.length c) ∧ W.cell? ⟨w.heap.size + 1, 0, none⟩ = some (.bool t) ∧ W.cell? ⟨w.heap.size + 1, 1, none⟩ = some (.slice B ys.length d))
   (first | exact C4.below hb4 (by assumption) | exact C4.below hb3 (by assumption) | exact C4.alloc (by assumption) _ | exact C4.drew HC1.out | assumption)
   (first
   | (go_at_call 173; refine (add_v _ Aq (some ⟨w1.heap.size, 0, none⟩) cq 1 (dig (dmq a b)) [1] (dmq a b) 1 ?_ ?_ (val_dig _) (by rw [val_cons, val_nil, Nat.mul_zero]) (by omega) (by simp) hcq (by simp)).mono ?_; (focus (repeat (first | exact HQ.out | (with_reducible refine Num.drew ?_) | (with_reducible refine Num.alloc ?_ _)))); (repeat (first | exact HL1.out | (with_reducible refine Num.drew ?_))); rintro e w3 ⟨A3, c3, rfl, hc3, h3, hb3⟩)
   | (go_at_call 175; refine (sub_v w3 B Ar d cr ys (dig (dmr a b)) b (dmr a b) ?_ ?_ HVB.out (val_dig _) (by omega) (by omega) hd hcr).mono ?_; (refine Num.below ?_ hb3); (repeat (first | exact HNB.out | (with_reducible refine Num.drew ?_) | (with_reducible refine Num.alloc ?_ _))); (refine Num.below ?_ hb3); (repeat (first | exact HR.out | (with_reducible refine Num.drew ?_) | (with_reducible refine Num.alloc ?_ _))); rintro e w4 ⟨A4, c4, rfl, hc4, h4, hb4⟩))
  all_goals
   rw [HDQ.out] at hc3 h3
   rw [HDR.out] at hc4 h4
   have hqc := hc3
   have hrc := hc4
   have hL : DivAt w true t A B xs.length ys.length c d A3 A4 (dq true a b) (dr true a b) w4 := by
    have b1 : Below w1.heap.size w1 (w1.alloc (.cells #[.int .u64 1] 164)).drew := ((bR _ _).alloc (lR _) _).drew
    have b3 := b1.trans (hb3.mono (lT b1.size (lR _)))
    have b4 := b3.trans (hb4.mono b3.size)
    exact ⟨C4.below b4 HC1.out, G11.out.below b4, G21.out.below b4, h3.below hb4, h4, HW1.out.trans (b4.mono HW1.out.size)⟩
   rw [HDQ.out, HDR.out]
   clear hc3 h3 hc4 h4 hb3 hb4
   have HL := lh hL
   obtain ⟨k0, k1, k2, k3⟩ := hL.c4
   clear hL
   go_wp2_with fail
   refine (signOf_any _ _).mono ?_
   rintro e w5 ⟨rfl, hw5⟩
   have hp5 : w4.heap.size < w5.heap.size := by rw [hw5]; simp
   have S5 : Sbx w5 w4.heap.size (!t) := by rw [hw5]; exact Sbx.new' _ _ _ rfl
   have B5 : Below w4.heap.size w4 w5 := by rw [hw5]; exact (bR _ _).alloc (lR _) _
   clear hw5
   have N5 := lh (number_at w w5 w5 w4.heap.size (w.heap.size + 1 + 1) c3 (dq true a b) (!t) false A3 none 0 0 S5 (HL.out.g1.below B5) (HL.out.bel.trans (B5.mono HL.out.bel.size)) (bR _ _) (HL.out.q.below B5) hql hqc)
   have R5 := lh (HL.out.r.below B5)
   have G5 := lh (HL.out.g2.below B5)
   clear S5 B5
   go_wp2_with fail
   refine N5.out.mono ?_
   rintro e w6 ⟨rfl, n6, I6, hb6, hb56⟩
   have N6 := lh n6
   have G6 := lh I6
   have B6 := lh hb6
   have R6 := lh (R5.out.below hb56)
   have H6 := lh (G5.out.below hb56)
   clear n6 I6 hb6 hb56 N5 R5 G5 HL
   go_wp2_with fail
   refine (signOf_any _ _).mono ?_
   rintro e w7 ⟨rfl, hw7⟩
   have S7 : Sbx w7 w6.heap.size false := by rw [hw7]; exact Sbx.new' _ _ _ rfl
   have B7 : Below w6.heap.size w6 w7 := by rw [hw7]; exact (bR _ _).alloc (lR _) _
   clear hw7
   have N7 := lh (number_at w w7 w7 w6.heap.size (w.heap.size + 1 + 1 + 1) c4 (dr true a b) false false A4 none 0 0 S7 (H6.out.below B7) (B6.out.trans (B7.mono B6.out.size)) (bR _ _) (R6.out.below B7) hrl hrc)
   have Q7 := lh (N6.out.below B7)
   have F7 := lh (G6.out.below B7)
   clear S7 B7
   go_wp2_with fail
   refine N7.out.mono ?_
   rintro e w8 ⟨rfl, n8, I8, hb8, hb78⟩
   have J8 := F7.out.below hb78
   have c0 := I8.c0
   have c3' := I8.c1
   have f0 := I8.f 0
   have f1 := I8.f 1
   have e0 := J8.c0
   have e1 := J8.c1
   have h0 := J8.f 0
   have h1 := J8.f 1
   have Q8 := lh (Q7.out.below hb78)
   have N8 := lh n8
   have G8 := lh I8
   have K8 := lh J8
   have B8 := lh hb8
   clear n8 I8 J8 hb8 hb78 N7 Q7 F7 N6 G6 R6 H6 B6
   go_wp2_with fail
   refine bodyPost_ret (v := .tuple #[.agg #[.bool (zneg (zv (!t) (dq true a b))), .slice A3 (dig (dq true a b)).length c3], .agg #[.bool (zneg (zv false (dr true a b))), .slice A4 (dig (dr true a b)).length c4]]) (by simp [results, Tryz.results201, go_sem, c0, c3', e0, e1]) rfl ?_
   exact retzz_of HZQ.out HZR.out hqc hrc Q8.out N8.out K8.out G8.out (by omega) (by omega) (by omega) B8.out _ _ _ _
 ·have hdq : dmq a b = dq s a b := by unfold dq; rw [if_neg hs]
  have hdr : dmr a b = dr s a b := by unfold dr; rw [if_neg hs]
  rw [hdq]
  rw [hdr]
  rw [hdq] at HQ hcq hmq
  rw [hdr] at HR hcr hml HBI hs
  have hqc := hcq
  have hrc := hcr
  have hL : DivAt w s t A B xs.length ys.length c d Aq Ar (dq s a b) (dr s a b) w1 := ⟨HC1.out, G11.out, G21.out, HQ.out, HR.out, HW1.out⟩
  clear hdq hdr
  cases s with
  | false =>
   rw [Bool.false_bne] at HZQ
   clear hs
   have HL := lh hL
   obtain ⟨k0, k1, k2, k3⟩ := hL.c4
   clear hL
   go_wp2_with fail
   refine (signOf_any _ _).mono ?_
   rintro e w5 ⟨rfl, hw5⟩
   have hp5 : w1.heap.size < w5.heap.size := by rw [hw5]; simp
   have S5 : Sbx w5 w1.heap.size t := by rw [hw5]; exact Sbx.new' _ _ _ rfl
   have B5 : Below w1.heap.size w1 w5 := by rw [hw5]; exact (bR _ _).alloc (lR _) _
   clear hw5
   have N5 := lh (number_at w w5 w5 w1.heap.size (w.heap.size + 1 + 1) cq (dq false a b) t false Aq none 0 0 S5 (HL.out.g1.below B5) (HL.out.bel.trans (B5.mono HL.out.bel.size)) (bR _ _) (HL.out.q.below B5) hql hqc)
   have R5 := lh (HL.out.r.below B5)
   have G5 := lh (HL.out.g2.below B5)
   clear S5 B5
   go_wp2_with fail
   refine N5.out.mono ?_
   rintro e w6 ⟨rfl, n6, I6, hb6, hb56⟩
   have N6 := lh n6
   have G6 := lh I6
   have B6 := lh hb6
   have R6 := lh (R5.out.below hb56)
   have H6 := lh (G5.out.below hb56)
   clear n6 I6 hb6 hb56 N5 R5 G5 HL
   go_wp2_with fail
   refine (signOf_any _ _).mono ?_
   rintro e w7 ⟨rfl, hw7⟩
   have S7 : Sbx w7 w6.heap.size false := by rw [hw7]; exact Sbx.new' _ _ _ rfl
   have B7 : Below w6.heap.size w6 w7 := by rw [hw7]; exact (bR _ _).alloc (lR _) _
   clear hw7
   have N7 := lh (number_at w w7 w7 w6.heap.size (w.heap.size + 1 + 1 + 1) cr (dr false a b) false false Ar none 0 0 S7 (H6.out.below B7) (B6.out.trans (B7.mono B6.out.size)) (bR _ _) (R6.out.below B7) hrl hrc)
   have Q7 := lh (N6.out.below B7)
   have F7 := lh (G6.out.below B7)
   clear S7 B7
   go_wp2_with fail
   refine N7.out.mono ?_
   rintro e w8 ⟨rfl, n8, I8, hb8, hb78⟩
   have J8 := F7.out.below hb78
   have c0 := I8.c0
   have cq' := I8.c1
   have f0 := I8.f 0
   have f1 := I8.f 1
   have e0 := J8.c0
   have e1 := J8.c1
   have h0 := J8.f 0
   have h1 := J8.f 1
   have Q8 := lh (Q7.out.below hb78)
   have N8 := lh n8
   have G8 := lh I8
   have K8 := lh J8
   have B8 := lh hb8
   clear n8 I8 J8 hb8 hb78 N7 Q7 F7 N6 G6 R6 H6 B6
   go_wp2_with fail
   refine bodyPost_ret (v := .tuple #[.agg #[.bool (zneg (zv t (dq false a b))), .slice Aq (dig (dq false a b)).length cq], .agg #[.bool (zneg (zv false (dr false a b))), .slice Ar (dig (dr false a b)).length cr]]) (by simp [results, Tryz.results201, go_sem, c0, cq', e0, e1]) rfl ?_
   exact retzz_of HZQ.out HZR.out hqc hrc Q8.out N8.out K8.out G8.out (by omega) (by omega) (by omega) B8.out _ _ _ _
  | true =>
   rw [Bool.true_bne] at HZQ
   have h0 : dr true a b = 0 := Nat.eq_zero_of_not_pos fun h => hs ⟨rfl, h⟩
   have hbl0 : blen (dr true a b) = 0 := by rw [h0, blen_zero]
   rw [hbl0] at HBI
   clear hs h0 hbl0
   go_wp2_with fail
   refine HBI.out.mono ?_
   rintro e w' ⟨rfl, rfl⟩
   have HL := lh hL
   obtain ⟨k0, k1, k2, k3⟩ := hL.c4
   clear hL
   go_wp2_with fail
   refine (signOf_any _ _).mono ?_
   rintro e w5 ⟨rfl, hw5⟩
   have hp5 : w1.heap.size < w5.heap.size := by rw [hw5]; simp
   have S5 : Sbx w5 w1.heap.size (!t) := by rw [hw5]; exact Sbx.new' _ _ _ rfl
   have B5 : Below w1.heap.size w1 w5 := by rw [hw5]; exact (bR _ _).alloc (lR _) _
   clear hw5
   have N5 := lh (number_at w w5 w5 w1.heap.size (w.heap.size + 1 + 1) cq (dq true a b) (!t) false Aq none 0 0 S5 (HL.out.g1.below B5) (HL.out.bel.trans (B5.mono HL.out.bel.size)) (bR _ _) (HL.out.q.below B5) hql hqc)
   have R5 := lh (HL.out.r.below B5)
   have G5 := lh (HL.out.g2.below B5)
   clear S5 B5
   go_wp2_with fail
   refine N5.out.mono ?_
   rintro e w6 ⟨rfl, n6, I6, hb6, hb56⟩
   have N6 := lh n6
   have G6 := lh I6
   have B6 := lh hb6
   have R6 := lh (R5.out.below hb56)
   have H6 := lh (G5.out.below hb56)
   clear n6 I6 hb6 hb56 N5 R5 G5 HL
   go_wp2_with fail
   refine (signOf_any _ _).mono ?_
   rintro e w7 ⟨rfl, hw7⟩
   have S7 : Sbx w7 w6.heap.size false := by rw [hw7]; exact Sbx.new' _ _ _ rfl
   have B7 : Below w6.heap.size w6 w7 := by rw [hw7]; exact (bR _ _).alloc (lR _) _
   clear hw7
   have N7 := lh (number_at w w7 w7 w6.heap.size (w.heap.size + 1 + 1 + 1) cr (dr true a b) false false Ar none 0 0 S7 (H6.out.below B7) (B6.out.trans (B7.mono B6.out.size)) (bR _ _) (R6.out.below B7) hrl hrc)
   have Q7 := lh (N6.out.below B7)
   have F7 := lh (G6.out.below B7)
   clear S7 B7
   go_wp2_with fail
   refine N7.out.mono ?_
   rintro e w8 ⟨rfl, n8, I8, hb8, hb78⟩
   have J8 := F7.out.below hb78
   have c0 := I8.c0
   have cq' := I8.c1
   have f0 := I8.f 0
   have f1 := I8.f 1
   have e0 := J8.c0
   have e1 := J8.c1
   have h0 := J8.f 0
   have h1 := J8.f 1
   have Q8 := lh (Q7.out.below hb78)
   have N8 := lh n8
   have G8 := lh I8
   have K8 := lh J8
   have B8 := lh hb8
   clear n8 I8 J8 hb8 hb78 N7 Q7 F7 N6 G6 R6 H6 B6
   go_wp2_with fail
   refine bodyPost_ret (v := .tuple #[.agg #[.bool (zneg (zv (!t) (dq true a b))), .slice Aq (dig (dq true a b)).length cq], .agg #[.bool (zneg (zv false (dr true a b))), .slice Ar (dig (dr true a b)).length cr]]) (by simp [results, Tryz.results201, go_sem, c0, cq', e0, e1]) rfl ?_
   exact retzz_of HZQ.out HZR.out hqc hrc Q8.out N8.out K8.out G8.out (by omega) (by omega) (by omega) B8.out _ _ _ _
end

section
open Go.RowKit
set_option maxHeartbeats 2000000 in
theorem norm_any (w : World) (s : Bool) (A : Option Addr) (c : Nat) (xs : List Nat) (z : Int) (ha : Num w A xs) (hx : zv s (val xs) = z) (hn : xs.length ≤ 1000000) (hc : xs.length ≤ c) :
  Calls tz 134 #[.agg #[.bool s, .slice A xs.length c]] w (RetZ w (z)) := by
 have hd := dig_length_val ha.1
 have HA := Lib.hid ha
 obtain ⟨m, hm⟩ : ∃ m, val xs = m := ⟨_, rfl⟩
 have HM := Lib.hid hm
 rw [hm] at hd hx
 have HX : Hid (zv s m = z) := by
  show _ = _
  first | (rw [← hx]; done) | (rw [← hx]; cases s <;> simp [zv])
 clear ha hx hm
 go_enter Tryz.func134, Tryz.ntmps134
 go_wp2_with fail
 go_region_held3 (fun W => W.cell? ⟨w.heap.size, 0, none⟩ = some (.bool s) ∧ W.cell? ⟨w.heap.size, 1, none⟩ = some (.slice A xs.length c))
  (first | exact C2.alloc (by assumption) _ | exact C2.below hb34 (by assumption) | exact C2.below hb3 (by assumption) | exact C2.drew ((C2.base _ _ _ _).alloc _) | exact C2.far (C2.far (by assumption) (by first | (simp; done) | (simp; omega)) _) (by first | (simp; done) | (simp; omega)) _)
  (first
  | (go_at_call 167; (with_reducible refine (signOf_any _ _).mono ?_); rintro e w1 ⟨rfl, rfl⟩)
  | (go_at_call 168; (with_reducible refine (trim_v _ A c xs m ?_ HM.out hn hc).mono ?_); (repeat (first | exact HA.out | (with_reducible refine Num.drew ?_) | (with_reducible refine Num.alloc ?_ _))); rintro e w3 ⟨A3, c3, rfl, hc3, ha3, hb3⟩)
  | (go_at_call 166; refine (number_at w _ w3 _ (w.heap.size + 1) c3 m s false A3 none 0 0 ?_ ?_ ?_ hb3 ha3 (by omega) hc3).mono ?_; (repeat (first | exact Sbx.new' _ _ _ (by simp) | (with_reducible refine Sbx.drew ?_) | (with_reducible refine Sbx.alloc ?_ _))); (repeat (first | exact Ibx.new' _ _ _ _ _ _ (by simp) | (with_reducible refine Ibx.drew ?_) | (with_reducible refine Ibx.alloc ?_ _))); (repeat (first | exact bR _ _ | (with_reducible refine Below.drew ?_) | (with_reducible refine Below.alloc ?_ (by first | exact lR _ | (simp; done) | (simp; omega)) _))); rintro e w4 ⟨rfl, n4, I4, hb4, hb34⟩; have c0 := I4.c0; have c1 := I4.c1; have f0 := I4.f 0; have f1 := I4.f 1))
 all_goals
  go_wp2_with fail
  refine bodyPost_ret (v := .agg #[.bool (zneg (zv s m)), .slice A3 (dig m).length c3]) (by simp [results, Tryz.results134, go_sem, c0, c1]) rfl ?_
  exact retz_of HX.out hc3 n4 I4 (by omega) hb4 _ _ rfl
end

section
open Go.RowKit
end

section
open Go.RowKit
end

section
open Go.RowKit
set_option maxHeartbeats 4000000 in
theorem zmul_any (w : World) (s t : Bool) (A B : Option Addr) (c d : Nat) (xs ys : List Nat) (y z : Int) (ha : Num w A xs) (hb : Num w B ys) (hx : zv s (val xs) = y) (hy : zv t (val ys) = z) (hn : xs.length ≤ 400000) (hm : ys.length ≤ 400000) (hc : xs.length ≤ c) (hd : ys.length ≤ d) :
  Calls tz 141 #[.agg #[.bool s, .slice A xs.length c], .agg #[.bool t, .slice B ys.length d]] w (RetZ w (y * z)) := by
 have hd1 := dig_length_val ha.1
 have hd2 := dig_length_val hb.1
 have HA := lh ha
 have HB := lh hb
 obtain ⟨a, hva⟩ : ∃ a, val xs = a := ⟨_, rfl⟩
 obtain ⟨b, hvb⟩ : ∃ b, val ys = b := ⟨_, rfl⟩
 rw [hva] at hd1 hx
 rw [hvb] at hd2 hy
 obtain ⟨m, hmm⟩ : ∃ m, m = a * b := ⟨_, rfl⟩
 have hdm : (dig m).length ≤ 8589934592 := by
  rw [hmm]; have := dl_mul a b; omega
 have HX : Hid (zv (s != t) m = y * z) := by
  show _ = _
  rw [hmm, ← hx, ← hy]
  cases s <;> cases t <;> simp [zv, Int.neg_mul, Int.mul_neg]
 have HMM := lh hmm
 have HVA := lh hva
 have HVB := lh hvb
 clear ha hb hx hy hva hvb hmm
 go_enter Tryz.func141, Tryz.ntmps141
 go_wp2_with fail
 go_region_held3 (fun W => W.cell? ⟨w.heap.size, 0, none⟩ = some (.bool s) ∧ W.cell? ⟨w.heap.size, 1, none⟩ = some (.slice A xs.length c) ∧ W.cell? ⟨w.heap.size + 1, 0, none⟩ = some (.bool t) ∧ W.cell? ⟨w.heap.size + 1, 1, none⟩ = some (.slice B ys.length d))
  (first | exact C4.alloc (by assumption) _ | exact C4.below hb34 (by assumption) | exact C4.below hb3 (by assumption) | exact C4.drew ((C4.base _ _ _ _ _ _ _).alloc _) | exact C4.far (C4.far (by assumption) (by first | (simp; done) | (simp; omega)) (by first | (simp; done) | (simp; omega)) _) (by first | (simp; done) | (simp; omega)) (by first | (simp; done) | (simp; omega)) _)
  (first
  | (go_at_call 167; (with_reducible refine (signOf_any _ _).mono ?_); rintro e w1 ⟨rfl, rfl⟩)
  | (go_at_call 178; (refine (mul_v _ A B c d xs ys a b ?_ ?_ HVA.out HVB.out (by omega) (by omega) hc hd).mono ?_); (repeat (first | exact HA.out | (with_reducible refine Num.drew ?_) | (with_reducible refine Num.alloc ?_ _))); (repeat (first | exact HB.out | (with_reducible refine Num.drew ?_) | (with_reducible refine Num.alloc ?_ _))); (rw [← HMM.out]); rintro e w3 ⟨A3, c3, rfl, hc3, ha3, hb3⟩)
  | (go_at_call 166; refine (number_at w _ w3 _ (w.heap.size + 1 + 1) c3 m (s != t) false A3 none 0 0 ?_ ?_ ?_ hb3 ha3 (by omega) hc3).mono ?_; (repeat (first | exact Sbx.new' _ _ _ (by simp) | (with_reducible refine Sbx.drew ?_) | (with_reducible refine Sbx.alloc ?_ _))); (repeat (first | exact Ibx.new' _ _ _ _ _ _ (by simp) | (with_reducible refine Ibx.drew ?_) | (with_reducible refine Ibx.alloc ?_ _))); (repeat (first | exact bR _ _ | (with_reducible refine Below.drew ?_) | (with_reducible refine Below.alloc ?_ (by first | exact lR _ | (simp; done) | (simp; omega)) _))); rintro e w4 ⟨rfl, n4, I4, hb4, hb34⟩; have c0 := I4.c0; have c1 := I4.c1; have f0 := I4.f 0; have f1 := I4.f 1))
 all_goals
  go_wp2_with fail
  refine bodyPost_ret (v := .agg #[.bool (zneg (zv (s != t) m)), .slice A3 (dig m).length c3]) (by simp [results, Tryz.results141, go_sem, c0, c1]) rfl ?_
  exact retz_of HX.out hc3 n4 I4 (by omega) hb4 _ _ rfl
end

section
open Go.RowKit
set_option maxHeartbeats 4000000 in
theorem zgcd_any (w : World) (s t : Bool) (A B : Option Addr) (c d : Nat) (xs ys : List Nat) (y z : Int) (ha : Num w A xs) (hb : Num w B ys) (hx : zv s (val xs) = y) (hy : zv t (val ys) = z) (hn : xs.length ≤ 400000) (hm : ys.length ≤ 400000) (hc : xs.length ≤ c) (hd : ys.length ≤ d)
  (HG : Hid (∀ W, Num W A xs → Num W B ys → Calls tz 200 #[.slice A xs.length c, .slice B ys.length d] W (RetN W (Nat.gcd (val xs) (val ys))))) :
  Calls tz 170 #[.agg #[.bool s, .slice A xs.length c], .agg #[.bool t, .slice B ys.length d]] w (RetZ w (((Nat.gcd y.natAbs z.natAbs : Nat) : Int))) := by
 have hd1 := dig_length_val ha.1
 have hd2 := dig_length_val hb.1
 have HA := lh ha
 have HB := lh hb
 obtain ⟨a, hva⟩ : ∃ a, val xs = a := ⟨_, rfl⟩
 obtain ⟨b, hvb⟩ : ∃ b, val ys = b := ⟨_, rfl⟩
 rw [hva] at hd1 hx
 rw [hvb] at hd2 hy
 obtain ⟨m, hmm⟩ : ∃ m, m = Nat.gcd a b := ⟨_, rfl⟩
 have hdm : (dig m).length ≤ 8589934592 := by
  have h0 : (dig m).length ≤ max (dig a).length (dig b).length := by
   rw [hmm]
   rcases Nat.eq_zero_or_pos a with h | h
   ·rw [h, Nat.gcd_zero_left]; exact Nat.le_max_right _ _
   ·exact lT (dl_le (Nat.gcd_le_left b h)) (Nat.le_max_left _ _)
  omega
 have HX : Hid (zv false m = ((Nat.gcd y.natAbs z.natAbs : Nat) : Int)) := by
  show _ = _
  rw [hmm, ← hx, ← hy]
  rw [zv_natAbs, zv_natAbs]; simp [zv]
 have HMM := lh hmm
 have HVA := lh hva
 have HVB := lh hvb
 clear ha hb hx hy hva hvb hmm
 go_enter Tryz.func170, Tryz.ntmps170
 go_wp2_with fail
 go_region_held3 (fun W => W.cell? ⟨w.heap.size, 0, none⟩ = some (.bool s) ∧ W.cell? ⟨w.heap.size, 1, none⟩ = some (.slice A xs.length c) ∧ W.cell? ⟨w.heap.size + 1, 0, none⟩ = some (.bool t) ∧ W.cell? ⟨w.heap.size + 1, 1, none⟩ = some (.slice B ys.length d))
  (first | exact C4.alloc (by assumption) _ | exact C4.below hb34 (by assumption) | exact C4.below hb3 (by assumption) | exact C4.drew ((C4.base _ _ _ _ _ _ _).alloc _) | exact C4.far (C4.far (by assumption) (by first | (simp; done) | (simp; omega)) (by first | (simp; done) | (simp; omega)) _) (by first | (simp; done) | (simp; omega)) (by first | (simp; done) | (simp; omega)) _)
  (first
  | (go_at_call 167; (with_reducible refine (signOf_any _ _).mono ?_); rintro e w1 ⟨rfl, rfl⟩)
  | (go_at_call 200; (have h0 := hc; have h1 := hd; refine (HG.out _ ?_ ?_).mono ?_); (repeat (first | exact HA.out | (with_reducible refine Num.drew ?_) | (with_reducible refine Num.alloc ?_ _))); (repeat (first | exact HB.out | (with_reducible refine Num.drew ?_) | (with_reducible refine Num.alloc ?_ _))); (rw [HVA.out, HVB.out, ← HMM.out]); rintro e w3 ⟨A3, c3, rfl, hc3, ha3, hb3⟩)
  | (go_at_call 166; refine (number_at w _ w3 _ (w.heap.size + 1 + 1) c3 m false false A3 none 0 0 ?_ ?_ ?_ hb3 ha3 (by omega) hc3).mono ?_; (repeat (first | exact Sbx.new' _ _ _ (by simp) | (with_reducible refine Sbx.drew ?_) | (with_reducible refine Sbx.alloc ?_ _))); (repeat (first | exact Ibx.new' _ _ _ _ _ _ (by simp) | (with_reducible refine Ibx.drew ?_) | (with_reducible refine Ibx.alloc ?_ _))); (repeat (first | exact bR _ _ | (with_reducible refine Below.drew ?_) | (with_reducible refine Below.alloc ?_ (by first | exact lR _ | (simp; done) | (simp; omega)) _))); rintro e w4 ⟨rfl, n4, I4, hb4, hb34⟩; have c0 := I4.c0; have c1 := I4.c1; have f0 := I4.f 0; have f1 := I4.f 1))
 all_goals
  go_wp2_with fail
  refine bodyPost_ret (v := .agg #[.bool (zneg (zv false m)), .slice A3 (dig m).length c3]) (by simp [results, Tryz.results170, go_sem, c0, c1]) rfl ?_
  exact retz_of HX.out hc3 n4 I4 (by omega) hb4 _ _ rfl
end

section
open Go.RowKit
abbrev zl (z : Int) : Nat := (dig z.natAbs).length
theorem zl_add (y z : Int) : zl (y + z) ≤ zl y + zl z + 1 := lT (dl_le (Int.natAbs_add_le y z)) (dl_add _ _)
theorem zl_mul (y z : Int) : zl (y * z) ≤ zl y + zl z := by unfold zl; rw [Int.natAbs_mul]; exact dl_mul _ _
theorem zl_neg (z : Int) : zl (-z) = zl z := by unfold zl; rw [Int.natAbs_neg]
theorem zl_val {s : Bool} {xs : List Nat} {z : Int} (hd : Digs xs) (h : zv s (val xs) = z) : zl z ≤ xs.length := by
 unfold zl; rw [← h, zv_natAbs]; exact dig_length_val hd
theorem zv_dig (z : Int) : zv (zneg z) (val (dig z.natAbs)) = z := by rw [val_dig, zv_zneg]
end

section
open Go.RowKit
section
variable (w : World) (s t : Bool) (A B : Option Addr) (c d : Nat) (xs ys : List Nat) (y z : Int) (ha : Num w A xs) (hb : Num w B ys) (hx : zv s (val xs) = y) (hy : zv t (val ys) = z) (hn : xs.length ≤ 400000) (hm : ys.length ≤ 400000) (hc : xs.length ≤ c) (hd : ys.length ≤ d)
include ha hb hx hy hn hm hc hd
theorem add_z (r : Int) (hr : y + z = r) : Calls tz 137 #[.agg #[.bool s, .slice A xs.length c], .agg #[.bool t, .slice B ys.length d]] w (RetZ w r) := by subst hr; exact zadd_any w s t A B c d xs ys y z ha hb hx hy hn hm hc hd
theorem mul_z (r : Int) (hr : y * z = r) : Calls tz 141 #[.agg #[.bool s, .slice A xs.length c], .agg #[.bool t, .slice B ys.length d]] w (RetZ w r) := by subst hr; exact zmul_any w s t A B c d xs ys y z ha hb hx hy hn hm hc hd
theorem cmp_z (r : Int) (hr : zcmp y z = r) : Calls tz 153 #[.agg #[.bool s, .slice A xs.length c], .agg #[.bool t, .slice B ys.length d]] w (RetI w r) := by subst hr; exact zcmp_any w s t A B c d xs ys y z ha hb hx hy hn hm hc hd
theorem divmod_z (q r : Int) (hq : y / z = q) (hr : zrem y z = r) : Calls tz 201 #[.agg #[.bool s, .slice A xs.length c], .agg #[.bool t, .slice B ys.length d]] w (RetZZ w q r) := by subst hq; subst hr; exact zdivmod_any w s t A B c d xs ys y z ha hb hx hy hn hm hc hd
end
section
variable (w : World) (s : Bool) (A : Option Addr) (c : Nat) (xs : List Nat) (z : Int) (ha : Num w A xs) (hx : zv s (val xs) = z) (hn : xs.length ≤ 400000) (hc : xs.length ≤ c)
include ha hx hn hc
theorem norm_z (r : Int) (hr : z = r) : Calls tz 134 #[.agg #[.bool s, .slice A xs.length c]] w (RetZ w r) := by subst hr; exact norm_any w s A c xs z ha hx (by omega) hc
theorem sign_z (r : Int) (hr : z.sign = r) : Calls tz 140 #[.agg #[.bool s, .slice A xs.length c]] w (RetI w r) := by subst hr; exact zsign_any w s A c xs z ha hx (by omega) hc
end
theorem of_z (w : World) (n r : Int) (hr : n = r) (h1 : -9223372036854775808 ≤ r) (h2 : r ≤ 9223372036854775807) : Calls tz 126 #[.int .i64 n] w (RetZ w r) := by subst hr; exact of_any w n h1 h2
theorem zl_small {z : Int} (h1 : -9223372036854775808 ≤ z) (h2 : z ≤ 9223372036854775807) : zl z ≤ 1 := dig_length_le (by rw [B64_eq]; omega)
def K3 (p q r : Nat) (v1 v2 v3 v4 v5 v6 : Value) (W : World) : Prop := W.cell? ⟨p, 0, none⟩ = some v1 ∧ W.cell? ⟨p, 1, none⟩ = some v2 ∧ W.cell? ⟨q, 0, none⟩ = some v3 ∧ W.cell? ⟨q, 1, none⟩ = some v4 ∧ W.cell? ⟨r, 0, none⟩ = some v5 ∧ W.cell? ⟨r, 1, none⟩ = some v6
theorem K3.of {p q r : Nat} {v1 v2 v3 v4 v5 v6 : Value} {W : World} (h1 : C2 p v1 v2 W) (h2 : C2 q v3 v4 W) (h3 : C2 r v5 v6 W) : K3 p q r v1 v2 v3 v4 v5 v6 W := ⟨h1.1, h1.2, h2.1, h2.2, h3.1, h3.2⟩
section
variable {p q r : Nat} {v1 v2 v3 v4 v5 v6 : Value} {W W' : World}
theorem K3.a (h : K3 p q r v1 v2 v3 v4 v5 v6 W) : C2 p v1 v2 W := ⟨h.1, h.2.1⟩
theorem K3.b (h : K3 p q r v1 v2 v3 v4 v5 v6 W) : C2 q v3 v4 W := ⟨h.2.2.1, h.2.2.2.1⟩
theorem K3.c (h : K3 p q r v1 v2 v3 v4 v5 v6 W) : C2 r v5 v6 W := ⟨h.2.2.2.2.1, h.2.2.2.2.2⟩
theorem K3.below (hb : Below W.heap.size W W') (h : K3 p q r v1 v2 v3 v4 v5 v6 W) : K3 p q r v1 v2 v3 v4 v5 v6 W' := K3.of (h.a.below hb) (h.b.below hb) (h.c.below hb)
theorem K3.alloc (h : K3 p q r v1 v2 v3 v4 v5 v6 W) (o : Obj) : K3 p q r v1 v2 v3 v4 v5 v6 (W.alloc o) := K3.of (h.a.alloc o) (h.b.alloc o) (h.c.alloc o)
end
def K4 (p q r o : Nat) (v1 v2 v3 v4 v5 v6 v7 v8 : Value) (W : World) : Prop := W.cell? ⟨p, 0, none⟩ = some v1 ∧ W.cell? ⟨p, 1, none⟩ = some v2 ∧ W.cell? ⟨q, 0, none⟩ = some v3 ∧ W.cell? ⟨q, 1, none⟩ = some v4 ∧ W.cell? ⟨r, 0, none⟩ = some v5 ∧ W.cell? ⟨r, 1, none⟩ = some v6 ∧ W.cell? ⟨o, 0, none⟩ = some v7 ∧ W.cell? ⟨o, 1, none⟩ = some v8
section
variable {p q r o : Nat} {v1 v2 v3 v4 v5 v6 v7 v8 : Value} {W W' : World}
end
end

namespace Q
open Go.RowKit
structure IsZ (w : World) (s : Bool) (A : Option Addr) (n c : Nat) (z : Int) (k : Nat) : Prop where
 ex : ∃ xs, n = xs.length ∧ Num w A xs ∧ zv s (val xs) = z
 le : n ≤ k
 cap : n ≤ c
structure OneZ (w : World) (s : Bool) (A : Option Addr) (n c : Nat) (z : Int) : Prop where
 es : s = zneg z
 en : n = zl z
 num : Num w A (dig z.natAbs)
 cap : n ≤ c
def RetJ (w : World) (z : Int) (e : Ending) (w' : World) : Prop :=
 ∃ s A n c, e = .returned (.agg #[.bool s, .slice A n c]) ∧ OneZ w' s A n c z ∧ Below w.heap.size w w'
def RetJJ (w : World) (y z : Int) (e : Ending) (w' : World) : Prop :=
 ∃ s A n c t B m d, e = .returned (.tuple #[.agg #[.bool s, .slice A n c], .agg #[.bool t, .slice B m d]]) ∧ OneZ w' s A n c y ∧ OneZ w' t B m d z ∧ Below w.heap.size w w'
section
variable {w w' : World} {s : Bool} {A : Option Addr} {n c k l : Nat} {z : Int}
theorem IsZ.below (h : IsZ w s A n c z k) (hb : Below w.heap.size w w') : IsZ w' s A n c z k := ⟨by obtain ⟨xs, h1, h2, h3⟩ := h.ex; exact ⟨xs, h1, h2.below hb, h3⟩, h.le, h.cap⟩
theorem IsZ.zl (h : IsZ w s A n c z k) : zl z ≤ k := by
 obtain ⟨xs, h1, h2, h3⟩ := h.ex
 exact lT (zl_val h2.1 h3) (h1 ▸ h.le)
theorem OneZ.below (h : OneZ w s A n c z) (hb : Below w.heap.size w w') : OneZ w' s A n c z := ⟨h.es, h.en, h.num.below hb, h.cap⟩
theorem OneZ.isz (h : OneZ w s A n c z) (hk : YthjiacmhhpfokaaGreat.zl z ≤ k) : IsZ w s A n c z k := ⟨⟨_, h.en, h.num, by rw [h.es]; exact zv_dig z⟩, by rw [h.en]; exact hk, h.cap⟩
theorem IsZ.alloc (h : IsZ w s A n c z k) (o : Obj) : IsZ (w.alloc o) s A n c z k := h.below ((bR _ _).alloc (lR _) o)
theorem OneZ.alloc (h : OneZ w s A n c z) (o : Obj) : OneZ (w.alloc o) s A n c z := h.below ((bR _ _).alloc (lR _) o)
theorem IsZ.drew (h : IsZ w s A n c z k) : IsZ w.drew s A n c z k := h.below ((bR _ _).drew)
theorem OneZ.drew (h : OneZ w s A n c z) : OneZ w.drew s A n c z := h.below ((bR _ _).drew)
end
theorem retj_of {w w' : World} {z : Int} {e : Ending} (h : RetZ w z e w') : RetJ w z e w' := by
 obtain ⟨A, c, rfl, hc, hn, hb⟩ := h
 exact ⟨_, _, _, _, rfl, ⟨rfl, rfl, hn, hc⟩, hb⟩
def rden (t : Bool) (ys : List Nat) : Int := if ys.length = 0 then 1 else zv t (val ys)
def dden (q : Rat) : List Nat := if q.den = 1 then [] else dig q.den
def ql (q : Rat) : Nat := max (zl q.num) (dig q.den).length
structure IsQ (w : World) (s : Bool) (A : Option Addr) (n c : Nat) (t : Bool) (B : Option Addr) (m d : Nat) (q : Rat) (k : Nat) : Prop where
 ex : ∃ xs ys, n = xs.length ∧ m = ys.length ∧ Num w A xs ∧ Num w B ys ∧ Rat.divInt (zv s (val xs)) (rden t ys) = q
 le : n ≤ k
 le2 : m ≤ k
 cap : n ≤ c
 cap2 : m ≤ d
structure OneQ (w : World) (s : Bool) (A : Option Addr) (n c : Nat) (t : Bool) (B : Option Addr) (m d : Nat) (q : Rat) : Prop where
 es : s = zneg q.num
 en : n = zl q.num
 et : t = false
 em : m = (dden q).length
 num : Num w A (dig q.num.natAbs)
 den : Num w B (dden q)
 cap : n ≤ c
 cap2 : m ≤ d
def RetQ (w : World) (q : Rat) (e : Ending) (w' : World) : Prop :=
 ∃ s A n c t B m d, e = .returned (.agg #[.bool s, .slice A n c, .bool t, .slice B m d]) ∧ OneQ w' s A n c t B m d q ∧ Below w.heap.size w w'
theorem dden_le (q : Rat) : (dden q).length ≤ ql q := by
 unfold dden ql
 split
 ·simp
 ·omega
theorem num_le (q : Rat) : zl q.num ≤ ql q := by unfold ql; omega
theorem den_le (q : Rat) : (dig q.den).length ≤ ql q := by unfold ql; omega
theorem one_val (q : Rat) : Rat.divInt (zv (zneg q.num) (val (dig q.num.natAbs))) (rden false (dden q)) = q := by
 rw [zv_dig]
 by_cases h : q.den = 1
 ·have e : dden q = [] := if_pos h
  have h2 := Rat.num_divInt_den q
  rw [h] at h2
  rw [e]
  exact h2
 ·have e : dden q = dig q.den := if_neg h
  have hne : (dig q.den).length ≠ 0 := by
   intro h2
   have := dig_nil_iff.1 h2
   exact q.den_nz this
  rw [e]
  unfold rden
  rw [if_neg hne, val_dig]
  exact Rat.num_divInt_den q
section
variable {w w' : World} {s t : Bool} {A B : Option Addr} {n c m d k l : Nat} {q : Rat}
theorem IsQ.below (h : IsQ w s A n c t B m d q k) (hb : Below w.heap.size w w') : IsQ w' s A n c t B m d q k :=
 ⟨by obtain ⟨xs, ys, h1, h2, h3, h4, h5⟩ := h.ex; exact ⟨xs, ys, h1, h2, h3.below hb, h4.below hb, h5⟩, h.le, h.le2, h.cap, h.cap2⟩
theorem IsQ.mono (h : IsQ w s A n c t B m d q k) (hk : k ≤ l) : IsQ w s A n c t B m d q l := ⟨h.ex, lT h.le hk, lT h.le2 hk, h.cap, h.cap2⟩
theorem IsQ.alloc (h : IsQ w s A n c t B m d q k) (o : Obj) : IsQ (w.alloc o) s A n c t B m d q k := h.below ((bR _ _).alloc (lR _) o)
theorem IsQ.drew (h : IsQ w s A n c t B m d q k) : IsQ w.drew s A n c t B m d q k := h.below ((bR _ _).drew)
theorem OneQ.below (h : OneQ w s A n c t B m d q) (hb : Below w.heap.size w w') : OneQ w' s A n c t B m d q :=
 ⟨h.es, h.en, h.et, h.em, h.num.below hb, h.den.below hb, h.cap, h.cap2⟩
theorem OneQ.alloc (h : OneQ w s A n c t B m d q) (o : Obj) : OneQ (w.alloc o) s A n c t B m d q := h.below ((bR _ _).alloc (lR _) o)
theorem OneQ.isq (h : OneQ w s A n c t B m d q) (hk : ql q ≤ k) : IsQ w s A n c t B m d q k :=
 ⟨⟨_, _, h.en, h.em, h.num, h.den, by rw [h.es, h.et]; exact one_val q⟩, by rw [h.en]; exact lT (num_le q) hk, by rw [h.em]; exact lT (dden_le q) hk, h.cap, h.cap2⟩
theorem OneQ.top (h : OneQ w s A n c t B m d q) : OneZ w s A n c q.num := ⟨h.es, h.en, h.num, h.cap⟩
end
theorem ql_div {n d : Int} (hd : 0 < d) : ql (Rat.divInt n d) ≤ max (zl n) (zl d) := by
 have h := low_le (n := n) hd
 unfold ql zl
 have h1 := dl_le h.1
 have h2 := dl_le h.2
 omega
theorem den_zl (q : Rat) : zl (q.den : Int) = (dig q.den).length := by unfold zl; rw [Int.natAbs_natCast]
theorem den_pos (q : Rat) : (0 : Int) < (q.den : Int) := by have := q.den_nz; omega
theorem ql_add (y z : Rat) : ql (y + z) ≤ 2 * ql y + 2 * ql z + 1 := by
 have h : y + z = Rat.divInt (y.num * (z.den : Int) + z.num * (y.den : Int)) ((y.den : Int) * (z.den : Int)) := by
  conv => lhs; rw [← Rat.num_divInt_den y, ← Rat.num_divInt_den z]
  exact Rat.divInt_add_divInt _ _ (by have := den_pos y; omega) (by have := den_pos z; omega)
 rw [h]
 refine lT (ql_div (Int.mul_pos (den_pos y) (den_pos z))) ?_
 have h1 := zl_add (y.num * (z.den : Int)) (z.num * (y.den : Int))
 have h2 := zl_mul y.num (z.den : Int)
 have h3 := zl_mul z.num (y.den : Int)
 have h4 := zl_mul (y.den : Int) (z.den : Int)
 have h5 := num_le y
 have h6 := num_le z
 have h7 := den_le y
 have h8 := den_le z
 have h9 := den_zl y
 have h10 := den_zl z
 omega
theorem ql_mul (y z : Rat) : ql (y * z) ≤ ql y + ql z := by
 have h : y * z = Rat.divInt (y.num * z.num) ((y.den : Int) * (z.den : Int)) := by
  conv => lhs; rw [← Rat.num_divInt_den y, ← Rat.num_divInt_den z]
  exact Rat.divInt_mul_divInt _ _
 rw [h]
 refine lT (ql_div (Int.mul_pos (den_pos y) (den_pos z))) ?_
 have h2 := zl_mul y.num z.num
 have h4 := zl_mul (y.den : Int) (z.den : Int)
 have h5 := num_le y
 have h6 := num_le z
 have h7 := den_le y
 have h8 := den_le z
 have h9 := den_zl y
 have h10 := den_zl z
 omega
theorem IsQ.ql {w : World} {s t : Bool} {A B : Option Addr} {n c m d k : Nat} {q : Rat} (h : IsQ w s A n c t B m d q k) (hk : 1 ≤ k) : Q.ql q ≤ k := by
 obtain ⟨xs, ys, h1, h2, h3, h4, h5⟩ := h.ex
 have l1 := zl_val h3.1 (rfl : zv s (val xs) = _)
 have hle := h.le
 have hle2 := h.le2
 unfold rden at h5
 split at h5
 ·rw [← h5]
  refine lT (ql_div (by omega)) ?_
  have : zl 1 ≤ 1 := zl_small (by omega) (by omega)
  omega
 ·have l2 := zl_val h4.1 (rfl : zv t (val ys) = _)
  rcases Int.lt_trichotomy (zv t (val ys)) 0 with hn | hn | hn
  ·rw [← h5, ← Rat.neg_divInt_neg]
   refine lT (ql_div (by omega)) ?_
   rw [zl_neg, zl_neg]
   omega
  ·rw [hn, Rat.divInt_zero] at h5
   rw [← h5]
   have : Q.ql 0 = max (zl 0) (dig 1).length := rfl
   have e1 : zl 0 ≤ 1 := zl_small (by omega) (by omega)
   have e2 : (dig 1).length ≤ 1 := dig_length_le (by rw [B64_eq]; omega)
   omega
  ·rw [← h5]
   refine lT (ql_div hn) ?_
   omega
section
variable {w : World} {s t : Bool} {A B : Option Addr} {n c m d k : Nat} {y z : Int}
theorem add_j (h1 : IsZ w s A n c y k) (h2 : IsZ w t B m d z k) (hk : k ≤ 3000) : Calls tz 137 #[.agg #[.bool s, .slice A n c], .agg #[.bool t, .slice B m d]] w (RetJ w (y + z)) := by
 obtain ⟨xs, rfl, ha, hx⟩ := h1.ex
 obtain ⟨ys, rfl, hb, hy⟩ := h2.ex
 exact (add_z w s t A B c d xs ys y z ha hb hx hy (by have := h1.le; omega) (by have := h2.le; omega) h1.cap h2.cap _ rfl).mono fun _ _ => retj_of
theorem mul_j (h1 : IsZ w s A n c y k) (h2 : IsZ w t B m d z k) (hk : k ≤ 3000) : Calls tz 141 #[.agg #[.bool s, .slice A n c], .agg #[.bool t, .slice B m d]] w (RetJ w (y * z)) := by
 obtain ⟨xs, rfl, ha, hx⟩ := h1.ex
 obtain ⟨ys, rfl, hb, hy⟩ := h2.ex
 exact (mul_z w s t A B c d xs ys y z ha hb hx hy (by have := h1.le; omega) (by have := h2.le; omega) h1.cap h2.cap _ rfl).mono fun _ _ => retj_of
theorem cmp_j (h1 : IsZ w s A n c y k) (h2 : IsZ w t B m d z k) (hk : k ≤ 3000) : Calls tz 153 #[.agg #[.bool s, .slice A n c], .agg #[.bool t, .slice B m d]] w (RetI w (zcmp y z)) := by
 obtain ⟨xs, rfl, ha, hx⟩ := h1.ex
 obtain ⟨ys, rfl, hb, hy⟩ := h2.ex
 exact cmp_z w s t A B c d xs ys y z ha hb hx hy (by have := h1.le; omega) (by have := h2.le; omega) h1.cap h2.cap _ rfl
theorem divmod_j (h1 : IsZ w s A n c y k) (h2 : IsZ w t B m d z k) (hk : k ≤ 3000) : Calls tz 201 #[.agg #[.bool s, .slice A n c], .agg #[.bool t, .slice B m d]] w (RetJJ w (y / z) (zrem y z)) := by
 obtain ⟨xs, rfl, ha, hx⟩ := h1.ex
 obtain ⟨ys, rfl, hb, hy⟩ := h2.ex
 refine (divmod_z w s t A B c d xs ys y z ha hb hx hy (by have := h1.le; omega) (by have := h2.le; omega) h1.cap h2.cap _ _ rfl rfl).mono ?_
 rintro e w' ⟨A1, c1, B1, d1, rfl, hc, hd, h3, h4, h5⟩
 exact ⟨_, _, _, _, _, _, _, _, rfl, ⟨rfl, rfl, h3, hc⟩, ⟨rfl, rfl, h4, hd⟩, h5⟩
theorem norm_j (h1 : IsZ w s A n c y k) (hk : k ≤ 3000) : Calls tz 134 #[.agg #[.bool s, .slice A n c]] w (RetJ w y) := by
 obtain ⟨xs, rfl, ha, hx⟩ := h1.ex
 exact (norm_z w s A c xs y ha hx (by have := h1.le; omega) h1.cap _ rfl).mono fun _ _ => retj_of
theorem sign_j (h1 : IsZ w s A n c y k) (hk : k ≤ 3000) (r : Int) (hr : y.sign = r) : Calls tz 140 #[.agg #[.bool s, .slice A n c]] w (RetI w r) := by
 obtain ⟨xs, rfl, ha, hx⟩ := h1.ex
 exact sign_z w s A c xs y ha hx (by have := h1.le; omega) h1.cap _ hr
theorem small_j (h1 : IsZ w s A n c y k) (hk : k ≤ 3000) : Calls tz 202 #[.agg #[.bool s, .slice A n c]] w (fun e w' => e = .returned (.tuple #[.int .i64 (smallv y), .bool (smallb y)]) ∧ Below w.heap.size w w') := by
 obtain ⟨xs, rfl, ha, hx⟩ := h1.ex
 exact small_any w s A c xs y ha hx (by have := h1.le; omega) h1.cap
end
theorem of_j (w : World) (z : Int) (h1 : -9223372036854775808 ≤ z) (h2 : z ≤ 9223372036854775807) : Calls tz 126 #[.int .i64 z] w (RetJ w z) := (of_z w z z rfl h1 h2).mono fun _ _ => retj_of
theorem smallv_one (z : Int) : (smallv z == 1) = decide (z = 1) := by
 unfold smallv
 split
 ·rfl
 ·rename_i h
  rw [decide_eq_false (by rintro rfl; exact h ⟨by omega, by omega⟩)]
  rfl
