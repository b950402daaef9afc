/- Part 13 of the proof: WholeG, WholeNorm, WholeNeg, WholeAbs, WholeMul, WholeGcd, WholeH. -/
import Derived.Test.YthjiacmhhpfokaaGreatL12
namespace Go.Proofs.YthjiacmhhpfokaaGreat
open Lib renaming hid → lh
open Go.Proofs.Tryz renaming prog → tz
open Nat renaming le_refl → lR
open Go.RowKit.Below renaming refl → bR
section
open Go.RowKit
set_option maxRecDepth 10000 in
set_option maxHeartbeats 4000000 in
theorem zdivmod_any (w : World) (s t : Bool) (A B : Option Addr) (c d : Nat) (xs ys : List Nat) (y z : Int) (ha : Num w A xs) (hb : Num w B ys) (hx : zv s (val xs) = y) (hy : zv t (val ys) = z) (hn : xs.length ≤ 400000) (hm : ys.length ≤ 400000) (hc : xs.length ≤ c) (hd : ys.length ≤ d) :
  Calls tz 201 #[.agg #[.bool s, .slice A xs.length c], .agg #[.bool t, .slice B ys.length d]] w (RetZZ w (y / z) (zrem y z)) := by
 have hd1 := dig_length_val ha.1
 have hd2 := dig_length_val hb.1
 obtain ⟨a, hva⟩ : ∃ a, val xs = a := ⟨_, rfl⟩
 obtain ⟨b, hvb⟩ : ∃ b, val ys = b := ⟨_, rfl⟩
 rw [hva] at hd1 hx
 rw [hvb] at hd2 hy
 have HA := lh ha
 have HB := lh hb
 have HVA := lh hva
 have HVB := lh hvb
 obtain ⟨hzq, hzr⟩ := zdm_eq s t a b
 rw [hx, hy] at hzq hzr
 have HZQ := lh hzq
 have HZR := lh hzr
 have hqlen := dq_len s a b
 have hrlen := dr_len s a b
 have hql : (dig (dq s a b)).length ≤ 8589934592 := by omega
 have hrl : (dig (dr s a b)).length ≤ 8589934592 := by omega
 have hml : (dig (dmr a b)).length ≤ 1000000 := by
  have h : dmr a b ≤ a := by unfold dmr; have := Nat.mod_le a b; split <;> omega
  have := dl_le h
  omega
 have hmq : (dig (dmq a b)).length ≤ 1000000 := by
  have := dl_le (show dmq a b ≤ a from Nat.div_le_self a b)
  omega
 clear ha hb hx hy hva hvb hzq hzr hqlen hrlen
 go_enter Tryz.func201, Tryz.ntmps201
 go_wp2_with fail
 have HW := lh (show Below w.heap.size w ((((w.alloc (.cells #[.bool s, .slice A xs.length c] 25)).alloc (.cells #[.bool t, .slice B ys.length d] 25)).alloc (.cells #[.bool false, .slice none 0 0] 25)).alloc (.cells #[.bool false, .slice none 0 0] 25)) from
  ((((bR _ _).alloc (lR _) _).alloc (by simp) _).alloc (by simp; omega) _).alloc (by simp; omega) _)
 have HC4 := lh (((C4.base w (.bool s) (.slice A xs.length c) (.bool t) (.slice B ys.length d) 25 25).alloc (.cells #[.bool false, .slice none 0 0] 25)).alloc (.cells #[.bool false, .slice none 0 0] 25))
 have HG1 := lh (show Ibx ((((w.alloc (.cells #[.bool s, .slice A xs.length c] 25)).alloc (.cells #[.bool t, .slice B ys.length d] 25)).alloc (.cells #[.bool false, .slice none 0 0] 25)).alloc (.cells #[.bool false, .slice none 0 0] 25)) (w.heap.size + 1 + 1) false none 0 0 from (Ibx.new' _ _ _ _ _ _ (by simp)).alloc _)
 have HG2 := lh (show Ibx ((((w.alloc (.cells #[.bool s, .slice A xs.length c] 25)).alloc (.cells #[.bool t, .slice B ys.length d] 25)).alloc (.cells #[.bool false, .slice none 0 0] 25)).alloc (.cells #[.bool false, .slice none 0 0] 25)) (w.heap.size + 1 + 1 + 1) false none 0 0 from Ibx.new' _ _ _ _ _ _ (by simp))
 have HDM := lh (dm_v ((((w.alloc (.cells #[.bool s, .slice A xs.length c] 25)).alloc (.cells #[.bool t, .slice B ys.length d] 25)).alloc (.cells #[.bool false, .slice none 0 0] 25)).alloc (.cells #[.bool false, .slice none 0 0] 25)) A B c d xs ys a b ((((HA.out.alloc _).alloc _).alloc _).alloc _) ((((HB.out.alloc _).alloc _).alloc _).alloc _) HVA.out HVB.out (by omega) (by omega) hc hd)
 refine HDM.out.mono ?_
 rintro e w1 ⟨Aq, cq, Ar, cr, rfl, hcq, hcr, hq, hr, hb1⟩
 have HC1 := lh (C4.below hb1 HC4.out)
 have G11 := lh (HG1.out.below hb1)
 have G21 := lh (HG2.out.below hb1)
 have HW1 := lh (HW.out.trans (hb1.mono HW.out.size))
 have HQ := lh hq
 have HR := lh hr
 have HNB := lh (((((HB.out.alloc _).alloc _).alloc _).alloc _ : Num ((((w.alloc (.cells #[.bool s, .slice A xs.length c] 25)).alloc (.cells #[.bool t, .slice B ys.length d] 25)).alloc (.cells #[.bool false, .slice none 0 0] 25)).alloc (.cells #[.bool false, .slice none 0 0] 25)) B ys).below hb1)
 clear hb1 hq hr HDM HW HC4 HG1 HG2
 have HBI := lh (bits_any w1 Ar cr (dig (dmr a b)) HR.out (by omega) hcr)
 rw [val_dig] at HBI
 go_upto_region 2 with fail
 obtain ⟨k0, k1, k2, k3⟩ := HC1.out
 by_cases hs : s = true ∧ 0 < dmr a b
 ·obtain ⟨hs1, hs2⟩ := hs
  have hdq : dmq a b + 1 = dq s a b := by unfold dq; rw [if_pos ⟨hs1, hs2⟩]
  have hdr : b - dmr a b = dr s a b := by unfold dr; rw [if_pos ⟨hs1, hs2⟩]
  have hbp := blen_pos (Nat.pos_iff_ne_zero.1 hs2)
  have hbd : decide ((0 : Int) < ((blen (dmr a b) : Nat) : Int)) = true := decide_eq_true (by omega)
  have hbp' : (0 : Int) < ((blen (dmr a b) : Nat) : Int) := by omega
  have HDQ := lh hdq
  have HDR := lh hdr
  clear hdq hdr hs2 hbp
  subst hs1
  rw [Bool.true_bne] at HZQ
  go_wp2_with fail
  refine HBI.out.mono ?_
  rintro e w' ⟨rfl, rfl⟩
  have HL1 : Hid (Num (w1.alloc (.cells #[.int .u64 1] 164)) (some ⟨w1.heap.size, 0, none⟩) [1]) := (Blk.lit1' w1 1).num (Digs.cons (by rw [B64_eq]; omega) Digs.nil)
  go_upto_region 3 with fail
  go_region_held3 (fun W => W.cell? ⟨w.heap.size, 0, none⟩ = some (.bool true) ∧ W.cell? ⟨w.heap.size, 1, none⟩ = some (.slice A xs.length c) ∧ W.cell? ⟨w.heap.size + 1, 0, none⟩ = some (.bool t) ∧ W.cell? ⟨w.heap.size + 1, 1, none⟩ = some (.slice B ys.length d))
   (first | exact C4.below hb4 (by assumption) | exact C4.below hb3 (by assumption) | exact C4.alloc (by assumption) _ | exact C4.drew HC1.out | assumption)
   (first
   | (go_at_call 173; refine (add_v _ Aq (some ⟨w1.heap.size, 0, none⟩) cq 1 (dig (dmq a b)) [1] (dmq a b) 1 ?_ ?_ (val_dig _) (by rw [val_cons, val_nil, Nat.mul_zero]) (by omega) (by simp) hcq (by simp)).mono ?_; (focus (repeat (first | exact HQ.out | (with_reducible refine Num.drew ?_) | (with_reducible refine Num.alloc ?_ _)))); (repeat (first | exact HL1.out | (with_reducible refine Num.drew ?_))); rintro e w3 ⟨A3, c3, rfl, hc3, h3, hb3⟩)
   | (go_at_call 175; refine (sub_v w3 B Ar d cr ys (dig (dmr a b)) b (dmr a b) ?_ ?_ HVB.out (val_dig _) (by omega) (by omega) hd hcr).mono ?_; (refine Num.below ?_ hb3); (repeat (first | exact HNB.out | (with_reducible refine Num.drew ?_) | (with_reducible refine Num.alloc ?_ _))); (refine Num.below ?_ hb3); (repeat (first | exact HR.out | (with_reducible refine Num.drew ?_) | (with_reducible refine Num.alloc ?_ _))); rintro e w4 ⟨A4, c4, rfl, hc4, h4, hb4⟩))
  all_goals
   rw [HDQ.out] at hc3 h3
   rw [HDR.out] at hc4 h4
   have hqc := hc3
   have hrc := hc4
   have hL : DivAt w true t A B xs.length ys.length c d A3 A4 (dq true a b) (dr true a b) w4 := by
    have b1 : Below w1.heap.size w1 (w1.alloc (.cells #[.int .u64 1] 164)).drew := ((bR _ _).alloc (lR _) _).drew
    have b3 := b1.trans (hb3.mono (Nat.le_trans b1.size (lR _)))
    have b4 := b3.trans (hb4.mono b3.size)
    exact ⟨C4.below b4 HC1.out, G11.out.below b4, G21.out.below b4, h3.below hb4, h4, HW1.out.trans (b4.mono HW1.out.size)⟩
   rw [HDQ.out, HDR.out]
   clear hc3 h3 hc4 h4 hb3 hb4
   have HL := lh hL
   obtain ⟨k0, k1, k2, k3⟩ := hL.c4
   clear hL
   go_wp2_with fail
   refine (signOf_any _ _).mono ?_
   rintro e w5 ⟨rfl, hw5⟩
   have hp5 : w4.heap.size < w5.heap.size := by rw [hw5]; simp
   have S5 : Sbx w5 w4.heap.size (!t) := by rw [hw5]; exact Sbx.new' _ _ _ rfl
   have B5 : Below w4.heap.size w4 w5 := by rw [hw5]; exact (bR _ _).alloc (lR _) _
   clear hw5
   have N5 := lh (number_at w w5 w5 w4.heap.size (w.heap.size + 1 + 1) c3 (dq true a b) (!t) false A3 none 0 0 S5 (HL.out.g1.below B5) (HL.out.bel.trans (B5.mono HL.out.bel.size)) (bR _ _) (HL.out.q.below B5) hql hqc)
   have R5 := lh (HL.out.r.below B5)
   have G5 := lh (HL.out.g2.below B5)
   clear S5 B5
   go_wp2_with fail
   refine N5.out.mono ?_
   rintro e w6 ⟨rfl, n6, I6, hb6, hb56⟩
   have N6 := lh n6
   have G6 := lh I6
   have B6 := lh hb6
   have R6 := lh (R5.out.below hb56)
   have H6 := lh (G5.out.below hb56)
   clear n6 I6 hb6 hb56 N5 R5 G5 HL
   go_wp2_with fail
   refine (signOf_any _ _).mono ?_
   rintro e w7 ⟨rfl, hw7⟩
   have S7 : Sbx w7 w6.heap.size false := by rw [hw7]; exact Sbx.new' _ _ _ rfl
   have B7 : Below w6.heap.size w6 w7 := by rw [hw7]; exact (bR _ _).alloc (lR _) _
   clear hw7
   have N7 := lh (number_at w w7 w7 w6.heap.size (w.heap.size + 1 + 1 + 1) c4 (dr true a b) false false A4 none 0 0 S7 (H6.out.below B7) (B6.out.trans (B7.mono B6.out.size)) (bR _ _) (R6.out.below B7) hrl hrc)
   have Q7 := lh (N6.out.below B7)
   have F7 := lh (G6.out.below B7)
   clear S7 B7
   go_wp2_with fail
   refine N7.out.mono ?_
   rintro e w8 ⟨rfl, n8, I8, hb8, hb78⟩
   have J8 := F7.out.below hb78
   have c0 := I8.c0
   have c3' := I8.c1
   have f0 := I8.f 0
   have f1 := I8.f 1
   have e0 := J8.c0
   have e1 := J8.c1
   have h0 := J8.f 0
   have h1 := J8.f 1
   have Q8 := lh (Q7.out.below hb78)
   have N8 := lh n8
   have G8 := lh I8
   have K8 := lh J8
   have B8 := lh hb8
   clear n8 I8 J8 hb8 hb78 N7 Q7 F7 N6 G6 R6 H6 B6
   go_wp2_with fail
   refine bodyPost_ret (v := .tuple #[.agg #[.bool (zneg (zv (!t) (dq true a b))), .slice A3 (dig (dq true a b)).length c3], .agg #[.bool (zneg (zv false (dr true a b))), .slice A4 (dig (dr true a b)).length c4]]) (by simp [results, Tryz.results201, go_sem, c0, c3', e0, e1]) rfl ?_
   exact retzz_of HZQ.out HZR.out hqc hrc Q8.out N8.out K8.out G8.out (by omega) (by omega) (by omega) B8.out _ _ _ _
 ·have hdq : dmq a b = dq s a b := by unfold dq; rw [if_neg hs]
  have hdr : dmr a b = dr s a b := by unfold dr; rw [if_neg hs]
  rw [hdq]
  rw [hdr]
  rw [hdq] at HQ hcq hmq
  rw [hdr] at HR hcr hml HBI hs
  have hqc := hcq
  have hrc := hcr
  have hL : DivAt w s t A B xs.length ys.length c d Aq Ar (dq s a b) (dr s a b) w1 := ⟨HC1.out, G11.out, G21.out, HQ.out, HR.out, HW1.out⟩
  clear hdq hdr
  cases s with
  | false =>
   rw [Bool.false_bne] at HZQ
   clear hs
   have HL := lh hL
   obtain ⟨k0, k1, k2, k3⟩ := hL.c4
   clear hL
   go_wp2_with fail
   refine (signOf_any _ _).mono ?_
   rintro e w5 ⟨rfl, hw5⟩
   have hp5 : w1.heap.size < w5.heap.size := by rw [hw5]; simp
   have S5 : Sbx w5 w1.heap.size t := by rw [hw5]; exact Sbx.new' _ _ _ rfl
   have B5 : Below w1.heap.size w1 w5 := by rw [hw5]; exact (bR _ _).alloc (lR _) _
   clear hw5
   have N5 := lh (number_at w w5 w5 w1.heap.size (w.heap.size + 1 + 1) cq (dq false a b) t false Aq none 0 0 S5 (HL.out.g1.below B5) (HL.out.bel.trans (B5.mono HL.out.bel.size)) (bR _ _) (HL.out.q.below B5) hql hqc)
   have R5 := lh (HL.out.r.below B5)
   have G5 := lh (HL.out.g2.below B5)
   clear S5 B5
   go_wp2_with fail
   refine N5.out.mono ?_
   rintro e w6 ⟨rfl, n6, I6, hb6, hb56⟩
   have N6 := lh n6
   have G6 := lh I6
   have B6 := lh hb6
   have R6 := lh (R5.out.below hb56)
   have H6 := lh (G5.out.below hb56)
   clear n6 I6 hb6 hb56 N5 R5 G5 HL
   go_wp2_with fail
   refine (signOf_any _ _).mono ?_
   rintro e w7 ⟨rfl, hw7⟩
   have S7 : Sbx w7 w6.heap.size false := by rw [hw7]; exact Sbx.new' _ _ _ rfl
   have B7 : Below w6.heap.size w6 w7 := by rw [hw7]; exact (bR _ _).alloc (lR _) _
   clear hw7
   have N7 := lh (number_at w w7 w7 w6.heap.size (w.heap.size + 1 + 1 + 1) cr (dr false a b) false false Ar none 0 0 S7 (H6.out.below B7) (B6.out.trans (B7.mono B6.out.size)) (bR _ _) (R6.out.below B7) hrl hrc)
   have Q7 := lh (N6.out.below B7)
   have F7 := lh (G6.out.below B7)
   clear S7 B7
   go_wp2_with fail
   refine N7.out.mono ?_
   rintro e w8 ⟨rfl, n8, I8, hb8, hb78⟩
   have J8 := F7.out.below hb78
   have c0 := I8.c0
   have cq' := I8.c1
   have f0 := I8.f 0
   have f1 := I8.f 1
   have e0 := J8.c0
   have e1 := J8.c1
   have h0 := J8.f 0
   have h1 := J8.f 1
   have Q8 := lh (Q7.out.below hb78)
   have N8 := lh n8
   have G8 := lh I8
   have K8 := lh J8
   have B8 := lh hb8
   clear n8 I8 J8 hb8 hb78 N7 Q7 F7 N6 G6 R6 H6 B6
   go_wp2_with fail
   refine bodyPost_ret (v := .tuple #[.agg #[.bool (zneg (zv t (dq false a b))), .slice Aq (dig (dq false a b)).length cq], .agg #[.bool (zneg (zv false (dr false a b))), .slice Ar (dig (dr false a b)).length cr]]) (by simp [results, Tryz.results201, go_sem, c0, cq', e0, e1]) rfl ?_
   exact retzz_of HZQ.out HZR.out hqc hrc Q8.out N8.out K8.out G8.out (by omega) (by omega) (by omega) B8.out _ _ _ _
  | true =>
   rw [Bool.true_bne] at HZQ
   have h0 : dr true a b = 0 := Nat.eq_zero_of_not_pos fun h => hs ⟨rfl, h⟩
   have hbl0 : blen (dr true a b) = 0 := by rw [h0, blen_zero]
   rw [hbl0] at HBI
   clear hs h0 hbl0
   go_wp2_with fail
   refine HBI.out.mono ?_
   rintro e w' ⟨rfl, rfl⟩
   have HL := lh hL
   obtain ⟨k0, k1, k2, k3⟩ := hL.c4
   clear hL
   go_wp2_with fail
   refine (signOf_any _ _).mono ?_
   rintro e w5 ⟨rfl, hw5⟩
   have hp5 : w1.heap.size < w5.heap.size := by rw [hw5]; simp
   have S5 : Sbx w5 w1.heap.size (!t) := by rw [hw5]; exact Sbx.new' _ _ _ rfl
   have B5 : Below w1.heap.size w1 w5 := by rw [hw5]; exact (bR _ _).alloc (lR _) _
   clear hw5
   have N5 := lh (number_at w w5 w5 w1.heap.size (w.heap.size + 1 + 1) cq (dq true a b) (!t) false Aq none 0 0 S5 (HL.out.g1.below B5) (HL.out.bel.trans (B5.mono HL.out.bel.size)) (bR _ _) (HL.out.q.below B5) hql hqc)
   have R5 := lh (HL.out.r.below B5)
   have G5 := lh (HL.out.g2.below B5)
   clear S5 B5
   go_wp2_with fail
   refine N5.out.mono ?_
   rintro e w6 ⟨rfl, n6, I6, hb6, hb56⟩
   have N6 := lh n6
   have G6 := lh I6
   have B6 := lh hb6
   have R6 := lh (R5.out.below hb56)
   have H6 := lh (G5.out.below hb56)
   clear n6 I6 hb6 hb56 N5 R5 G5 HL
   go_wp2_with fail
   refine (signOf_any _ _).mono ?_
   rintro e w7 ⟨rfl, hw7⟩
   have S7 : Sbx w7 w6.heap.size false := by rw [hw7]; exact Sbx.new' _ _ _ rfl
   have B7 : Below w6.heap.size w6 w7 := by rw [hw7]; exact (bR _ _).alloc (lR _) _
   clear hw7
   have N7 := lh (number_at w w7 w7 w6.heap.size (w.heap.size + 1 + 1 + 1) cr (dr true a b) false false Ar none 0 0 S7 (H6.out.below B7) (B6.out.trans (B7.mono B6.out.size)) (bR _ _) (R6.out.below B7) hrl hrc)
   have Q7 := lh (N6.out.below B7)
   have F7 := lh (G6.out.below B7)
   clear S7 B7
   go_wp2_with fail
   refine N7.out.mono ?_
   rintro e w8 ⟨rfl, n8, I8, hb8, hb78⟩
   have J8 := F7.out.below hb78
   have c0 := I8.c0
   have cq' := I8.c1
   have f0 := I8.f 0
   have f1 := I8.f 1
   have e0 := J8.c0
   have e1 := J8.c1
   have h0 := J8.f 0
   have h1 := J8.f 1
   have Q8 := lh (Q7.out.below hb78)
   have N8 := lh n8
   have G8 := lh I8
   have K8 := lh J8
   have B8 := lh hb8
   clear n8 I8 J8 hb8 hb78 N7 Q7 F7 N6 G6 R6 H6 B6
   go_wp2_with fail
   refine bodyPost_ret (v := .tuple #[.agg #[.bool (zneg (zv (!t) (dq true a b))), .slice Aq (dig (dq true a b)).length cq], .agg #[.bool (zneg (zv false (dr true a b))), .slice Ar (dig (dr true a b)).length cr]]) (by simp [results, Tryz.results201, go_sem, c0, cq', e0, e1]) rfl ?_
   exact retzz_of HZQ.out HZR.out hqc hrc Q8.out N8.out K8.out G8.out (by omega) (by omega) (by omega) B8.out _ _ _ _
end

section
open Go.RowKit
set_option maxHeartbeats 2000000 in
theorem norm_any (w : World) (s : Bool) (A : Option Addr) (c : Nat) (xs : List Nat) (z : Int) (ha : Num w A xs) (hx : zv s (val xs) = z) (hn : xs.length ≤ 1000000) (hc : xs.length ≤ c) :
  Calls tz 134 #[.agg #[.bool s, .slice A xs.length c]] w (RetZ w (z)) := by
 have hd := dig_length_val ha.1
 have HA := Lib.hid ha
 obtain ⟨m, hm⟩ : ∃ m, val xs = m := ⟨_, rfl⟩
 have HM := Lib.hid hm
 rw [hm] at hd hx
 have HX : Hid (zv s m = z) := by
  show _ = _
  first | (rw [← hx]; done) | (rw [← hx]; cases s <;> simp [zv])
 clear ha hx hm
 go_enter Tryz.func134, Tryz.ntmps134
 go_wp2_with fail
 go_region_held3 (fun W => W.cell? ⟨w.heap.size, 0, none⟩ = some (.bool s) ∧ W.cell? ⟨w.heap.size, 1, none⟩ = some (.slice A xs.length c))
  (first | exact C2.alloc (by assumption) _ | exact C2.below hb34 (by assumption) | exact C2.below hb3 (by assumption) | exact C2.drew ((C2.base _ _ _ _).alloc _) | exact C2.far (C2.far (by assumption) (by first | (simp; done) | (simp; omega)) _) (by first | (simp; done) | (simp; omega)) _)
  (first
  | (go_at_call 167; (with_reducible refine (signOf_any _ _).mono ?_); rintro e w1 ⟨rfl, rfl⟩)
  | (go_at_call 168; (with_reducible refine (trim_v _ A c xs m ?_ HM.out hn hc).mono ?_); (repeat (first | exact HA.out | (with_reducible refine Num.drew ?_) | (with_reducible refine Num.alloc ?_ _))); rintro e w3 ⟨A3, c3, rfl, hc3, ha3, hb3⟩)
  | (go_at_call 166; refine (number_at w _ w3 _ (w.heap.size + 1) c3 m s false A3 none 0 0 ?_ ?_ ?_ hb3 ha3 (by omega) hc3).mono ?_; (repeat (first | exact Sbx.new' _ _ _ (by simp) | (with_reducible refine Sbx.drew ?_) | (with_reducible refine Sbx.alloc ?_ _))); (repeat (first | exact Ibx.new' _ _ _ _ _ _ (by simp) | (with_reducible refine Ibx.drew ?_) | (with_reducible refine Ibx.alloc ?_ _))); (repeat (first | exact bR _ _ | (with_reducible refine Below.drew ?_) | (with_reducible refine Below.alloc ?_ (by first | exact lR _ | (simp; done) | (simp; omega)) _))); rintro e w4 ⟨rfl, n4, I4, hb4, hb34⟩; have c0 := I4.c0; have c1 := I4.c1; have f0 := I4.f 0; have f1 := I4.f 1))
 all_goals
  go_wp2_with fail
  refine bodyPost_ret (v := .agg #[.bool (zneg (zv s m)), .slice A3 (dig m).length c3]) (by simp [results, Tryz.results134, go_sem, c0, c1]) rfl ?_
  exact retz_of HX.out hc3 n4 I4 (by omega) hb4 _ _ rfl
end

section
open Go.RowKit
end

section
open Go.RowKit
end

section
open Go.RowKit
set_option maxHeartbeats 4000000 in
theorem zmul_any (w : World) (s t : Bool) (A B : Option Addr) (c d : Nat) (xs ys : List Nat) (y z : Int) (ha : Num w A xs) (hb : Num w B ys) (hx : zv s (val xs) = y) (hy : zv t (val ys) = z) (hn : xs.length ≤ 400000) (hm : ys.length ≤ 400000) (hc : xs.length ≤ c) (hd : ys.length ≤ d) :
  Calls tz 141 #[.agg #[.bool s, .slice A xs.length c], .agg #[.bool t, .slice B ys.length d]] w (RetZ w (y * z)) := by
 have hd1 := dig_length_val ha.1
 have hd2 := dig_length_val hb.1
 have HA := lh ha
 have HB := lh hb
 obtain ⟨a, hva⟩ : ∃ a, val xs = a := ⟨_, rfl⟩
 obtain ⟨b, hvb⟩ : ∃ b, val ys = b := ⟨_, rfl⟩
 rw [hva] at hd1 hx
 rw [hvb] at hd2 hy
 obtain ⟨m, hmm⟩ : ∃ m, m = a * b := ⟨_, rfl⟩
 have hdm : (dig m).length ≤ 8589934592 := by
  rw [hmm]; have := dl_mul a b; omega
 have HX : Hid (zv (s != t) m = y * z) := by
  show _ = _
  rw [hmm, ← hx, ← hy]
  cases s <;> cases t <;> simp [zv, Int.neg_mul, Int.mul_neg]
 have HMM := lh hmm
 have HVA := lh hva
 have HVB := lh hvb
 clear ha hb hx hy hva hvb hmm
 go_enter Tryz.func141, Tryz.ntmps141
 go_wp2_with fail
 go_region_held3 (fun W => W.cell? ⟨w.heap.size, 0, none⟩ = some (.bool s) ∧ W.cell? ⟨w.heap.size, 1, none⟩ = some (.slice A xs.length c) ∧ W.cell? ⟨w.heap.size + 1, 0, none⟩ = some (.bool t) ∧ W.cell? ⟨w.heap.size + 1, 1, none⟩ = some (.slice B ys.length d))
  (first | exact C4.alloc (by assumption) _ | exact C4.below hb34 (by assumption) | exact C4.below hb3 (by assumption) | exact C4.drew ((C4.base _ _ _ _ _ _ _).alloc _) | exact C4.far (C4.far (by assumption) (by first | (simp; done) | (simp; omega)) (by first | (simp; done) | (simp; omega)) _) (by first | (simp; done) | (simp; omega)) (by first | (simp; done) | (simp; omega)) _)
  (first
  | (go_at_call 167; (with_reducible refine (signOf_any _ _).mono ?_); rintro e w1 ⟨rfl, rfl⟩)
  | (go_at_call 178; (refine (mul_v _ A B c d xs ys a b ?_ ?_ HVA.out HVB.out (by omega) (by omega) hc hd).mono ?_); (repeat (first | exact HA.out | (with_reducible refine Num.drew ?_) | (with_reducible refine Num.alloc ?_ _))); (repeat (first | exact HB.out | (with_reducible refine Num.drew ?_) | (with_reducible refine Num.alloc ?_ _))); (rw [← HMM.out]); rintro e w3 ⟨A3, c3, rfl, hc3, ha3, hb3⟩)
  | (go_at_call 166; refine (number_at w _ w3 _ (w.heap.size + 1 + 1) c3 m (s != t) false A3 none 0 0 ?_ ?_ ?_ hb3 ha3 (by omega) hc3).mono ?_; (repeat (first | exact Sbx.new' _ _ _ (by simp) | (with_reducible refine Sbx.drew ?_) | (with_reducible refine Sbx.alloc ?_ _))); (repeat (first | exact Ibx.new' _ _ _ _ _ _ (by simp) | (with_reducible refine Ibx.drew ?_) | (with_reducible refine Ibx.alloc ?_ _))); (repeat (first | exact bR _ _ | (with_reducible refine Below.drew ?_) | (with_reducible refine Below.alloc ?_ (by first | exact lR _ | (simp; done) | (simp; omega)) _))); rintro e w4 ⟨rfl, n4, I4, hb4, hb34⟩; have c0 := I4.c0; have c1 := I4.c1; have f0 := I4.f 0; have f1 := I4.f 1))
 all_goals
  go_wp2_with fail
  refine bodyPost_ret (v := .agg #[.bool (zneg (zv (s != t) m)), .slice A3 (dig m).length c3]) (by simp [results, Tryz.results141, go_sem, c0, c1]) rfl ?_
  exact retz_of HX.out hc3 n4 I4 (by omega) hb4 _ _ rfl
end

section
open Go.RowKit
set_option maxHeartbeats 4000000 in
theorem zgcd_any (w : World) (s t : Bool) (A B : Option Addr) (c d : Nat) (xs ys : List Nat) (y z : Int) (ha : Num w A xs) (hb : Num w B ys) (hx : zv s (val xs) = y) (hy : zv t (val ys) = z) (hn : xs.length ≤ 400000) (hm : ys.length ≤ 400000) (hc : xs.length ≤ c) (hd : ys.length ≤ d)
  (HG : Hid (∀ W, Num W A xs → Num W B ys → Calls tz 200 #[.slice A xs.length c, .slice B ys.length d] W (RetN W (Nat.gcd (val xs) (val ys))))) :
  Calls tz 170 #[.agg #[.bool s, .slice A xs.length c], .agg #[.bool t, .slice B ys.length d]] w (RetZ w (((Nat.gcd y.natAbs z.natAbs : Nat) : Int))) := by
 have hd1 := dig_length_val ha.1
 have hd2 := dig_length_val hb.1
 have HA := lh ha
 have HB := lh hb
 obtain ⟨a, hva⟩ : ∃ a, val xs = a := ⟨_, rfl⟩
 obtain ⟨b, hvb⟩ : ∃ b, val ys = b := ⟨_, rfl⟩
 rw [hva] at hd1 hx
 rw [hvb] at hd2 hy
 obtain ⟨m, hmm⟩ : ∃ m, m = Nat.gcd a b := ⟨_, rfl⟩
 have hdm : (dig m).length ≤ 8589934592 := by
  have h0 : (dig m).length ≤ max (dig a).length (dig b).length := by
   rw [hmm]
   rcases Nat.eq_zero_or_pos a with h | h
   ·rw [h, Nat.gcd_zero_left]; exact Nat.le_max_right _ _
   ·exact Nat.le_trans (dl_le (Nat.gcd_le_left b h)) (Nat.le_max_left _ _)
  omega
 have HX : Hid (zv false m = ((Nat.gcd y.natAbs z.natAbs : Nat) : Int)) := by
  show _ = _
  rw [hmm, ← hx, ← hy]
  rw [zv_natAbs, zv_natAbs]; simp [zv]
 have HMM := lh hmm
 have HVA := lh hva
 have HVB := lh hvb
 clear ha hb hx hy hva hvb hmm
 go_enter Tryz.func170, Tryz.ntmps170
 go_wp2_with fail
 go_region_held3 (fun W => W.cell? ⟨w.heap.size, 0, none⟩ = some (.bool s) ∧ W.cell? ⟨w.heap.size, 1, none⟩ = some (.slice A xs.length c) ∧ W.cell? ⟨w.heap.size + 1, 0, none⟩ = some (.bool t) ∧ W.cell? ⟨w.heap.size + 1, 1, none⟩ = some (.slice B ys.length d))
  (first | exact C4.alloc (by assumption) _ | exact C4.below hb34 (by assumption) | exact C4.below hb3 (by assumption) | exact C4.drew ((C4.base _ _ _ _ _ _ _).alloc _) | exact C4.far (C4.far (by assumption) (by first | (simp; done) | (simp; omega)) (by first | (simp; done) | (simp; omega)) _) (by first | (simp; done) | (simp; omega)) (by first | (simp; done) | (simp; omega)) _)
  (first
  | (go_at_call 167; (with_reducible refine (signOf_any _ _).mono ?_); rintro e w1 ⟨rfl, rfl⟩)
  | (go_at_call 200; (have h0 := hc; have h1 := hd; refine (HG.out _ ?_ ?_).mono ?_); (repeat (first | exact HA.out | (with_reducible refine Num.drew ?_) | (with_reducible refine Num.alloc ?_ _))); (repeat (first | exact HB.out | (with_reducible refine Num.drew ?_) | (with_reducible refine Num.alloc ?_ _))); (rw [HVA.out, HVB.out, ← HMM.out]); rintro e w3 ⟨A3, c3, rfl, hc3, ha3, hb3⟩)
  | (go_at_call 166; refine (number_at w _ w3 _ (w.heap.size + 1 + 1) c3 m false false A3 none 0 0 ?_ ?_ ?_ hb3 ha3 (by omega) hc3).mono ?_; (repeat (first | exact Sbx.new' _ _ _ (by simp) | (with_reducible refine Sbx.drew ?_) | (with_reducible refine Sbx.alloc ?_ _))); (repeat (first | exact Ibx.new' _ _ _ _ _ _ (by simp) | (with_reducible refine Ibx.drew ?_) | (with_reducible refine Ibx.alloc ?_ _))); (repeat (first | exact bR _ _ | (with_reducible refine Below.drew ?_) | (with_reducible refine Below.alloc ?_ (by first | exact lR _ | (simp; done) | (simp; omega)) _))); rintro e w4 ⟨rfl, n4, I4, hb4, hb34⟩; have c0 := I4.c0; have c1 := I4.c1; have f0 := I4.f 0; have f1 := I4.f 1))
 all_goals
  go_wp2_with fail
  refine bodyPost_ret (v := .agg #[.bool (zneg (zv false m)), .slice A3 (dig m).length c3]) (by simp [results, Tryz.results170, go_sem, c0, c1]) rfl ?_
  exact retz_of HX.out hc3 n4 I4 (by omega) hb4 _ _ rfl
end

section
open Go.RowKit
abbrev zl (z : Int) : Nat := (dig z.natAbs).length
theorem zl_add (y z : Int) : zl (y + z) ≤ zl y + zl z + 1 := Nat.le_trans (dl_le (Int.natAbs_add_le y z)) (dl_add _ _)
theorem zl_mul (y z : Int) : zl (y * z) ≤ zl y + zl z := by unfold zl; rw [Int.natAbs_mul]; exact dl_mul _ _
theorem zl_neg (z : Int) : zl (-z) = zl z := by unfold zl; rw [Int.natAbs_neg]
theorem zl_val {s : Bool} {xs : List Nat} {z : Int} (hd : Digs xs) (h : zv s (val xs) = z) : zl z ≤ xs.length := by
 unfold zl; rw [← h, zv_natAbs]; exact dig_length_val hd
theorem zv_dig (z : Int) : zv (zneg z) (val (dig z.natAbs)) = z := by rw [val_dig, zv_zneg]
