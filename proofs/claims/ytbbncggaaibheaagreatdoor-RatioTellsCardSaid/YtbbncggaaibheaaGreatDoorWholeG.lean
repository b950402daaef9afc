/- whole: DivMod, walked. -/
import Derived.Test.YtbbncggaaibheaaGreatDoorWholeF
import Derived.Test.YtbbncggaaibheaaGreatDoorWholeD
namespace Go.Proofs.YtbbncggaaibheaaGreatDoor
open Go.RowKit

set_option maxRecDepth 10000 in
set_option maxHeartbeats 4000000 in
theorem zdivmod_any (w : World) (s t : Bool) (A B : Option Addr) (c d : Nat) (xs ys : List Nat) (y z : Int) (ha : Num w A xs) (hb : Num w B ys) (hx : zv s (val xs) = y) (hy : zv t (val ys) = z) (hn : xs.length ≤ 400000) (hm : ys.length ≤ 400000) (hc : xs.length ≤ c) (hd : ys.length ≤ d) :
    Calls Tryz.prog 60 #[.agg #[.bool s, .slice A xs.length c], .agg #[.bool t, .slice B ys.length d]] w (RetZZ w (y / z) (zrem y z)) := by
  have hd1 := dig_length_val ha.1
  have hd2 := dig_length_val hb.1
  obtain ⟨a, hva⟩ : ∃ a, val xs = a := ⟨_, rfl⟩
  obtain ⟨b, hvb⟩ : ∃ b, val ys = b := ⟨_, rfl⟩
  rw [hva] at hd1 hx
  rw [hvb] at hd2 hy
  have HA := Lib.hid ha
  have HB := Lib.hid hb
  have HVA := Lib.hid hva
  have HVB := Lib.hid hvb
  obtain ⟨hzq, hzr⟩ := zdm_eq s t a b
  rw [hx, hy] at hzq hzr
  have HZQ := Lib.hid hzq
  have HZR := Lib.hid hzr
  have hqlen := dq_len s a b
  have hrlen := dr_len s a b
  have hql : (dig (dq s a b)).length ≤ 8589934592 := by omega
  have hrl : (dig (dr s a b)).length ≤ 8589934592 := by omega
  have hml : (dig (dmr a b)).length ≤ 1000000 := by
    have h : dmr a b ≤ a := by unfold dmr; have := Nat.mod_le a b; split <;> omega
    have := dl_le h
    omega
  have hmq : (dig (dmq a b)).length ≤ 1000000 := by
    have := dl_le (show dmq a b ≤ a from Nat.div_le_self a b)
    omega
  clear ha hb hx hy hva hvb hzq hzr hqlen hrlen
  go_enter Tryz.func60, Tryz.ntmps60
  go_wp2_with fail
  have HW := Lib.hid (show Below w.heap.size w ((((w.alloc (.cells #[.bool s, .slice A xs.length c] 25)).alloc (.cells #[.bool t, .slice B ys.length d] 25)).alloc (.cells #[.bool false, .slice none 0 0] 25)).alloc (.cells #[.bool false, .slice none 0 0] 25)) from
    ((((Below.refl _ _).alloc (Nat.le_refl _) _).alloc (by simp) _).alloc (by simp; omega) _).alloc (by simp; omega) _)
  have HC4 := Lib.hid (((C4.base w (.bool s) (.slice A xs.length c) (.bool t) (.slice B ys.length d) 25 25).alloc (.cells #[.bool false, .slice none 0 0] 25)).alloc (.cells #[.bool false, .slice none 0 0] 25))
  have HG1 := Lib.hid (show Ibx ((((w.alloc (.cells #[.bool s, .slice A xs.length c] 25)).alloc (.cells #[.bool t, .slice B ys.length d] 25)).alloc (.cells #[.bool false, .slice none 0 0] 25)).alloc (.cells #[.bool false, .slice none 0 0] 25)) (w.heap.size + 1 + 1) false none 0 0 from (Ibx.new' _ _ _ _ _ _ (by simp)).alloc _)
  have HG2 := Lib.hid (show Ibx ((((w.alloc (.cells #[.bool s, .slice A xs.length c] 25)).alloc (.cells #[.bool t, .slice B ys.length d] 25)).alloc (.cells #[.bool false, .slice none 0 0] 25)).alloc (.cells #[.bool false, .slice none 0 0] 25)) (w.heap.size + 1 + 1 + 1) false none 0 0 from Ibx.new' _ _ _ _ _ _ (by simp))
  have HDM := Lib.hid (dm_v ((((w.alloc (.cells #[.bool s, .slice A xs.length c] 25)).alloc (.cells #[.bool t, .slice B ys.length d] 25)).alloc (.cells #[.bool false, .slice none 0 0] 25)).alloc (.cells #[.bool false, .slice none 0 0] 25)) A B c d xs ys a b ((((HA.out.alloc _).alloc _).alloc _).alloc _) ((((HB.out.alloc _).alloc _).alloc _).alloc _) HVA.out HVB.out (by omega) (by omega) hc hd)
  refine HDM.out.mono ?_
  rintro e w1 ⟨Aq, cq, Ar, cr, rfl, hcq, hcr, hq, hr, hb1⟩
  have HC1 := Lib.hid (C4.below hb1 HC4.out)
  have G11 := Lib.hid (HG1.out.below hb1)
  have G21 := Lib.hid (HG2.out.below hb1)
  have HW1 := Lib.hid (HW.out.trans (hb1.mono HW.out.size))
  have HQ := Lib.hid hq
  have HR := Lib.hid hr
  have HNB := Lib.hid (((((HB.out.alloc _).alloc _).alloc _).alloc _ : Num ((((w.alloc (.cells #[.bool s, .slice A xs.length c] 25)).alloc (.cells #[.bool t, .slice B ys.length d] 25)).alloc (.cells #[.bool false, .slice none 0 0] 25)).alloc (.cells #[.bool false, .slice none 0 0] 25)) B ys).below hb1)
  clear hb1 hq hr HDM HW HC4 HG1 HG2
  have HBI := Lib.hid (bits_any w1 Ar cr (dig (dmr a b)) HR.out (by omega) hcr)
  rw [val_dig] at HBI
  go_upto_region 2 with fail
  obtain ⟨k0, k1, k2, k3⟩ := HC1.out
  by_cases hs : s = true ∧ 0 < dmr a b
  · obtain ⟨hs1, hs2⟩ := hs
    have hdq : dmq a b + 1 = dq s a b := by unfold dq; rw [if_pos ⟨hs1, hs2⟩]
    have hdr : b - dmr a b = dr s a b := by unfold dr; rw [if_pos ⟨hs1, hs2⟩]
    have hbp := blen_pos (Nat.pos_iff_ne_zero.1 hs2)
    have hbd : decide ((0 : Int) < ((blen (dmr a b) : Nat) : Int)) = true := decide_eq_true (by omega)
    have hbp' : (0 : Int) < ((blen (dmr a b) : Nat) : Int) := by omega
    have HDQ := Lib.hid hdq
    have HDR := Lib.hid hdr
    clear hdq hdr hs2 hbp
    subst hs1
    rw [Bool.true_bne] at HZQ
    go_wp2_with fail
    refine HBI.out.mono ?_
    rintro e w' ⟨rfl, rfl⟩
    have HL1 : Hid (Num (w1.alloc (.cells #[.int .u64 1] 30)) (some ⟨w1.heap.size, 0, none⟩) [1]) := (Blk.lit1' w1 1).num (Digs.cons (by rw [B64_eq]; omega) Digs.nil)
    go_upto_region 3 with fail
    go_region_held3 (fun W => W.cell? ⟨w.heap.size, 0, none⟩ = some (.bool true) ∧ W.cell? ⟨w.heap.size, 1, none⟩ = some (.slice A xs.length c) ∧ W.cell? ⟨w.heap.size + 1, 0, none⟩ = some (.bool t) ∧ W.cell? ⟨w.heap.size + 1, 1, none⟩ = some (.slice B ys.length d))
     (first | exact C4.below hb4 (by assumption) | exact C4.below hb3 (by assumption) | exact C4.alloc (by assumption) _ | exact C4.drew HC1.out | assumption)
     (first
      | (go_at_call 117; refine (add_v _ Aq (some ⟨w1.heap.size, 0, none⟩) cq 1 (dig (dmq a b)) [1] (dmq a b) 1 ?_ ?_ (val_dig _) (by rw [val_cons, val_nil, Nat.mul_zero]) (by omega) (by simp) hcq (by simp)).mono ?_; (focus (repeat (first | exact HQ.out | (with_reducible refine Num.drew ?_) | (with_reducible refine Num.alloc ?_ _)))); (repeat (first | exact HL1.out | (with_reducible refine Num.drew ?_))); rintro e w3 ⟨A3, c3, rfl, hc3, h3, hb3⟩)
      | (go_at_call 118; refine (sub_v w3 B Ar d cr ys (dig (dmr a b)) b (dmr a b) ?_ ?_ HVB.out (val_dig _) (by omega) (by omega) hd hcr).mono ?_; (refine Num.below ?_ hb3); (repeat (first | exact HNB.out | (with_reducible refine Num.drew ?_) | (with_reducible refine Num.alloc ?_ _))); (refine Num.below ?_ hb3); (repeat (first | exact HR.out | (with_reducible refine Num.drew ?_) | (with_reducible refine Num.alloc ?_ _))); rintro e w4 ⟨A4, c4, rfl, hc4, h4, hb4⟩))
    all_goals
      rw [HDQ.out] at hc3 h3
      rw [HDR.out] at hc4 h4
      have hqc := hc3
      have hrc := hc4
      have hL : DivAt w true t A B xs.length ys.length c d A3 A4 (dq true a b) (dr true a b) w4 := by
        have b1 : Below w1.heap.size w1 (w1.alloc (.cells #[.int .u64 1] 30)).drew := ((Below.refl _ _).alloc (Nat.le_refl _) _).drew
        have b3 := b1.trans (hb3.mono (Nat.le_trans b1.size (Nat.le_refl _)))
        have b4 := b3.trans (hb4.mono b3.size)
        exact ⟨C4.below b4 HC1.out, G11.out.below b4, G21.out.below b4, h3.below hb4, h4, HW1.out.trans (b4.mono HW1.out.size)⟩
      rw [HDQ.out, HDR.out]
      clear hc3 h3 hc4 h4 hb3 hb4
      have HL := Lib.hid hL
      obtain ⟨k0, k1, k2, k3⟩ := hL.c4
      clear hL
      go_wp2_with fail
      refine (signOf_any _ _).mono ?_
      rintro e w5 ⟨rfl, hw5⟩
      have hp5 : w4.heap.size < w5.heap.size := by rw [hw5]; simp
      have S5 : Sbx w5 w4.heap.size (!t) := by rw [hw5]; exact Sbx.new' _ _ _ rfl
      have B5 : Below w4.heap.size w4 w5 := by rw [hw5]; exact (Below.refl _ _).alloc (Nat.le_refl _) _
      clear hw5
      have N5 := Lib.hid (number_at w w5 w5 w4.heap.size (w.heap.size + 1 + 1) c3 (dq true a b) (!t) false A3 none 0 0 S5 (HL.out.g1.below B5) (HL.out.bel.trans (B5.mono HL.out.bel.size)) (Below.refl _ _) (HL.out.q.below B5) hql hqc)
      have R5 := Lib.hid (HL.out.r.below B5)
      have G5 := Lib.hid (HL.out.g2.below B5)
      clear S5 B5
      go_wp2_with fail
      refine N5.out.mono ?_
      rintro e w6 ⟨rfl, n6, I6, hb6, hb56⟩
      have N6 := Lib.hid n6
      have G6 := Lib.hid I6
      have B6 := Lib.hid hb6
      have R6 := Lib.hid (R5.out.below hb56)
      have H6 := Lib.hid (G5.out.below hb56)
      clear n6 I6 hb6 hb56 N5 R5 G5 HL
      go_wp2_with fail
      refine (signOf_any _ _).mono ?_
      rintro e w7 ⟨rfl, hw7⟩
      have S7 : Sbx w7 w6.heap.size false := by rw [hw7]; exact Sbx.new' _ _ _ rfl
      have B7 : Below w6.heap.size w6 w7 := by rw [hw7]; exact (Below.refl _ _).alloc (Nat.le_refl _) _
      clear hw7
      have N7 := Lib.hid (number_at w w7 w7 w6.heap.size (w.heap.size + 1 + 1 + 1) c4 (dr true a b) false false A4 none 0 0 S7 (H6.out.below B7) (B6.out.trans (B7.mono B6.out.size)) (Below.refl _ _) (R6.out.below B7) hrl hrc)
      have Q7 := Lib.hid (N6.out.below B7)
      have F7 := Lib.hid (G6.out.below B7)
      clear S7 B7
      go_wp2_with fail
      refine N7.out.mono ?_
      rintro e w8 ⟨rfl, n8, I8, hb8, hb78⟩
      have J8 := F7.out.below hb78
      have c0 := I8.c0
      have c3' := I8.c1
      have f0 := I8.f 0
      have f1 := I8.f 1
      have e0 := J8.c0
      have e1 := J8.c1
      have h0 := J8.f 0
      have h1 := J8.f 1
      have Q8 := Lib.hid (Q7.out.below hb78)
      have N8 := Lib.hid n8
      have G8 := Lib.hid I8
      have K8 := Lib.hid J8
      have B8 := Lib.hid hb8
      clear n8 I8 J8 hb8 hb78 N7 Q7 F7 N6 G6 R6 H6 B6
      go_wp2_with fail
      refine bodyPost_ret (v := .tuple #[.agg #[.bool (zneg (zv (!t) (dq true a b))), .slice A3 (dig (dq true a b)).length c3], .agg #[.bool (zneg (zv false (dr true a b))), .slice A4 (dig (dr true a b)).length c4]]) (by simp [results, Tryz.results60, go_sem, c0, c3', e0, e1]) rfl ?_
      exact retzz_of HZQ.out HZR.out hqc hrc Q8.out N8.out K8.out G8.out (by omega) (by omega) (by omega) B8.out _ _ _ _
  · have hdq : dmq a b = dq s a b := by unfold dq; rw [if_neg hs]
    have hdr : dmr a b = dr s a b := by unfold dr; rw [if_neg hs]
    rw [hdq]
    rw [hdr]
    rw [hdq] at HQ hcq hmq
    rw [hdr] at HR hcr hml HBI hs
    have hqc := hcq
    have hrc := hcr
    have hL : DivAt w s t A B xs.length ys.length c d Aq Ar (dq s a b) (dr s a b) w1 := ⟨HC1.out, G11.out, G21.out, HQ.out, HR.out, HW1.out⟩
    clear hdq hdr
    cases s with
    | false =>
      rw [Bool.false_bne] at HZQ
      clear hs
      have HL := Lib.hid hL
      obtain ⟨k0, k1, k2, k3⟩ := hL.c4
      clear hL
      go_wp2_with fail
      refine (signOf_any _ _).mono ?_
      rintro e w5 ⟨rfl, hw5⟩
      have hp5 : w1.heap.size < w5.heap.size := by rw [hw5]; simp
      have S5 : Sbx w5 w1.heap.size t := by rw [hw5]; exact Sbx.new' _ _ _ rfl
      have B5 : Below w1.heap.size w1 w5 := by rw [hw5]; exact (Below.refl _ _).alloc (Nat.le_refl _) _
      clear hw5
      have N5 := Lib.hid (number_at w w5 w5 w1.heap.size (w.heap.size + 1 + 1) cq (dq false a b) t false Aq none 0 0 S5 (HL.out.g1.below B5) (HL.out.bel.trans (B5.mono HL.out.bel.size)) (Below.refl _ _) (HL.out.q.below B5) hql hqc)
      have R5 := Lib.hid (HL.out.r.below B5)
      have G5 := Lib.hid (HL.out.g2.below B5)
      clear S5 B5
      go_wp2_with fail
      refine N5.out.mono ?_
      rintro e w6 ⟨rfl, n6, I6, hb6, hb56⟩
      have N6 := Lib.hid n6
      have G6 := Lib.hid I6
      have B6 := Lib.hid hb6
      have R6 := Lib.hid (R5.out.below hb56)
      have H6 := Lib.hid (G5.out.below hb56)
      clear n6 I6 hb6 hb56 N5 R5 G5 HL
      go_wp2_with fail
      refine (signOf_any _ _).mono ?_
      rintro e w7 ⟨rfl, hw7⟩
      have S7 : Sbx w7 w6.heap.size false := by rw [hw7]; exact Sbx.new' _ _ _ rfl
      have B7 : Below w6.heap.size w6 w7 := by rw [hw7]; exact (Below.refl _ _).alloc (Nat.le_refl _) _
      clear hw7
      have N7 := Lib.hid (number_at w w7 w7 w6.heap.size (w.heap.size + 1 + 1 + 1) cr (dr false a b) false false Ar none 0 0 S7 (H6.out.below B7) (B6.out.trans (B7.mono B6.out.size)) (Below.refl _ _) (R6.out.below B7) hrl hrc)
      have Q7 := Lib.hid (N6.out.below B7)
      have F7 := Lib.hid (G6.out.below B7)
      clear S7 B7
      go_wp2_with fail
      refine N7.out.mono ?_
      rintro e w8 ⟨rfl, n8, I8, hb8, hb78⟩
      have J8 := F7.out.below hb78
      have c0 := I8.c0
      have cq' := I8.c1
      have f0 := I8.f 0
      have f1 := I8.f 1
      have e0 := J8.c0
      have e1 := J8.c1
      have h0 := J8.f 0
      have h1 := J8.f 1
      have Q8 := Lib.hid (Q7.out.below hb78)
      have N8 := Lib.hid n8
      have G8 := Lib.hid I8
      have K8 := Lib.hid J8
      have B8 := Lib.hid hb8
      clear n8 I8 J8 hb8 hb78 N7 Q7 F7 N6 G6 R6 H6 B6
      go_wp2_with fail
      refine bodyPost_ret (v := .tuple #[.agg #[.bool (zneg (zv t (dq false a b))), .slice Aq (dig (dq false a b)).length cq], .agg #[.bool (zneg (zv false (dr false a b))), .slice Ar (dig (dr false a b)).length cr]]) (by simp [results, Tryz.results60, go_sem, c0, cq', e0, e1]) rfl ?_
      exact retzz_of HZQ.out HZR.out hqc hrc Q8.out N8.out K8.out G8.out (by omega) (by omega) (by omega) B8.out _ _ _ _
    | true =>
      rw [Bool.true_bne] at HZQ
      have h0 : dr true a b = 0 := Nat.eq_zero_of_not_pos fun h => hs ⟨rfl, h⟩
      have hbl0 : blen (dr true a b) = 0 := by rw [h0, blen_zero]
      rw [hbl0] at HBI
      clear hs h0 hbl0
      go_wp2_with fail
      refine HBI.out.mono ?_
      rintro e w' ⟨rfl, rfl⟩
      have HL := Lib.hid hL
      obtain ⟨k0, k1, k2, k3⟩ := hL.c4
      clear hL
      go_wp2_with fail
      refine (signOf_any _ _).mono ?_
      rintro e w5 ⟨rfl, hw5⟩
      have hp5 : w1.heap.size < w5.heap.size := by rw [hw5]; simp
      have S5 : Sbx w5 w1.heap.size (!t) := by rw [hw5]; exact Sbx.new' _ _ _ rfl
      have B5 : Below w1.heap.size w1 w5 := by rw [hw5]; exact (Below.refl _ _).alloc (Nat.le_refl _) _
      clear hw5
      have N5 := Lib.hid (number_at w w5 w5 w1.heap.size (w.heap.size + 1 + 1) cq (dq true a b) (!t) false Aq none 0 0 S5 (HL.out.g1.below B5) (HL.out.bel.trans (B5.mono HL.out.bel.size)) (Below.refl _ _) (HL.out.q.below B5) hql hqc)
      have R5 := Lib.hid (HL.out.r.below B5)
      have G5 := Lib.hid (HL.out.g2.below B5)
      clear S5 B5
      go_wp2_with fail
      refine N5.out.mono ?_
      rintro e w6 ⟨rfl, n6, I6, hb6, hb56⟩
      have N6 := Lib.hid n6
      have G6 := Lib.hid I6
      have B6 := Lib.hid hb6
      have R6 := Lib.hid (R5.out.below hb56)
      have H6 := Lib.hid (G5.out.below hb56)
      clear n6 I6 hb6 hb56 N5 R5 G5 HL
      go_wp2_with fail
      refine (signOf_any _ _).mono ?_
      rintro e w7 ⟨rfl, hw7⟩
      have S7 : Sbx w7 w6.heap.size false := by rw [hw7]; exact Sbx.new' _ _ _ rfl
      have B7 : Below w6.heap.size w6 w7 := by rw [hw7]; exact (Below.refl _ _).alloc (Nat.le_refl _) _
      clear hw7
      have N7 := Lib.hid (number_at w w7 w7 w6.heap.size (w.heap.size + 1 + 1 + 1) cr (dr true a b) false false Ar none 0 0 S7 (H6.out.below B7) (B6.out.trans (B7.mono B6.out.size)) (Below.refl _ _) (R6.out.below B7) hrl hrc)
      have Q7 := Lib.hid (N6.out.below B7)
      have F7 := Lib.hid (G6.out.below B7)
      clear S7 B7
      go_wp2_with fail
      refine N7.out.mono ?_
      rintro e w8 ⟨rfl, n8, I8, hb8, hb78⟩
      have J8 := F7.out.below hb78
      have c0 := I8.c0
      have cq' := I8.c1
      have f0 := I8.f 0
      have f1 := I8.f 1
      have e0 := J8.c0
      have e1 := J8.c1
      have h0 := J8.f 0
      have h1 := J8.f 1
      have Q8 := Lib.hid (Q7.out.below hb78)
      have N8 := Lib.hid n8
      have G8 := Lib.hid I8
      have K8 := Lib.hid J8
      have B8 := Lib.hid hb8
      clear n8 I8 J8 hb8 hb78 N7 Q7 F7 N6 G6 R6 H6 B6
      go_wp2_with fail
      refine bodyPost_ret (v := .tuple #[.agg #[.bool (zneg (zv (!t) (dq true a b))), .slice Aq (dig (dq true a b)).length cq], .agg #[.bool (zneg (zv false (dr true a b))), .slice Ar (dig (dr true a b)).length cr]]) (by simp [results, Tryz.results60, go_sem, c0, cq', e0, e1]) rfl ?_
      exact retzz_of HZQ.out HZR.out hqc hrc Q8.out N8.out K8.out G8.out (by omega) (by omega) (by omega) B8.out _ _ _ _
end Go.Proofs.YtbbncggaaibheaaGreatDoor
