/- Part 12 of the proof: WholeD, WholeG. -/
import Derived.Test.YthjiacmhhpfokaaGreatM11
namespace Go.Proofs.YthjiacmhhpfokaaGreat
open Lib renaming hid → lh
open Nat renaming le_refl → lR
open Go.RowKit.Below renaming refl → bR
section
set_option maxHeartbeats 2000000
open Go.RowKit
theorem u64_neg_wrap {n : Int} (h1 : -9223372036854775808 ≤ n) (h2 : n < 0) : IntKind.u64.wrap (-IntKind.u64.wrap n) = ((n.natAbs : Nat) : Int) := by
 rw [IntKind.wrap_u64, IntKind.wrap_u64]; omega
theorem u64_wrap_nonneg {n : Int} (h1 : n ≤ 9223372036854775807) (h2 : 0 ≤ n) : IntKind.u64.wrap n = ((n.natAbs : Nat) : Int) := by
 rw [IntKind.wrap_u64]; omega
theorem Blk.lit1' (w : World) (x : Nat) : Blk (w.alloc (.cells #[.int .u64 (x : Int)] 164)) w.heap.size [x] := Blk.lit w [x]
theorem of_tail (W1 : World) (p : Nat) (z : Int) (hp : p = W1.heap.size) (hlt : z.natAbs < B64) :
  Calls Tryz.prog 168 #[.slice (some ⟨p, 0, none⟩) 1 1] (W1.alloc (.cells #[.int .u64 ((z.natAbs : Nat) : Int)] 164))
   fun e w3 => ∃ A3 c3, e = .returned (.slice A3 (dig z.natAbs).length c3) ∧ (dig z.natAbs).length ≤ c3 ∧ (dig z.natAbs).length ≤ 1 ∧ Num w3 A3 (dig z.natAbs) ∧ Below (W1.alloc (.cells #[.int .u64 ((z.natAbs : Nat) : Int)] 164)).heap.size (W1.alloc (.cells #[.int .u64 ((z.natAbs : Nat) : Int)] 164)) w3 := by
 subst hp
 have hd : Digs [z.natAbs] := Digs.cons hlt Digs.nil
 have h := trim_v (W1.alloc (.cells #[.int .u64 ((z.natAbs : Nat) : Int)] 164)) (some ⟨W1.heap.size, 0, none⟩) 1 [z.natAbs] z.natAbs ((Blk.lit1' W1 z.natAbs).num hd) (by rw [val_cons, val_nil]; omega) (by simp) (by simp)
 refine h.mono ?_
 rintro e w3 ⟨A3, c3, rfl, hc3, h3, hb3⟩
 exact ⟨A3, c3, rfl, hc3, dig_length_le (by rw [Nat.pow_one]; exact hlt), h3, hb3⟩
theorem of_any (w : World) (z : Int) (h1 : -9223372036854775808 ≤ z) (h2 : z ≤ 9223372036854775807) :
  Calls Tryz.prog 126 #[.int .i64 z] w (RetZ w z) := by
 have hlt : z.natAbs < B64 := by rw [B64_eq]; omega
 have HLT := lh hlt
 clear hlt
 by_cases hs : z < 0
 ·have hw1 := u64_neg_wrap h1 hs
  have HZ : Hid (zv true z.natAbs = z) := by show _ = _; simp only [zv, if_true]; omega
  go_enter Tryz.func126, Tryz.ntmps126
  go_wp2_with fail
  refine (signOf_any _ _).mono ?_
  rintro e w1 ⟨rfl, rfl⟩
  have S1 : Sbx ((w.alloc (.cells #[.bool false, .slice none 0 0] 25)).alloc (.cells #[.bool true] 4)) (w.heap.size + 1) true := Sbx.new' _ _ _ (by simp)
  have I1 : Ibx ((w.alloc (.cells #[.bool false, .slice none 0 0] 25)).alloc (.cells #[.bool true] 4)) w.heap.size false none 0 0 := (Ibx.new' _ _ _ _ _ _ rfl).alloc _
  have W1 : Below w.heap.size w ((w.alloc (.cells #[.bool false, .slice none 0 0] 25)).alloc (.cells #[.bool true] 4)) := ((bR _ _).alloc (lR _) _).alloc (by simp) _
  have HS := lh S1
  have HI := lh I1
  have HW := lh W1
  have HT := lh (of_tail ((w.alloc (.cells #[.bool false, .slice none 0 0] 25)).alloc (.cells #[.bool true] 4)) (w.heap.size + 1 + 1) z (by simp) HLT.out)
  clear S1 I1 W1
  go_wp2_with fail
  refine HT.out.mono ?_
  rintro e w3 ⟨A3, c3, rfl, hc3, hl3, ha3, hb3⟩
  have HN := lh (number_at w _ w3 (w.heap.size + 1) w.heap.size c3 z.natAbs true false A3 none 0 0 (HS.out.alloc _) (HI.out.alloc _) (HW.out.alloc HW.out.size _) hb3 ha3 (by omega) hc3)
  clear hb3 HS HI HW HT ha3
  go_wp2_with fail
  refine HN.out.mono ?_
  rintro e w4 ⟨rfl, n4, I4, hb4, -⟩
  have c0 := I4.c0
  have c1 := I4.c1
  have f0 := I4.f 0
  have f1 := I4.f 1
  have N4 := lh n4
  have J4 := lh I4
  have B4 := lh hb4
  clear n4 I4 hb4 HN
  go_wp2_with fail
  refine bodyPost_ret (v := .agg #[.bool (zneg (zv true z.natAbs)), .slice A3 (dig z.natAbs).length c3]) (by simp [results, Tryz.results126, go_sem, c0, c1]) rfl ?_
  exact retz_of HZ.out hc3 N4.out J4.out (lR _) B4.out _ _ rfl
 ·have hw1 := u64_wrap_nonneg h2 (by omega)
  have HZ : Hid (zv false z.natAbs = z) := by show _ = _; simp only [zv]; rw [if_neg (by simp)]; omega
  go_enter Tryz.func126, Tryz.ntmps126
  go_wp2_with fail
  refine (signOf_any _ _).mono ?_
  rintro e w1 ⟨rfl, rfl⟩
  have S1 : Sbx ((w.alloc (.cells #[.bool false, .slice none 0 0] 25)).alloc (.cells #[.bool false] 4)) (w.heap.size + 1) false := Sbx.new' _ _ _ (by simp)
  have I1 : Ibx ((w.alloc (.cells #[.bool false, .slice none 0 0] 25)).alloc (.cells #[.bool false] 4)) w.heap.size false none 0 0 := (Ibx.new' _ _ _ _ _ _ rfl).alloc _
  have W1 : Below w.heap.size w ((w.alloc (.cells #[.bool false, .slice none 0 0] 25)).alloc (.cells #[.bool false] 4)) := ((bR _ _).alloc (lR _) _).alloc (by simp) _
  have HS := lh S1
  have HI := lh I1
  have HW := lh W1
  have HT := lh (of_tail ((w.alloc (.cells #[.bool false, .slice none 0 0] 25)).alloc (.cells #[.bool false] 4)) (w.heap.size + 1 + 1) z (by simp) HLT.out)
  clear S1 I1 W1
  go_wp2_with fail
  refine HT.out.mono ?_
  rintro e w3 ⟨A3, c3, rfl, hc3, hl3, ha3, hb3⟩
  have HN := lh (number_at w _ w3 (w.heap.size + 1) w.heap.size c3 z.natAbs false false A3 none 0 0 (HS.out.alloc _) (HI.out.alloc _) (HW.out.alloc HW.out.size _) hb3 ha3 (by omega) hc3)
  clear hb3 HS HI HW HT ha3
  go_wp2_with fail
  refine HN.out.mono ?_
  rintro e w4 ⟨rfl, n4, I4, hb4, -⟩
  have c0 := I4.c0
  have c1 := I4.c1
  have f0 := I4.f 0
  have f1 := I4.f 1
  have N4 := lh n4
  have J4 := lh I4
  have B4 := lh hb4
  clear n4 I4 hb4 HN
  go_wp2_with fail
  refine bodyPost_ret (v := .agg #[.bool (zneg (zv false z.natAbs)), .slice A3 (dig z.natAbs).length c3]) (by simp [results, Tryz.results126, go_sem, c0, c1]) rfl ?_
  exact retz_of HZ.out hc3 N4.out J4.out (lR _) B4.out _ _ rfl
def smallv (z : Int) : Int := if -9223372036854775808 ≤ z ∧ z ≤ 9223372036854775807 then z else 0
def smallb (z : Int) : Bool := decide (-9223372036854775808 ≤ z ∧ z ≤ 9223372036854775807)
theorem one_digit {xs : List Nat} (hd : Digs xs) (h : val xs < B64) (hp : 0 < xs.length) : val xs = dg xs 0 := by
 cases xs with
 | nil => simp at hp
 | cons x r =>
  rw [val_cons] at h ⊢
  have h1 : val r = 0 := by
   rcases Nat.eq_zero_or_pos (val r) with h2 | h2
   ·exact h2
   ·have := Nat.mul_le_mul_left B64 h2
    omega
  rw [h1]; rfl
theorem blen_small {m : Nat} : blen m ≤ 64 ↔ m < B64 := by
 constructor
 ·intro h
  have h1 := blen_lt m
  have h2 : 2 ^ blen m ≤ 2 ^ 64 := Nat.pow_le_pow_right (by omega) h
  rw [B64_pow]; omega
 ·intro h
  exact blen_le_of_lt (by rw [← B64_pow]; exact h)
theorem small_any (w : World) (s : Bool) (A : Option Addr) (c : Nat) (xs : List Nat) (z : Int) (ha : Num w A xs) (hx : zv s (val xs) = z) (hn : xs.length ≤ 1000000) (hc : xs.length ≤ c) :
  Calls Tryz.prog 202 #[.agg #[.bool s, .slice A xs.length c]] w fun e w' => e = .returned (.tuple #[.int .i64 (smallv z), .bool (smallb z)]) ∧ Below w.heap.size w w' := by
 have HB := lh (fun o => bits_any (w.alloc o) A c xs (ha.alloc o) (by omega) hc)
 have HW : Hid (Below w.heap.size w (w.alloc (.cells #[.bool s, .slice A xs.length c] 25))) := (bR _ _).alloc (lR _) _
 have hdl := dig_length_val ha.1
 obtain ⟨m, hm⟩ : ∃ m, val xs = m := ⟨_, rfl⟩
 rw [hm] at hx hdl HB
 by_cases h0 : m = 0
 ·have hz : (((blen m : Nat) : Int) == 0) = true := by rw [h0, blen_zero]; rfl
  have HZ : Hid (z = 0) := by show _ = _; rw [← hx, h0, zv_zero]
  clear ha hx hm h0
  go_enter Tryz.func202, Tryz.ntmps202
  go_wp2_with fail
  refine (HB.out _).mono ?_
  rintro e w' ⟨rfl, rfl⟩
  go_wp2_with fail
  go_ret2
  rw [HZ.out]
  exact ⟨rfl, HW.out⟩
 ·have hz : (((blen m : Nat) : Int) == 0) = false := by rw [beq_eq_false_iff_ne]; have := blen_pos h0; omega
  have hxp : 0 < xs.length := by
   rcases Nat.eq_zero_or_pos xs.length with h | h
   ·rw [List.length_eq_zero_iff.1 h] at hm; exact absurd hm.symm h0
   ·exact h
  have hxp' : (0 : Int) < (xs.length : Int) := by omega
  obtain ⟨b1, o1, rfl, hb1, hcell⟩ := ha.at_ hxp
  have hx0 := hcell 0 hxp
  rw [Nat.add_zero] at hx0
  have hx1 : (w.alloc (.cells #[.bool s, .slice (some ⟨b1, o1, none⟩) xs.length c] 25)).cell? ⟨b1, o1, none⟩ = some (.int .u64 ((dg xs 0 : Nat) : Int)) := (World.cell?_alloc_lt w _ _ hb1).trans hx0
  have hdg := dg_lt ha.1 0
  have h64 : m < B64 → m = dg xs 0 := fun h => hm ▸ one_digit ha.1 (hm ▸ h) hxp
  by_cases hbig : m < B64
  ·have hbl := blen_small.2 hbig
   have hbl' : ¬ (64 : Int) < ((blen m : Nat) : Int) := by omega
   have hbd : decide ((64 : Int) < ((blen m : Nat) : Int)) = false := decide_eq_false hbl'
   have hmx := h64 hbig
   rw [← hmx] at hx1
   cases s with
   | false =>
    have hzm : z = (m : Int) := by rw [← hx]; simp [zv]
    by_cases hf : m ≤ 9223372036854775807
    ·have g1 : ¬ (9223372036854775807 : Int) < (m : Int) := by omega
     have gd : decide ((9223372036854775807 : Int) < (m : Int)) = false := decide_eq_false g1
     have HV : Hid (smallv z = (m : Int)) := by show _ = _; unfold smallv; rw [if_pos (by omega)]; exact hzm
     have HF : Hid (smallb z = true) := by show _ = _; unfold smallb; exact decide_eq_true (by omega)
     have hwr : IntKind.i64.wrap (m : Int) = (m : Int) := IntWalk.i64_in _ (by omega)
     clear ha hx hm h0 hx0 hcell h64 hmx hzm hbig hdg
     go_enter Tryz.func202, Tryz.ntmps202
     go_wp2_with fail
     refine (HB.out _).mono ?_
     rintro e w' ⟨rfl, rfl⟩
     go_wp2_with fail
     go_ret2
     rw [HV.out, HF.out]
     exact ⟨rfl, HW.out⟩
    ·have g1 : (9223372036854775807 : Int) < (m : Int) := by omega
     have gd : decide ((9223372036854775807 : Int) < (m : Int)) = true := decide_eq_true g1
     have HV : Hid (smallv z = 0) := by show _ = _; unfold smallv; rw [if_neg (by omega)]
     have HF : Hid (smallb z = false) := by show _ = _; unfold smallb; exact decide_eq_false (by omega)
     clear ha hx hm h0 hx0 hcell h64 hmx hzm hbig hdg
     go_enter Tryz.func202, Tryz.ntmps202
     go_wp2_with fail
     refine (HB.out _).mono ?_
     rintro e w' ⟨rfl, rfl⟩
     go_wp2_with fail
     go_ret2
     rw [HV.out, HF.out]
     exact ⟨rfl, HW.out⟩
   | true =>
    have hzm : z = -(m : Int) := by rw [← hx]; simp [zv]
    have hw2 : IntKind.u64.wrap ((9223372036854775807 : Int) + 1) = 9223372036854775808 := by rw [IntKind.wrap_u64]; rfl
    by_cases hf : m ≤ 9223372036854775808
    ·have g1 : ¬ (9223372036854775808 : Int) < (m : Int) := by omega
     have gd : decide ((9223372036854775808 : Int) < (m : Int)) = false := decide_eq_false g1
     have HV : Hid (smallv z = -(m : Int)) := by show _ = _; unfold smallv; rw [if_pos (by omega)]; exact hzm
     have HF : Hid (smallb z = true) := by show _ = _; unfold smallb; exact decide_eq_true (by omega)
     have hwr : IntKind.i64.wrap (IntKind.u64.wrap (-(m : Int))) = -(m : Int) := by rw [IntKind.wrap_u64, IntKind.wrap_i64]; omega
     clear ha hx hm h0 hx0 hcell h64 hmx hzm hbig hdg
     go_enter Tryz.func202, Tryz.ntmps202
     go_wp2_with fail
     refine (HB.out _).mono ?_
     rintro e w' ⟨rfl, rfl⟩
     go_wp2_with fail
     go_ret2
     rw [HV.out, HF.out]
     exact ⟨rfl, HW.out⟩
    ·have g1 : (9223372036854775808 : Int) < (m : Int) := by omega
     have gd : decide ((9223372036854775808 : Int) < (m : Int)) = true := decide_eq_true g1
     have HV : Hid (smallv z = 0) := by show _ = _; unfold smallv; rw [if_neg (by omega)]
     have HF : Hid (smallb z = false) := by show _ = _; unfold smallb; exact decide_eq_false (by omega)
     clear ha hx hm h0 hx0 hcell h64 hmx hzm hbig hdg
     go_enter Tryz.func202, Tryz.ntmps202
     go_wp2_with fail
     refine (HB.out _).mono ?_
     rintro e w' ⟨rfl, rfl⟩
     go_wp2_with fail
     go_ret2
     rw [HV.out, HF.out]
     exact ⟨rfl, HW.out⟩
  ·have hbl' : (64 : Int) < ((blen m : Nat) : Int) := by
    have : ¬ blen m ≤ 64 := fun h => hbig (blen_small.1 h)
    omega
   have hbd : decide ((64 : Int) < ((blen m : Nat) : Int)) = true := decide_eq_true hbl'
   have hzm : z < -9223372036854775808 ∨ 9223372036854775807 < z := by
    rw [B64_eq] at hbig
    rw [← hx]
    cases s <;> simp only [zv, if_true, Bool.false_eq_true, if_false] <;> omega
   have HV : Hid (smallv z = 0) := by show _ = _; unfold smallv; rw [if_neg (by omega)]
   have HF : Hid (smallb z = false) := by show _ = _; unfold smallb; exact decide_eq_false (by omega)
   clear ha hx hm h0 hx0 hcell h64 hzm hbig hdg
   cases s with
   | true =>
    have hw2 : IntKind.u64.wrap ((9223372036854775807 : Int) + 1) = 9223372036854775808 := by rw [IntKind.wrap_u64]; rfl
    go_enter Tryz.func202, Tryz.ntmps202
    go_wp2_with fail
    refine (HB.out _).mono ?_
    rintro e w' ⟨rfl, rfl⟩
    go_wp2_with fail
    go_ret2
    rw [HV.out, HF.out]
    exact ⟨rfl, HW.out⟩
   | false =>
    go_enter Tryz.func202, Tryz.ntmps202
    go_wp2_with fail
    refine (HB.out _).mono ?_
    rintro e w' ⟨rfl, rfl⟩
    go_wp2_with fail
    go_ret2
    rw [HV.out, HF.out]
    exact ⟨rfl, HW.out⟩
end

section
open Go.RowKit
set_option maxRecDepth 10000 in
set_option maxHeartbeats 4000000 in
theorem zdivmod_any (w : World) (s t : Bool) (A B : Option Addr) (c d : Nat) (xs ys : List Nat) (y z : Int) (ha : Num w A xs) (hb : Num w B ys) (hx : zv s (val xs) = y) (hy : zv t (val ys) = z) (hn : xs.length ≤ 400000) (hm : ys.length ≤ 400000) (hc : xs.length ≤ c) (hd : ys.length ≤ d) :
  Calls Tryz.prog 201 #[.agg #[.bool s, .slice A xs.length c], .agg #[.bool t, .slice B ys.length d]] w (RetZZ w (y / z) (zrem y z)) := by
 have hd1 := dig_length_val ha.1
 have hd2 := dig_length_val hb.1
 obtain ⟨a, hva⟩ : ∃ a, val xs = a := ⟨_, rfl⟩
 obtain ⟨b, hvb⟩ : ∃ b, val ys = b := ⟨_, rfl⟩
 rw [hva] at hd1 hx
 rw [hvb] at hd2 hy
 have HA := lh ha
 have HB := lh hb
 have HVA := lh hva
 have HVB := lh hvb
 obtain ⟨hzq, hzr⟩ := zdm_eq s t a b
 rw [hx, hy] at hzq hzr
 have HZQ := lh hzq
 have HZR := lh hzr
 have hqlen := dq_len s a b
 have hrlen := dr_len s a b
 have hql : (dig (dq s a b)).length ≤ 8589934592 := by omega
 have hrl : (dig (dr s a b)).length ≤ 8589934592 := by omega
 have hml : (dig (dmr a b)).length ≤ 1000000 := by
  have h : dmr a b ≤ a := by unfold dmr; have := Nat.mod_le a b; split <;> omega
  have := dl_le h
  omega
 have hmq : (dig (dmq a b)).length ≤ 1000000 := by
  have := dl_le (show dmq a b ≤ a from Nat.div_le_self a b)
  omega
 clear ha hb hx hy hva hvb hzq hzr hqlen hrlen
 go_enter Tryz.func201, Tryz.ntmps201
 go_wp2_with fail
 have HW := lh (show Below w.heap.size w ((((w.alloc (.cells #[.bool s, .slice A xs.length c] 25)).alloc (.cells #[.bool t, .slice B ys.length d] 25)).alloc (.cells #[.bool false, .slice none 0 0] 25)).alloc (.cells #[.bool false, .slice none 0 0] 25)) from
  ((((bR _ _).alloc (lR _) _).alloc (by simp) _).alloc (by simp; omega) _).alloc (by simp; omega) _)
 have HC4 := lh (((C4.base w (.bool s) (.slice A xs.length c) (.bool t) (.slice B ys.length d) 25 25).alloc (.cells #[.bool false, .slice none 0 0] 25)).alloc (.cells #[.bool false, .slice none 0 0] 25))
 have HG1 := lh (show Ibx ((((w.alloc (.cells #[.bool s, .slice A xs.length c] 25)).alloc (.cells #[.bool t, .slice B ys.length d] 25)).alloc (.cells #[.bool false, .slice none 0 0] 25)).alloc (.cells #[.bool false, .slice none 0 0] 25)) (w.heap.size + 1 + 1) false none 0 0 from (Ibx.new' _ _ _ _ _ _ (by simp)).alloc _)
 have HG2 := lh (show Ibx ((((w.alloc (.cells #[.bool s, .slice A xs.length c] 25)).alloc (.cells #[.bool t, .slice B ys.length d] 25)).alloc (.cells #[.bool false, .slice none 0 0] 25)).alloc (.cells #[.bool false, .slice none 0 0] 25)) (w.heap.size + 1 + 1 + 1) false none 0 0 from Ibx.new' _ _ _ _ _ _ (by simp))
 have HDM := lh (dm_v ((((w.alloc (.cells #[.bool s, .slice A xs.length c] 25)).alloc (.cells #[.bool t, .slice B ys.length d] 25)).alloc (.cells #[.bool false, .slice none 0 0] 25)).alloc (.cells #[.bool false, .slice none 0 0] 25)) A B c d xs ys a b ((((HA.out.alloc _).alloc _).alloc _).alloc _) ((((HB.out.alloc _).alloc _).alloc _).alloc _) HVA.out HVB.out (by omega) (by omega) hc hd)
 refine HDM.out.mono ?_
 rintro e w1 ⟨Aq, cq, Ar, cr, rfl, hcq, hcr, hq, hr, hb1⟩
 have HC1 := lh (C4.below hb1 HC4.out)
 have G11 := lh (HG1.out.below hb1)
 have G21 := lh (HG2.out.below hb1)
 have HW1 := lh (HW.out.trans (hb1.mono HW.out.size))
 have HQ := lh hq
 have HR := lh hr
 have HNB := lh (((((HB.out.alloc _).alloc _).alloc _).alloc _ : Num ((((w.alloc (.cells #[.bool s, .slice A xs.length c] 25)).alloc (.cells #[.bool t, .slice B ys.length d] 25)).alloc (.cells #[.bool false, .slice none 0 0] 25)).alloc (.cells #[.bool false, .slice none 0 0] 25)) B ys).below hb1)
 clear hb1 hq hr HDM HW HC4 HG1 HG2
 have HBI := lh (bits_any w1 Ar cr (dig (dmr a b)) HR.out (by omega) hcr)
 rw [val_dig] at HBI
 go_upto_region 2 with fail
 obtain ⟨k0, k1, k2, k3⟩ := HC1.out
 by_cases hs : s = true ∧ 0 < dmr a b
 ·obtain ⟨hs1, hs2⟩ := hs
  have hdq : dmq a b + 1 = dq s a b := by unfold dq; rw [if_pos ⟨hs1, hs2⟩]
  have hdr : b - dmr a b = dr s a b := by unfold dr; rw [if_pos ⟨hs1, hs2⟩]
  have hbp := blen_pos (Nat.pos_iff_ne_zero.1 hs2)
  have hbd : decide ((0 : Int) < ((blen (dmr a b) : Nat) : Int)) = true := decide_eq_true (by omega)
  have hbp' : (0 : Int) < ((blen (dmr a b) : Nat) : Int) := by omega
  have HDQ := lh hdq
  have HDR := lh hdr
  clear hdq hdr hs2 hbp
  subst hs1
  rw [Bool.true_bne] at HZQ
  go_wp2_with fail
  refine HBI.out.mono ?_
  rintro e w' ⟨rfl, rfl⟩
  have HL1 : Hid (Num (w1.alloc (.cells #[.int .u64 1] 164)) (some ⟨w1.heap.size, 0, none⟩) [1]) := (Blk.lit1' w1 1).num (Digs.cons (by rw [B64_eq]; omega) Digs.nil)
  go_upto_region 3 with fail
  go_region_held3 (fun W => W.cell? ⟨w.heap.size, 0, none⟩ = some (.bool true) ∧ W.cell? ⟨w.heap.size, 1, none⟩ = some (.slice A xs.length c) ∧ W.cell? ⟨w.heap.size + 1, 0, none⟩ = some (.bool t) ∧ W.cell? ⟨w.heap.size + 1, 1, none⟩ = some (.slice B ys.length d))
   (first | exact C4.below hb4 (by assumption) | exact C4.below hb3 (by assumption) | exact C4.alloc (by assumption) _ | exact C4.drew HC1.out | assumption)
   (first
   | (go_at_call 173; refine (add_v _ Aq (some ⟨w1.heap.size, 0, none⟩) cq 1 (dig (dmq a b)) [1] (dmq a b) 1 ?_ ?_ (val_dig _) (by rw [val_cons, val_nil, Nat.mul_zero]) (by omega) (by simp) hcq (by simp)).mono ?_; (focus (repeat (first | exact HQ.out | (with_reducible refine Num.drew ?_) | (with_reducible refine Num.alloc ?_ _)))); (repeat (first | exact HL1.out | (with_reducible refine Num.drew ?_))); rintro e w3 ⟨A3, c3, rfl, hc3, h3, hb3⟩)
   | (go_at_call 175; refine (sub_v w3 B Ar d cr ys (dig (dmr a b)) b (dmr a b) ?_ ?_ HVB.out (val_dig _) (by omega) (by omega) hd hcr).mono ?_; (refine Num.below ?_ hb3); (repeat (first | exact HNB.out | (with_reducible refine Num.drew ?_) | (with_reducible refine Num.alloc ?_ _))); (refine Num.below ?_ hb3); (repeat (first | exact HR.out | (with_reducible refine Num.drew ?_) | (with_reducible refine Num.alloc ?_ _))); rintro e w4 ⟨A4, c4, rfl, hc4, h4, hb4⟩))
  all_goals
   rw [HDQ.out] at hc3 h3
   rw [HDR.out] at hc4 h4
   have hqc := hc3
   have hrc := hc4
   have hL : DivAt w true t A B xs.length ys.length c d A3 A4 (dq true a b) (dr true a b) w4 := by
    have b1 : Below w1.heap.size w1 (w1.alloc (.cells #[.int .u64 1] 164)).drew := ((bR _ _).alloc (lR _) _).drew
    have b3 := b1.trans (hb3.mono (Nat.le_trans b1.size (lR _)))
    have b4 := b3.trans (hb4.mono b3.size)
    exact ⟨C4.below b4 HC1.out, G11.out.below b4, G21.out.below b4, h3.below hb4, h4, HW1.out.trans (b4.mono HW1.out.size)⟩
   rw [HDQ.out, HDR.out]
   clear hc3 h3 hc4 h4 hb3 hb4
   have HL := lh hL
   obtain ⟨k0, k1, k2, k3⟩ := hL.c4
   clear hL
   go_wp2_with fail
   refine (signOf_any _ _).mono ?_
   rintro e w5 ⟨rfl, hw5⟩
   have hp5 : w4.heap.size < w5.heap.size := by rw [hw5]; simp
   have S5 : Sbx w5 w4.heap.size (!t) := by rw [hw5]; exact Sbx.new' _ _ _ rfl
   have B5 : Below w4.heap.size w4 w5 := by rw [hw5]; exact (bR _ _).alloc (lR _) _
   clear hw5
   have N5 := lh (number_at w w5 w5 w4.heap.size (w.heap.size + 1 + 1) c3 (dq true a b) (!t) false A3 none 0 0 S5 (HL.out.g1.below B5) (HL.out.bel.trans (B5.mono HL.out.bel.size)) (bR _ _) (HL.out.q.below B5) hql hqc)
   have R5 := lh (HL.out.r.below B5)
   have G5 := lh (HL.out.g2.below B5)
   clear S5 B5
   go_wp2_with fail
   refine N5.out.mono ?_
   rintro e w6 ⟨rfl, n6, I6, hb6, hb56⟩
   have N6 := lh n6
   have G6 := lh I6
   have B6 := lh hb6
   have R6 := lh (R5.out.below hb56)
   have H6 := lh (G5.out.below hb56)
   clear n6 I6 hb6 hb56 N5 R5 G5 HL
   go_wp2_with fail
   refine (signOf_any _ _).mono ?_
   rintro e w7 ⟨rfl, hw7⟩
   have S7 : Sbx w7 w6.heap.size false := by rw [hw7]; exact Sbx.new' _ _ _ rfl
   have B7 : Below w6.heap.size w6 w7 := by rw [hw7]; exact (bR _ _).alloc (lR _) _
   clear hw7
   have N7 := lh (number_at w w7 w7 w6.heap.size (w.heap.size + 1 + 1 + 1) c4 (dr true a b) false false A4 none 0 0 S7 (H6.out.below B7) (B6.out.trans (B7.mono B6.out.size)) (bR _ _) (R6.out.below B7) hrl hrc)
   have Q7 := lh (N6.out.below B7)
   have F7 := lh (G6.out.below B7)
   clear S7 B7
   go_wp2_with fail
   refine N7.out.mono ?_
   rintro e w8 ⟨rfl, n8, I8, hb8, hb78⟩
   have J8 := F7.out.below hb78
   have c0 := I8.c0
   have c3' := I8.c1
   have f0 := I8.f 0
   have f1 := I8.f 1
   have e0 := J8.c0
   have e1 := J8.c1
   have h0 := J8.f 0
   have h1 := J8.f 1
   have Q8 := lh (Q7.out.below hb78)
   have N8 := lh n8
   have G8 := lh I8
   have K8 := lh J8
   have B8 := lh hb8
   clear n8 I8 J8 hb8 hb78 N7 Q7 F7 N6 G6 R6 H6 B6
   go_wp2_with fail
   refine bodyPost_ret (v := .tuple #[.agg #[.bool (zneg (zv (!t) (dq true a b))), .slice A3 (dig (dq true a b)).length c3], .agg #[.bool (zneg (zv false (dr true a b))), .slice A4 (dig (dr true a b)).length c4]]) (by simp [results, Tryz.results201, go_sem, c0, c3', e0, e1]) rfl ?_
   exact retzz_of HZQ.out HZR.out hqc hrc Q8.out N8.out K8.out G8.out (by omega) (by omega) (by omega) B8.out _ _ _ _
 ·have hdq : dmq a b = dq s a b := by unfold dq; rw [if_neg hs]
  have hdr : dmr a b = dr s a b := by unfold dr; rw [if_neg hs]
  rw [hdq]
  rw [hdr]
  rw [hdq] at HQ hcq hmq
  rw [hdr] at HR hcr hml HBI hs
  have hqc := hcq
  have hrc := hcr
  have hL : DivAt w s t A B xs.length ys.length c d Aq Ar (dq s a b) (dr s a b) w1 := ⟨HC1.out, G11.out, G21.out, HQ.out, HR.out, HW1.out⟩
  clear hdq hdr
  cases s with
  | false =>
   rw [Bool.false_bne] at HZQ
   clear hs
   have HL := lh hL
   obtain ⟨k0, k1, k2, k3⟩ := hL.c4
   clear hL
   go_wp2_with fail
   refine (signOf_any _ _).mono ?_
   rintro e w5 ⟨rfl, hw5⟩
   have hp5 : w1.heap.size < w5.heap.size := by rw [hw5]; simp
   have S5 : Sbx w5 w1.heap.size t := by rw [hw5]; exact Sbx.new' _ _ _ rfl
   have B5 : Below w1.heap.size w1 w5 := by rw [hw5]; exact (bR _ _).alloc (lR _) _
   clear hw5
   have N5 := lh (number_at w w5 w5 w1.heap.size (w.heap.size + 1 + 1) cq (dq false a b) t false Aq none 0 0 S5 (HL.out.g1.below B5) (HL.out.bel.trans (B5.mono HL.out.bel.size)) (bR _ _) (HL.out.q.below B5) hql hqc)
   have R5 := lh (HL.out.r.below B5)
   have G5 := lh (HL.out.g2.below B5)
   clear S5 B5
   go_wp2_with fail
   refine N5.out.mono ?_
   rintro e w6 ⟨rfl, n6, I6, hb6, hb56⟩
   have N6 := lh n6
   have G6 := lh I6
   have B6 := lh hb6
   have R6 := lh (R5.out.below hb56)
   have H6 := lh (G5.out.below hb56)
   clear n6 I6 hb6 hb56 N5 R5 G5 HL
   go_wp2_with fail
   refine (signOf_any _ _).mono ?_
   rintro e w7 ⟨rfl, hw7⟩
   have S7 : Sbx w7 w6.heap.size false := by rw [hw7]; exact Sbx.new' _ _ _ rfl
   have B7 : Below w6.heap.size w6 w7 := by rw [hw7]; exact (bR _ _).alloc (lR _) _
   clear hw7
   have N7 := lh (number_at w w7 w7 w6.heap.size (w.heap.size + 1 + 1 + 1) cr (dr false a b) false false Ar none 0 0 S7 (H6.out.below B7) (B6.out.trans (B7.mono B6.out.size)) (bR _ _) (R6.out.below B7) hrl hrc)
   have Q7 := lh (N6.out.below B7)
   have F7 := lh (G6.out.below B7)
   clear S7 B7
   go_wp2_with fail
   refine N7.out.mono ?_
   rintro e w8 ⟨rfl, n8, I8, hb8, hb78⟩
   have J8 := F7.out.below hb78
   have c0 := I8.c0
   have cq' := I8.c1
   have f0 := I8.f 0
   have f1 := I8.f 1
   have e0 := J8.c0
   have e1 := J8.c1
   have h0 := J8.f 0
   have h1 := J8.f 1
   have Q8 := lh (Q7.out.below hb78)
   have N8 := lh n8
   have G8 := lh I8
   have K8 := lh J8
   have B8 := lh hb8
   clear n8 I8 J8 hb8 hb78 N7 Q7 F7 N6 G6 R6 H6 B6
   go_wp2_with fail
   refine bodyPost_ret (v := .tuple #[.agg #[.bool (zneg (zv t (dq false a b))), .slice Aq (dig (dq false a b)).length cq], .agg #[.bool (zneg (zv false (dr false a b))), .slice Ar (dig (dr false a b)).length cr]]) (by simp [results, Tryz.results201, go_sem, c0, cq', e0, e1]) rfl ?_
   exact retzz_of HZQ.out HZR.out hqc hrc Q8.out N8.out K8.out G8.out (by omega) (by omega) (by omega) B8.out _ _ _ _
  | true =>
   rw [Bool.true_bne] at HZQ
   have h0 : dr true a b = 0 := Nat.eq_zero_of_not_pos fun h => hs ⟨rfl, h⟩
   have hbl0 : blen (dr true a b) = 0 := by rw [h0, blen_zero]
   rw [hbl0] at HBI
   clear hs h0 hbl0
   go_wp2_with fail
   refine HBI.out.mono ?_
   rintro e w' ⟨rfl, rfl⟩
   have HL := lh hL
   obtain ⟨k0, k1, k2, k3⟩ := hL.c4
   clear hL
   go_wp2_with fail
   refine (signOf_any _ _).mono ?_
   rintro e w5 ⟨rfl, hw5⟩
   have hp5 : w1.heap.size < w5.heap.size := by rw [hw5]; simp
   have S5 : Sbx w5 w1.heap.size (!t) := by rw [hw5]; exact Sbx.new' _ _ _ rfl
   have B5 : Below w1.heap.size w1 w5 := by rw [hw5]; exact (bR _ _).alloc (lR _) _
   clear hw5
   have N5 := lh (number_at w w5 w5 w1.heap.size (w.heap.size + 1 + 1) cq (dq true a b) (!t) false Aq none 0 0 S5 (HL.out.g1.below B5) (HL.out.bel.trans (B5.mono HL.out.bel.size)) (bR _ _) (HL.out.q.below B5) hql hqc)
   have R5 := lh (HL.out.r.below B5)
   have G5 := lh (HL.out.g2.below B5)
   clear S5 B5
   go_wp2_with fail
   refine N5.out.mono ?_
   rintro e w6 ⟨rfl, n6, I6, hb6, hb56⟩
   have N6 := lh n6
   have G6 := lh I6
   have B6 := lh hb6
   have R6 := lh (R5.out.below hb56)
   have H6 := lh (G5.out.below hb56)
   clear n6 I6 hb6 hb56 N5 R5 G5 HL
   go_wp2_with fail
   refine (signOf_any _ _).mono ?_
   rintro e w7 ⟨rfl, hw7⟩
   have S7 : Sbx w7 w6.heap.size false := by rw [hw7]; exact Sbx.new' _ _ _ rfl
   have B7 : Below w6.heap.size w6 w7 := by rw [hw7]; exact (bR _ _).alloc (lR _) _
   clear hw7
   have N7 := lh (number_at w w7 w7 w6.heap.size (w.heap.size + 1 + 1 + 1) cr (dr true a b) false false Ar none 0 0 S7 (H6.out.below B7) (B6.out.trans (B7.mono B6.out.size)) (bR _ _) (R6.out.below B7) hrl hrc)
   have Q7 := lh (N6.out.below B7)
   have F7 := lh (G6.out.below B7)
   clear S7 B7
   go_wp2_with fail
   refine N7.out.mono ?_
   rintro e w8 ⟨rfl, n8, I8, hb8, hb78⟩
   have J8 := F7.out.below hb78
   have c0 := I8.c0
   have cq' := I8.c1
   have f0 := I8.f 0
   have f1 := I8.f 1
   have e0 := J8.c0
   have e1 := J8.c1
   have h0 := J8.f 0
   have h1 := J8.f 1
   have Q8 := lh (Q7.out.below hb78)
   have N8 := lh n8
   have G8 := lh I8
   have K8 := lh J8
   have B8 := lh hb8
   clear n8 I8 J8 hb8 hb78 N7 Q7 F7 N6 G6 R6 H6 B6
   go_wp2_with fail
   refine bodyPost_ret (v := .tuple #[.agg #[.bool (zneg (zv (!t) (dq true a b))), .slice Aq (dig (dq true a b)).length cq], .agg #[.bool (zneg (zv false (dr true a b))), .slice Ar (dig (dr true a b)).length cr]]) (by simp [results, Tryz.results201, go_sem, c0, cq', e0, e1]) rfl ?_
   exact retzz_of HZQ.out HZR.out hqc hrc Q8.out N8.out K8.out G8.out (by omega) (by omega) (by omega) B8.out _ _ _ _
