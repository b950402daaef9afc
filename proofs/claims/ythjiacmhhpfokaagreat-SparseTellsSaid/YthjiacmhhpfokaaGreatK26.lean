/- Part 26 of the proof: EDivMod, LawsN, ECopy, LawsE, WMake, WOne, WOf. -/
import Derived.Test.YthjiacmhhpfokaaGreatK25
import Derived.Laws.AppendOwnNone
namespace Go.Proofs.YthjiacmhhpfokaaGreat
open Lib renaming hid → lh
open Go.Proofs.Tryz renaming prog → tz
open Nat renaming le_refl → lR, mul_assoc → mS
open Go.RowKit.Below renaming refl → bR
namespace E
open YthjiacmhhpfokaaGreat renaming val → valN
open YthjiacmhhpfokaaGreat renaming cmpv → cmpvN
open YthjiacmhhpfokaaGreat renaming dmr → dmrN
open YthjiacmhhpfokaaGreat renaming dmq → dmqN
open Go.RowKit
theorem dg_of_val {os : List Nat} (h : Digs os) (i : Nat) : dg os i = val os / 256 ^ i % 256 := by
 have h2 := dg_lt h i
 rw [B64_eq] at h2
 rw [val_div_pow h, val_drop_dg]
 omega
theorem bit_step {x k : Nat} : x / 2 ^ k = 2 * (x / 2 ^ (k + 1)) + x / 2 ^ k % 2 := by
 rw [Nat.pow_succ, ← Nat.div_div_eq_div_mul]; omega
theorem dm_high {X x k : Nat} (hk : k < 8) : X * 2 ^ (8 - k) + x / 2 ^ k = 2 * (X * 2 ^ (8 - (k + 1)) + x / 2 ^ (k + 1)) + x / 2 ^ k % 2 := by
 rw [show 8 - k = (8 - (k + 1)) + 1 by omega, Nat.pow_succ, ← mS]
 have := bit_step (x := x) (k := k)
 omega
theorem dm_yes {Y b r t u : Nat} (hr : r = Y % b) (hb : 0 < b) (ht : t ≤ 1) (hu : 2 * r + t = u) (hge : b ≤ u) : (2 * Y + t) % b = u - b ∧ (2 * Y + t) / b = 2 * (Y / b) + 1 := by
 have h1 := Nat.mod_add_div Y b
 have h2 := Nat.mod_lt Y hb
 have h3 : 2 * Y + t = (u - b) + b * (2 * (Y / b) + 1) := by
  rw [Nat.mul_add, Nat.mul_left_comm]; omega
 rw [h3, Nat.add_mul_mod_self_left, Nat.add_mul_div_left _ _ hb, Nat.mod_eq_of_lt (by omega), Nat.div_eq_of_lt (by omega)]
 omega
theorem dm_no {Y b r t u : Nat} (hr : r = Y % b) (hb : 0 < b) (hu : 2 * r + t = u) (hlt : u < b) : (2 * Y + t) % b = u ∧ (2 * Y + t) / b = 2 * (Y / b) := by
 have h1 := Nat.mod_add_div Y b
 have h3 : 2 * Y + t = u + b * (2 * (Y / b)) := by
  rw [Nat.mul_left_comm]; omega
 rw [h3, Nat.add_mul_mod_self_left, Nat.add_mul_div_left _ _ hb, Nat.mod_eq_of_lt (by omega), Nat.div_eq_of_lt (by omega)]
 omega
theorem dm_room {Q d k : Nat} (hk : k < 8) (hd : d = 2 ^ (k + 1) * Q % 256) : d + 2 ^ k < 256 := by
 have h : k = 0 ∨ k = 1 ∨ k = 2 ∨ k = 3 ∨ k = 4 ∨ k = 5 ∨ k = 6 ∨ k = 7 := by omega
 rcases h with h | h | h | h | h | h | h | h <;> subst h <;> simp only [Nat.reducePow, Nat.reduceAdd] at * <;> omega
theorem dm_digit {os : List Nat} {i k Q : Nat} (h : Digs os) (hv : val os = 256 ^ i * (2 ^ (k + 1) * Q)) : dg os i = 2 ^ (k + 1) * Q % 256 := by
 rw [dg_of_val h, hv, Nat.mul_div_cancel_left _ (Nat.pow_pos (by omega))]
theorem dm_set {os : List Nat} {i k Q d : Nat} (hi : i < os.length) (hv : val os = 256 ^ i * (2 ^ (k + 1) * Q)) (hd : dg os i = d) : val (os.set i (d + 2 ^ k)) = 256 ^ i * (2 ^ k * (2 * Q + 1)) := by
 have h1 := val_set (d + 2 ^ k) hi
 rw [hd, hv, Nat.mul_add] at h1
 have h2 : 2 ^ k * (2 * Q + 1) = 2 ^ (k + 1) * Q + 2 ^ k := by
  rw [Nat.mul_add, Nat.mul_one, Nat.pow_succ, mS]
 rw [h2, Nat.mul_add]
 omega
theorem dl_double {r b t : Nat} (h : r < b) (ht : t ≤ 1) : (dig (2 * r + t)).length ≤ (dig b).length + 1 := by
 apply dig_length_le
 have h1 := val_lt (dig_digs b)
 rw [val_dig, B64_eq] at h1
 rw [B64_eq, Nat.pow_succ]
 omega
theorem num_setCell_off {w : World} {A : Option Addr} {xs : List Nat} {g i : Nat} {v : Value} (h : Num w A xs) (hne : ∀ p, A = some p → p.block ≠ g) : Num (w.setCell ⟨g, i, none⟩ v) A xs :=
 ((Only.refl g w).set i v).num h hne
theorem and_i64_one (a : Nat) (ha : a < 256) : bits .and .i64 (a : Int) 1 = ((a % 2 : Nat) : Int) := by
 have h1 : (BitVec.ofInt 64 (a : Int)).toNat = a := by
  rw [BitVec.ofInt_natCast, BitVec.toNat_ofNat]; exact Nat.mod_eq_of_lt (by omega)
 show IntKind.i64.wrap ((BitVec.ofInt 64 (a : Int) &&& BitVec.ofInt 64 ((1 : Nat) : Int)).toNat : Int) = _
 have h2 : (BitVec.ofInt 64 ((1 : Nat) : Int)).toNat = 1 := by decide
 rw [BitVec.toNat_and, h1, h2, Nat.and_one_is_mod]
 exact IntWalk.i64_in _ (by omega)
theorem bit_i64 (x k t : Nat) (hx : x < 256) (ht : x / 2 ^ k % 2 = t) : bits .and .i64 ((x : Int) / 2 ^ k) 1 = (t : Int) := by
 have h : (x : Int) / 2 ^ k = ((x / 2 ^ k : Nat) : Int) := by norm_cast
 rw [h, and_i64_one _ (Nat.lt_of_le_of_lt (Nat.div_le_self _ _) hx), ht]
set_option maxRecDepth 100000 in
set_option maxHeartbeats 16000000 in
theorem DivMod_any (w : World) (A B : Option Addr) (c d : Nat) (xs ys : List Nat) (ha : YthjiacmhhpfokaaGreat.Num w A xs) (hb : YthjiacmhhpfokaaGreat.Num w B ys) (hn : xs.length ≤ 400000) (hm : ys.length ≤ 400000) :
  Calls tz 211 #[.slice A xs.length c, .slice B ys.length d] w (YthjiacmhhpfokaaGreat.RetDM w (dmqN (valN xs) (valN ys)) (dmrN (valN xs) (valN ys))) := by
 have HB := lh hb
 have hl1 := dl_small ha.1
 have hl2 := dl_small hb.1
 have H1 := lh (small_any w A c xs ha (by omega))
 have HS2 := lh (fun w1 (h : Below w.heap.size w w1) => small_any w1 B d ys (HB.out.below h) (by omega))
 obtain ⟨a, hva⟩ : ∃ a, valN xs = a := ⟨_, rfl⟩
 obtain ⟨b, hvb⟩ : ∃ b, valN ys = b := ⟨_, rfl⟩
 rw [hva] at hl1 H1
 rw [hvb] at hl2 HS2
 rw [hva, hvb]
 clear ha hb hva hvb
 by_cases hb0 : b = 0
 ·have hz : (((dig b).length : Int) == 0) = true := by rw [hb0, dig_zero]; rfl
  have HQ : Hid (dmqN a b = 0 ∧ dmrN a b = 0) := by
   show _ ∧ _
   unfold dmqN dmrN
   rw [hb0, Nat.div_zero, if_pos rfl]
   exact ⟨rfl, rfl⟩
  clear hb0
  go_enter Tryz.func211, Tryz.ntmps211
  go_wp2_with fail
  refine H1.out.mono ?_
  rintro e w1 ⟨A1, c1, rfl, hc1, h1, hb1⟩
  have HB1 := lh hb1
  clear h1 hb1 H1
  go_wp2_with fail
  refine (HS2.out w1 HB1.out).mono ?_
  rintro e w2 ⟨A2, c2, rfl, hc2, h2, hb2⟩
  have HB2 := lh (HB1.out.trans (hb2.mono HB1.out.size))
  clear h2 hb2 HS2 HB1 HB
  go_wp2_with fail
  go_ret2
  rw [HQ.out.1, HQ.out.2]
  refine ⟨none, 0, none, 0, ?_, ?_, ?_, ?_, ?_, HB2.out⟩
  all_goals rw [YthjiacmhhpfokaaGreat.dig_zero]
  ·rfl
  ·exact lR _
  ·exact lR _
  ·exact YthjiacmhhpfokaaGreat.Num.nil _ _
  ·exact YthjiacmhhpfokaaGreat.Num.nil _ _
 ·have hz : (((dig b).length : Int) == 0) = false := by
   rw [beq_eq_false_iff_ne]
   intro h
   exact hb0 (dig_nil_iff.1 (by omega))
  have hmk := run_make_u64' ((dig a).length : Int) (dig a).length rfl (by omega)
  have HBP : Hid (0 < b) := Nat.pos_of_ne_zero hb0
  clear hb0
  go_enter Tryz.func211, Tryz.ntmps211
  go_wp2_with fail
  refine H1.out.mono ?_
  rintro e w1 ⟨A1, c1, rfl, hc1, h1, hb1⟩
  have HN1 := lh h1
  have HB1 := lh hb1
  clear h1 hb1 H1
  go_wp2_with fail
  refine (HS2.out w1 HB1.out).mono ?_
  rintro e w2 ⟨A2, c2, rfl, hc2, h2, hb2⟩
  have HA := lh (HN1.out.below hb2)
  have HBB := lh h2
  have HB2 := lh (HB1.out.trans (hb2.mono HB1.out.size))
  clear h2 hb2 HN1 HS2 HB1 HB
  go_wp2_with fail
  clear hmk
  go_loopw [9, 10] (fun rv iv wr => ∃ (m r : Nat) (os : List Nat) (A' : Option Addr) (c' : Nat), m ≤ (dig a).length ∧ iv = .int .i64 ((m : Int) - 1) ∧ rv = .slice A' (dig r).length c' ∧ (dig r).length ≤ c' ∧ os.length = (dig a).length ∧ Digs os ∧ Hid (r = val ((dig a).drop m) % b) ∧ Hid (val os = 256 ^ m * (val ((dig a).drop m) / b)) ∧ Hid (Num wr A' (dig r)) ∧ Blk wr w2.heap.size os ∧ Below w2.heap.size w2 wr) (fun _ iv _ => (intOf iv + 1).toNat)
  case atStart => exact ⟨(dig a).length, 0, List.replicate (dig a).length 0, none, 0, lR _, by go_num, by rw [dig_zero]; rfl, by rw [dig_zero]; exact lR _, by simp, Digs.rep _, by show _ = _; simp [val_nil], by show _ = _; simp [val_rep, val_nil], by rw [dig_zero]; exact Num.nil _ _, Blk.made w2 _, (bR _ _).alloc (lR _) _⟩
  case round =>
   obtain ⟨m, r, os, A', c', hm, rfl, rfl, hc', hol, hod, hr, hv, HNR, hblk, hbel⟩ := hrel
   cases m with
   | zero =>
    have hq0 : val os = dmqN a b := by
     rw [hv.out, Nat.pow_zero, Nat.one_mul, List.drop_zero, val_dig]; rfl
    have hr0 : r = dmrN a b := by
     have h := hr.out
     rw [List.drop_zero, val_dig] at h
     unfold dmrN
     rw [if_neg (Nat.pos_iff_ne_zero.1 HBP.out)]; exact h
    have hrl : (dig r).length ≤ 3200000 := by
     have h1 : r < b := by rw [hr.out]; exact Nat.mod_lt _ HBP.out
     have := dig_length_mono (Nat.le_of_lt h1)
     omega
    have hTQ := large_any wr (some ⟨w2.heap.size, 0, none⟩) (dig a).length os (hblk.num hod) (by omega) (by omega)
    rw [hq0, hol] at hTQ
    have HTQ := lh hTQ
    have HTR := lh (fun W (h : Num W A' (dig r)) => large_any W A' c' (dig r) h (by omega) hc')
    rw [val_dig] at HTR
    have HBEL := lh (HB2.out.trans (hbel.mono HB2.out.size))
    have HR0 := lh hr0
    clear hTQ hq0 hr0 hv hr hblk hbel hol hod
    go_wp2_with fail
    refine HTQ.out.mono ?_
    rintro e w4 ⟨A4, c4, rfl, hc4, ha4, hb4⟩
    have HA4 := lh ha4
    have HNR4 := lh (HNR.out.below hb4)
    have HB4 := lh (HBEL.out.trans (hb4.mono HBEL.out.size))
    clear ha4 hb4
    go_wp2_with fail
    refine (HTR.out w4 HNR4.out).mono ?_
    rintro e w5 ⟨A5, c5, rfl, hc5, ha5, hb5⟩
    have HA5 := lh ha5
    have HA45 := lh (HA4.out.below hb5)
    have HB5 := lh (HB4.out.trans (hb5.mono HB4.out.size))
    clear ha5 hb5
    go_wp2_with fail
    go_ret2
    rw [← HR0.out]
    exact ⟨A4, c4, A5, c5, rfl, hc4, hc5, HA45.out, HA5.out, HB5.out⟩
   | succ i =>
    rewrite [show (((i + 1 : Nat) : Int) - 1) = (i : Int) by omega]
    have hi : i < (dig a).length := by omega
    have hi' : (i : Int) < ((dig a).length : Int) := by omega
    have hi0 : (0 : Int) ≤ (i : Int) := by omega
    obtain ⟨X, hX⟩ : ∃ X, val ((dig a).drop (i + 1)) = X := ⟨_, rfl⟩
    obtain ⟨x, hx⟩ : ∃ x, dg (dig a) i = x := ⟨_, rfl⟩
    have HX0 : Hid (val ((dig a).drop i) = X * 256 + x) := by
     show _ = _
     rw [val_drop_dg, hX, hx]; omega
    have hxd := dg_lt (dig_digs a) i
    rw [hx, B64_eq] at hxd
    rw [hX] at hr hv
    obtain ⟨b1, o1, rfl, hb1, hcell⟩ := HA.out.at_ (by omega)
    have hcx := hcell i hi
    rw [hx] at hcx
    have HCX := lh hcx
    have HBLK := lh hblk
    have HBEL := lh hbel
    have HOL := lh hol
    have HOD := lh hod
    clear hcell hcx hx hX hblk hbel hol hod
    go_wp2_with fail
    go_loopw [9, 11] (fun rv kv wr => ∃ (j r : Nat) (os : List Nat) (A' : Option Addr) (c' : Nat), j ≤ 8 ∧ kv = .int .i64 ((j : Int) - 1) ∧ rv = .slice A' (dig r).length c' ∧ (dig r).length ≤ c' ∧ os.length = (dig a).length ∧ Digs os ∧ Hid (r = (X * 2 ^ (8 - j) + x / 2 ^ j) % b) ∧ Hid (val os = 256 ^ i * (2 ^ j * ((X * 2 ^ (8 - j) + x / 2 ^ j) / b))) ∧ Hid (Num wr A' (dig r)) ∧ Blk wr w2.heap.size os ∧ Below w2.heap.size w2 wr) (fun _ kv _ => (intOf kv + 1).toNat)
    case atStart =>
     have e8 : X * 2 ^ (8 - 8) + x / 2 ^ 8 = X := by
      simp only [Nat.reducePow, Nat.sub_self]; omega
     refine ⟨8, r, os, A', c', by omega, rfl, rfl, hc', HOL.out, HOD.out, by show _ = _; rw [e8]; exact hr.out, ?_, HNR, HBLK.out, HBEL.out⟩
     show _ = _
     rw [e8, hv.out, Nat.pow_succ, mS]
    case round =>
     clear hr hv HNR hc'
     obtain ⟨j, r, os, A', c', hj, rfl, rfl, hc', hol, hod, hr, hv, HNR, hblk, hbel⟩ := hrel
     cases j with
     | zero =>
      have HR2 : Hid (r = val ((dig a).drop i) % b) := by
       show _ = _
       have h := hr.out
       rw [Nat.pow_zero, Nat.div_one, Nat.sub_zero] at h
       rw [HX0.out, h]
      have HQ2 : Hid (val os = 256 ^ i * (val ((dig a).drop i) / b)) := by
       show _ = _
       have h := hv.out
       rw [Nat.pow_zero, Nat.div_one, Nat.sub_zero, Nat.one_mul] at h
       rw [HX0.out, h]
      have HBLK2 := lh hblk
      have HBEL2 := lh hbel
      have HOD2 := lh hod
      have HOL2 := lh hol
      clear hr hv hblk hbel hod hol
      go_wp2_with fail
      go_roundw
      case rel => exact ⟨i, r, os, A', c', by omega, by go_num, rfl, hc', HOL2.out, HOD2.out, HR2, HQ2, HNR, HBLK2.out, HBEL2.out⟩
      case measure => first | (simp [intOf]; done) | (simp [intOf]; omega)
     | succ k =>
      rewrite [show (((k + 1 : Nat) : Int) - 1) = (k : Int) by omega]
      have hk0 : (0 : Int) ≤ (k : Int) := by omega
      have hk8 : (k : Int) < 8 := by omega
      have hx1 := (hbel.cell (p := ⟨b1, o1 + i, none⟩) hb1).trans HCX.out
      obtain ⟨t, ht⟩ : ∃ t, x / 2 ^ k % 2 = t := ⟨_, rfl⟩
      have hbit := bit_i64 x k t hxd ht
      have ht1 : t ≤ 1 := by omega
      obtain ⟨Y, hY⟩ : ∃ Y, X * 2 ^ (8 - (k + 1)) + x / 2 ^ (k + 1) = Y := ⟨_, rfl⟩
      have HY : Hid (X * 2 ^ (8 - k) + x / 2 ^ k = 2 * Y + t) := by
       show _ = _
       rw [dm_high (by omega), hY, ht]
      rw [hY] at hr hv
      have hrb : r < b := by rw [hr.out]; exact Nat.mod_lt _ HBP.out
      have hrl := dig_length_mono (Nat.le_of_lt hrb)
      have hul := dl_double hrb ht1
      have HT2 := twice_any wr A' c' r t HNR.out ht1 (by omega)
      obtain ⟨u, hu⟩ : ∃ u, 2 * r + t = u := ⟨_, rfl⟩
      rw [hu] at HT2 hul
      have HTW := lh HT2
      have HCM := lh (fun W A3 c3 (h1 : Num W A3 (dig u)) (h2 : Num W A2 (dig b)) => cmp_any W A3 A2 c3 c2 u b h1 h2 (by omega) (by omega))
      by_cases hge : b ≤ u
      ·have hY2 := dm_yes hr.out HBP.out ht1 hu hge
       have HR2 : Hid (u - b = (X * 2 ^ (8 - k) + x / 2 ^ k) % b) := by show _ = _; rw [HY.out, hY2.1]
       have HQ2 : Hid ((X * 2 ^ (8 - k) + x / 2 ^ k) / b = 2 * (Y / b) + 1) := by show _ = _; rw [HY.out, hY2.2]
       have HSB := lh (fun W A3 c3 (h1 : Num W A3 (dig u)) (h2 : Num W A2 (dig b)) => sub_new W A3 A2 c3 c2 u b h1 h2 hge (by omega) (by omega))
       obtain ⟨v, hv2⟩ : ∃ v, u - b = v := ⟨_, rfl⟩
       rw [hv2] at HSB HR2
       obtain ⟨kc, hkc⟩ : ∃ kc, cmpvN u b = kc := ⟨_, rfl⟩
       have hk0' : (0 : Int) ≤ kc := by
        rw [← hkc]; unfold cmpvN; rw [if_neg (by omega)]; split <;> omega
       have dk0 : decide ((0 : Int) ≤ kc) = true := decide_eq_true hk0'
       rw [hkc] at HCM
       have hil : i < os.length := by omega
       have ho := hblk.cell hil
       have hf := hblk.frozen i
       have hdg := dm_digit hod hv.out
       obtain ⟨dd, hdd⟩ : ∃ dd, dg os i = dd := ⟨_, rfl⟩
       rw [hdd] at ho hdg
       have HOS0 : val (os.set i (dd + 2 ^ k)) = 256 ^ i * (2 ^ k * (2 * (Y / b) + 1)) := by
        exact dm_set hil hv.out hdd
       have hroom := dm_room (by omega) hdg
       obtain ⟨pw, hpw⟩ : ∃ pw, 2 ^ k = pw := ⟨_, rfl⟩
       have HPW := lh hpw
       rw [hpw] at hroom
       obtain ⟨E2, hE2⟩ : ∃ E2, dd + pw = E2 := ⟨_, rfl⟩
       rw [hE2] at hroom
       rw [hpw, hE2] at HOS0
       have HOSX : Hid (val (os.set i E2) = 256 ^ i * (2 ^ k * ((X * 2 ^ (8 - k) + x / 2 ^ k) / b))) := by
        show _ = _
        rw [HQ2.out, HPW.out]; exact HOS0
       have hw1 : wrap64 ((2 : Int) ^ k) = (pw : Int) := by
        have h : (2 : Int) ^ k = ((2 ^ k : Nat) : Int) := by norm_cast
        rw [h, hpw, IntWalk.wrap64_in _ (by omega)]
       have hw2 : wrap64 ((dd : Int) + (pw : Int)) = (E2 : Int) := by
        rw [IntWalk.wrap64_in _ (by omega)]; omega
       have HDD := lh hdd
       have HOD2 : Hid (Digs (os.set i E2)) := hod.set_ i _ hroom
       have HOL2 : Hid ((os.set i E2).length = (dig a).length) := by show _ = _; rw [List.length_set]; exact hol
       clear HOS0 hpw hE2 hroom hdg hdd hil hkc hv2 hge hY2 hu ht hY hr hv hul hrl hrb HT2
       go_wp2_with fail
       refine HTW.out.mono ?_
       rintro e w3 ⟨A3, c3, rfl, hc3, h3, hb3⟩
       have HN3 := lh h3
       have HB3 := lh hb3
       have HNB3 := lh ((HBB.out.below hbel).below hb3)
       clear h3 hb3
       go_wp2_with fail
       refine (HCM.out w3 A3 c3 HN3.out HNB3.out).mono ?_
       rintro e w4 ⟨rfl, q, rfl⟩
       go_wp2_with fail
       refine (HSB.out (w3.drewN q) A3 c3 (HN3.out.drewN q) (HNB3.out.drewN q)).mono ?_
       rintro e w5 ⟨A5, c5, rfl, hc5, h5, hb5, hf5'⟩
       have hb45 : Below wr.heap.size wr w5 := HB3.out.trans (Below.mono (show Below w3.heap.size w3 w5 from ⟨hb5.os, hb5.tape, hb5.output, hb5.size, hb5.block⟩) HB3.out.size)
       have hg : w2.heap.size < wr.heap.size := hblk.lt
       have hblk5 := hblk.below hb45 hg
       have ho5 := hblk5.cell (i := i) (by rw [hol]; exact hi)
       rw [HDD.out] at ho5
       have hf5 := hblk5.frozen i
       have HBLK2 : Hid (Blk (w5.setCell ⟨w2.heap.size, i, none⟩ (.int .i64 (E2 : Int))) w2.heap.size (os.set i E2)) := hblk5.set_ i E2
       have HBEL2 : Hid (Below w2.heap.size w2 (w5.setCell ⟨w2.heap.size, i, none⟩ (.int .i64 (E2 : Int)))) := (hbel.trans (hb45.mono hbel.size)).setCell (lR _) _
       have HNS5 : Hid (Num (w5.setCell ⟨w2.heap.size, i, none⟩ (.int .i64 (E2 : Int))) A5 (dig v)) := num_setCell_off h5 (fun p hp => by have h1 := hf5' p hp; have h2 : wr.heap.size ≤ w3.heap.size := HB3.out.size; have h3 : (w3.drewN q).heap.size = w3.heap.size := rfl; show p.block ≠ w2.heap.size; omega)
       clear hblk5 h5 hb5 hf5' hb45 hblk hbel hol hod
       go_wp2_with fail
       go_roundw
       case rel => exact ⟨k, v, os.set i E2, A5, c5, by omega, by go_num, rfl, hc5, HOL2.out, HOD2.out, HR2, HOSX, HNS5, HBLK2.out, HBEL2.out⟩
       case measure => first | (simp [intOf]; done) | (simp [intOf]; omega)
      ·have hlt : u < b := by omega
       have hY2 := dm_no hr.out HBP.out hu hlt
       have HR2 : Hid (u = (X * 2 ^ (8 - k) + x / 2 ^ k) % b) := by show _ = _; rw [HY.out, hY2.1]
       have HOS : Hid (val os = 256 ^ i * (2 ^ k * ((X * 2 ^ (8 - k) + x / 2 ^ k) / b))) := by
        show _ = _
        rw [HY.out, hY2.2, hv.out, Nat.pow_succ, mS (2 ^ k) 2]
       obtain ⟨kc, hkc⟩ : ∃ kc, cmpvN u b = kc := ⟨_, rfl⟩
       have hk0' : ¬ (0 : Int) ≤ kc := by
        rw [← hkc, YthjiacmhhpfokaaGreat.cmpv_lt hlt]; omega
       have dk0 : decide ((0 : Int) ≤ kc) = false := decide_eq_false hk0'
       rw [hkc] at HCM
       have HOD2 := lh hod
       have HOL2 := lh hol
       clear hkc hge hlt hY2 hu ht hY hr hv hul hrl hrb HT2 hod hol
       go_wp2_with fail
       refine HTW.out.mono ?_
       rintro e w3 ⟨A3, c3, rfl, hc3, h3, hb3⟩
       have HN3 := lh h3
       have HNB3 := lh ((HBB.out.below hbel).below hb3)
       have HBLK2 := lh (hblk.below hb3 hblk.lt)
       have HBEL2 := lh (hbel.trans (hb3.mono hbel.size))
       clear h3 hb3 hblk hbel
       go_wp2_with fail
       refine (HCM.out w3 A3 c3 HN3.out HNB3.out).mono ?_
       rintro e w4 ⟨rfl, q, rfl⟩
       go_wp2_with fail
       go_roundw
       case rel => exact ⟨k, u, os, A3, c3, by omega, by go_num, rfl, hc3, HOL2.out, HOD2.out, HR2, HOS, HN3.out.drewN q, HBLK2.out.drewN q, below_drewN HBEL2.out q⟩
       case measure => first | (simp [intOf]; done) | (simp [intOf]; omega)
end E

section
open Go.RowKit
section
variable (w : World) (A B : Option Addr) (c d : Nat) (xs ys : List Nat) (m n : Nat) (ha : Num w A xs) (hb : Num w B ys) (hx : val xs = m) (hy : val ys = n) (hn : xs.length ≤ 1000000) (hm : ys.length ≤ 1000000) (hc : xs.length ≤ c) (hd : ys.length ≤ d)
include ha hb hx hy hn hm hc hd
end
theorem dl_gcd (a b : Nat) : (dig (Nat.gcd a b)).length ≤ max (dig a).length (dig b).length := by
 rcases Nat.eq_zero_or_pos a with h | h
 ·rw [h, Nat.gcd_zero_left]; exact Nat.le_max_right _ _
 ·exact Nat.le_trans (dl_le (Nat.gcd_le_left b h)) (Nat.le_max_left _ _)
theorem dl_dmq (a b : Nat) : (dig (dmq a b)).length ≤ (dig a).length := dl_le (Nat.div_le_self a b)
end

section
open Go.RowKit
theorem num_of_own64 {w : World} {base : Nat} {v : Value} {n : Nat} {xs : List Nat} (hd : Digs xs) (h : w.ownsRow base 164 1 v n (xs.map dcell)) :
  ∃ A c, v = .slice A xs.length c ∧ xs.length ≤ c ∧ Num w A xs := by
 obtain ⟨hl, h⟩ := h
 rw [List.length_map] at hl
 have hn : n = xs.length := by omega
 subst hn
 rcases h with ⟨rfl, h0⟩ | ⟨g, cap, cur, rfl, hb, hg, hc, hm, hs, ht⟩
 ·exact ⟨none, 0, by rw [h0], by omega, by rw [List.length_eq_zero_iff.1 h0]; exact Num.nil _ _⟩
 ·refine ⟨some ⟨g, 0, none⟩, cap, rfl, hc, hd, fun _ => ⟨g, 0, rfl, lt_of_block hg, fun i hi => ?_⟩⟩
  rw [Nat.zero_add, cell_of_row w g i _ _ _ hg]
  rw [Nat.mul_one] at ht
  have h2 : cur.toList[i]? = (xs.map dcell)[i]? := by rw [← ht, List.getElem?_take_of_lt hi]
  rw [← Array.getElem?_toList, h2, List.getElem?_map, List.getElem?_eq_getElem hi, dg_of_lt hi]
  rfl
theorem Num.news64 {w : World} {ad : Addr} {xs : List Nat} (h : Num w (some ad) xs) : ∀ (j : Nat) (u : Value), (xs.map dcell)[j]? = some u → w.cell? (ad.add j) = some u := by
 intro j u hj
 rw [List.getElem?_map] at hj
 rcases Nat.lt_or_ge j xs.length with hlt | hge
 ·obtain ⟨b, off, e, _, hc⟩ := h.at_ (by omega)
  injection e with e
  subst e
  rw [List.getElem?_eq_getElem hlt] at hj
  rw [addr_add, hc j hlt, dg_of_lt hlt]
  exact hj
 ·rw [List.getElem?_eq_none hge] at hj
  cases hj
theorem dcells64_one (xs : List Nat) : ∀ u ∈ xs.map dcell, u.oneCell' = true := by
 intro u hu
 obtain ⟨x, _, rfl⟩ := List.mem_map.1 hu
 rfl
def RetCW (w : World) (xs : List Nat) (e : Ending) (w' : World) : Prop :=
 ∃ A c, e = .returned (.slice A xs.length c) ∧ xs.length ≤ c ∧ Num w' A xs ∧ Below w.heap.size w w'
set_option maxHeartbeats 1000000 in
theorem copyw_any (w : World) (A : Option Addr) (c : Nat) (xs : List Nat) (ha : Num w A xs) (hA : A = none → c = 0) (hn : xs.length ≤ 1000000) :
  Calls tz 129 #[.slice A xs.length c] w (RetCW w xs) := by
 obtain ⟨i0, hi0, hz0, hz1, hz2⟩ := info_parts info_u64
 cases A with
 | none =>
  have hc : c = 0 := hA rfl
  have hx : xs = [] := by
   rcases xs with _ | ⟨x, r⟩
   ·rfl
   ·obtain ⟨_, _, e, _⟩ := ha.at_ (by simp)
    cases e
  subst hx
  subst hc
  clear ha hA hn
  go_enter Tryz.func129, Tryz.ntmps129
  go_wp2_with ((at_builtin; refine wpList_append_own_none rfl (.tmp 4) (.tmp 5) 23 rfl w.heap.size 164 i0 1 under_u64s hi0 (.slice none 0 0) 0 [] rfl (World.ownsRow_nil _ _ _ _) rfl ?_))
  go_ret
  exact ⟨none, 0, rfl, lR _, Num.nil _ _, bR _ _⟩
 | some ad =>
  have hnum := ha.news64
  have HD := ha.1
  have HNW := Lib.hid hnum
  have HL : Hid ((xs.map dcell).length = xs.length * 1) := by show _ = _; simp
  clear hnum ha hA
  go_enter Tryz.func129, Tryz.ntmps129
  go_wp2_with ((at_builtin; refine wpList_append_own w rfl (.tmp 4) (.tmp 5) 23 rfl w.heap.size 164 i0 (.int .u64 0) 1 8 under_u64s hi0 hz0 hz1 hz2 rfl (by decide) (.slice none 0 0) 0 [] rfl (World.ownsRow_nil _ _ _ _) ad xs.length c (xs.map dcell) rfl HL.out HNW.out (dcells64_one _) (by unfold maxLen; omega) (by omega) (lR _) ?_); intro v' w3 hown' hgrow hnil)
  rw [List.nil_append, Nat.zero_add] at hown'
  obtain ⟨A3, c3, rfl, hc3, hnum⟩ := num_of_own64 HD hown'
  have HN3 := Lib.hid hnum
  have HB3 := Lib.hid ((bR w.heap.size w).grown hgrow (lR _) (fun k hk => by cases hk))
  clear hown' hgrow hnil hnum
  go_wp2_with fail
  go_ret
  exact ⟨A3, c3, rfl, hc3, HN3.out, HB3.out⟩
end

section
open Go.RowKit
section
variable (w : World) (A B : Option Addr) (c d : Nat) (xs ys : List Nat) (m n : Nat) (ha : Num w A xs) (hb : Num w B ys) (hx : val xs = m) (hy : val ys = n) (hn : xs.length ≤ 8000) (hm : ys.length ≤ 8000) (hc : xs.length ≤ c) (hd : ys.length ≤ d)
include ha hb hx hy hn hm hc hd
theorem eadd_n (r : Nat) (hr : m + n = r) : Calls tz 183 #[.slice A xs.length c, .slice B ys.length d] w (RetN w r) := by subst hr; subst hx; subst hy; exact (fun _ _ => E.Add_any w A B c d xs ys ha hb (by omega) (by omega)) hc hd
theorem esub_n (r : Nat) (hr : m - n = r) : Calls tz 185 #[.slice A xs.length c, .slice B ys.length d] w (RetN w r) := by subst hr; subst hx; subst hy; exact (fun _ _ => E.Sub_any w A B c d xs ys ha hb (by omega) (by omega)) hc hd
theorem emul_n (r : Nat) (hr : m * n = r) : Calls tz 186 #[.slice A xs.length c, .slice B ys.length d] w (RetN w r) := by subst hr; subst hx; subst hy; exact (fun _ _ => E.Mul_any w A B c d xs ys ha hb (by omega) (by omega)) hc hd
theorem egcd_n (r : Nat) (hr : Nat.gcd m n = r) : Calls tz 210 #[.slice A xs.length c, .slice B ys.length d] w (RetN w r) := by subst hr; subst hx; subst hy; exact (fun _ _ => E.Gcd_any w A B c d xs ys ha hb (by omega) (by omega)) hc hd
theorem edm_n (q r : Nat) (hq : dmq m n = q) (hr : dmr m n = r) : Calls tz 211 #[.slice A xs.length c, .slice B ys.length d] w (RetDM w q r) := by subst hq; subst hr; subst hx; subst hy; exact (fun _ _ => E.DivMod_any w A B c d xs ys ha hb (by omega) (by omega)) hc hd
theorem ecmp_n (k : Int) (hk : cmpv m n = k) : Calls tz 184 #[.slice A xs.length c, .slice B ys.length d] w (RetI w k) := by subst hk; subst hx; subst hy; exact (fun _ _ => E.Cmp_any w A B c d xs ys ha hb (by omega) (by omega)) hc hd
end
section
variable (w : World) (A : Option Addr) (c : Nat) (xs : List Nat) (m : Nat) (ha : Num w A xs) (hx : val xs = m) (hn : xs.length ≤ 8000) (hc : xs.length ≤ c)
include ha hx hn hc
end
end

namespace W
open Go.RowKit
theorem zneg_zv {s : Bool} {m : Nat} (h : m ≠ 0) : zneg (zv s m) = s := by
 apply zneg_of
 cases s <;> simp [zv] <;> omega
set_option maxHeartbeats 2000000 in
theorem make_any (w : World) (s : Bool) (A : Option Addr) (c : Nat) (xs : List Nat) (z : Int) (ha : Num w A xs) (hx : zv s (val xs) = z) (hn : xs.length ≤ 100000) :
  Calls tz 177 #[.bool s, .slice A xs.length c] w (RetZ w z) := by
 have hl1 := E.dl_small ha.1
 have H1 := lh (fun o => E.small_any (w.alloc o) A c xs (ha.alloc o) (by omega))
 obtain ⟨m, hva⟩ : ∃ m, val xs = m := ⟨_, rfl⟩
 rw [hva] at hl1 H1 hx
 clear ha hva
 have HX := lh hx
 have HL := lh (fun W A' c' (h : E.Num W A' (E.dig m)) (hc : (E.dig m).length ≤ c') => E.large_any W A' c' (E.dig m) h (by omega) hc)
 rw [E.val_dig] at HL
 have HW : Hid (Below w.heap.size w (w.alloc (.cells #[.bool false, .slice none 0 0] 25))) := (bR _ _).alloc (lR _) _
 have HI : Hid (Ibx (w.alloc (.cells #[.bool false, .slice none 0 0] 25)) w.heap.size false none 0 0) := Ibx.new' _ _ _ _ _ _ rfl
 clear hx
 by_cases h0 : m = 0
 ·have hz : (((dig m).length : Int) == 0) = true := by rw [h0, dig_zero]; rfl
  have HS : Hid (zneg (zv s m) = false) := by show _ = _; rw [h0, zv_zero]; rfl
  clear h0
  go_enter Tryz.func177, Tryz.ntmps177
  go_wp2_with fail
  refine (H1.out _).mono ?_
  rintro e w1 ⟨A1, c1, rfl, hc1, h1, hb1⟩
  have HN1 := lh h1
  have HW1 := lh (HW.out.trans (hb1.mono HW.out.size))
  have HI1 := lh (HI.out.below hb1)
  clear h1 hb1 H1 HW HI
  go_wp2_with fail
  refine (HL.out w1 A1 c1 HN1.out hc1).mono ?_
  rintro e w2 ⟨A2, c2, rfl, hc2, h2, hb2⟩
  have HN2 := lh h2
  have HW2 := lh (HW1.out.trans (hb2.mono HW1.out.size))
  have I2 := HI1.out.below hb2
  have HI2 := lh I2
  have c0 := I2.c0
  have c1' := I2.c1
  have f0 := I2.f 0
  have f1 := I2.f 1
  clear h2 hb2 HN1 HW1 HI1 HL I2
  go_wp2_with fail
  refine bodyPost_ret (v := .agg #[.bool false, .slice A2 (dig m).length c2]) (by simp [results, Tryz.results177, go_sem, c0, c1']) rfl ?_
  have h := retz_of HX.out hc2 HN2.out HI2.out (lR _) HW2.out (.bool false) (.slice A2 (dig m).length c2) rfl
  rw [HS.out] at h
  exact h
 ·have hz : (((dig m).length : Int) == 0) = false := by
   rw [beq_eq_false_iff_ne]
   intro h
   exact h0 (dig_nil_iff.1 (by omega))
  have HS : Hid (zneg (zv s m) = s) := zneg_zv h0
  clear h0
  go_enter Tryz.func177, Tryz.ntmps177
  go_wp2_with fail
  refine (H1.out _).mono ?_
  rintro e w1 ⟨A1, c1, rfl, hc1, h1, hb1⟩
  have HN1 := lh h1
  have HW1 := lh (HW.out.trans (hb1.mono HW.out.size))
  have HI1 := lh (HI.out.below hb1)
  clear h1 hb1 H1 HW HI
  go_wp2_with fail
  refine (HL.out w1 A1 c1 HN1.out hc1).mono ?_
  rintro e w2 ⟨A2, c2, rfl, hc2, h2, hb2⟩
  have HN2 := lh h2
  have HW2 := lh (HW1.out.trans (hb2.mono HW1.out.size))
  have I2 := HI1.out.below hb2
  have HI2 := lh I2
  have c0 := I2.c0
  have c1' := I2.c1
  have f0 := I2.f 0
  have f1 := I2.f 1
  clear h2 hb2 HN1 HW1 HI1 HL I2
  go_wp2_with fail
  refine bodyPost_ret (v := .agg #[.bool s, .slice A2 (dig m).length c2]) (by simp [results, Tryz.results177, go_sem, c0, c1']) rfl ?_
  have h := retz_of HX.out hc2 HN2.out HI2.out (lR _) HW2.out (.bool s) (.slice A2 (dig m).length c2) rfl
  rw [HS.out] at h
  exact h
end W

namespace W
set_option maxHeartbeats 2000000
open Go.RowKit
theorem norm_any (w : World) (s : Bool) (A : Option Addr) (c : Nat) (xs : List Nat) (z : Int) (ha : Num w A xs) (hx : zv s (val xs) = z) (hn : xs.length ≤ 100000) (r : Int) (hr : z = r) :
  Calls tz 179 #[.agg #[.bool s, .slice A xs.length c]] w (RetZ w r) := by
 have hz : zv s (val xs) = r := by
  rw [← hr]
  exact hx
 have HM := lh (fun o1 o2 => make_any ((w.alloc o1).alloc o2) s A c xs _ ((ha.alloc o1).alloc o2) hz hn)
 have HW : Hid (Below w.heap.size w ((w.alloc (.cells #[.bool s, .slice A xs.length c] 25)).alloc (.cells #[.bool false, .slice none 0 0] 25))) := ((bR _ _).alloc (lR _) _).alloc (by simp) _
 have HI : Hid (Ibx ((w.alloc (.cells #[.bool s, .slice A xs.length c] 25)).alloc (.cells #[.bool false, .slice none 0 0] 25)) (w.heap.size + 1) false none 0 0) := Ibx.new' _ _ _ _ _ _ (by simp)
 clear ha hx hz hr
 go_enter Tryz.func179, Tryz.ntmps179
 go_wp2_with fail
 refine (HM.out _ _).mono ?_
 rintro e w4 ⟨A3, c3, rfl, hc3, h3, hb3⟩
 have I4 := HI.out.below hb3
 have c0 := I4.c0
 have c1 := I4.c1
 have f0 := I4.f 0
 have f1 := I4.f 1
 have J4 := lh I4
 have N4 := lh h3
 have B4 := lh (HW.out.trans (hb3.mono HW.out.size))
 clear I4 h3 hb3 HI HW HM
 go_wp2_with fail
 refine bodyPost_ret (v := .agg #[.bool (zneg (r)), .slice A3 (dig (r).natAbs).length c3]) (by simp [results, Tryz.results179, go_sem, c0, c1]) rfl ?_
 have h := retz_of (s := zneg (r)) (m := (r).natAbs) (zv_zneg _) hc3 N4.out J4.out (by omega) B4.out (.bool (zneg (r))) (.slice A3 (dig (r).natAbs).length c3) rfl
 rw [zv_zneg] at h
 exact h
theorem neg_any (w : World) (s : Bool) (A : Option Addr) (c : Nat) (xs : List Nat) (z : Int) (ha : Num w A xs) (hx : zv s (val xs) = z) (hn : xs.length ≤ 100000) (r : Int) (hr : -z = r) :
  Calls tz 176 #[.agg #[.bool s, .slice A xs.length c]] w (RetZ w r) := by
 have hz : zv (!s) (val xs) = r := by
  rw [← hr]
  rw [← hx]; cases s <;> simp [zv]
 have HM := lh (fun o1 o2 => make_any ((w.alloc o1).alloc o2) (!s) A c xs _ ((ha.alloc o1).alloc o2) hz hn)
 have HW : Hid (Below w.heap.size w ((w.alloc (.cells #[.bool s, .slice A xs.length c] 25)).alloc (.cells #[.bool false, .slice none 0 0] 25))) := ((bR _ _).alloc (lR _) _).alloc (by simp) _
 have HI : Hid (Ibx ((w.alloc (.cells #[.bool s, .slice A xs.length c] 25)).alloc (.cells #[.bool false, .slice none 0 0] 25)) (w.heap.size + 1) false none 0 0) := Ibx.new' _ _ _ _ _ _ (by simp)
 clear ha hx hz hr
 go_enter Tryz.func176, Tryz.ntmps176
 go_wp2_with fail
 refine (HM.out _ _).mono ?_
 rintro e w4 ⟨A3, c3, rfl, hc3, h3, hb3⟩
 have I4 := HI.out.below hb3
 have c0 := I4.c0
 have c1 := I4.c1
 have f0 := I4.f 0
 have f1 := I4.f 1
 have J4 := lh I4
 have N4 := lh h3
 have B4 := lh (HW.out.trans (hb3.mono HW.out.size))
 clear I4 h3 hb3 HI HW HM
 go_wp2_with fail
 refine bodyPost_ret (v := .agg #[.bool (zneg (r)), .slice A3 (dig (r).natAbs).length c3]) (by simp [results, Tryz.results176, go_sem, c0, c1]) rfl ?_
 have h := retz_of (s := zneg (r)) (m := (r).natAbs) (zv_zneg _) hc3 N4.out J4.out (by omega) B4.out (.bool (zneg (r))) (.slice A3 (dig (r).natAbs).length c3) rfl
 rw [zv_zneg] at h
 exact h
theorem sign_zv {s : Bool} {m : Nat} (h : m ≠ 0) : Int.sign (zv s m) = if s then -1 else 1 := by
 cases s with
 | false => simp only [zv, Bool.false_eq_true, if_false]; exact Int.sign_eq_one_of_pos (by omega)
 | true => simp only [zv, if_true]; exact Int.sign_eq_neg_one_of_neg (by omega)
theorem sign_any (w : World) (s : Bool) (A : Option Addr) (c : Nat) (xs : List Nat) (z : Int) (ha : Num w A xs) (hx : zv s (val xs) = z) (hn : xs.length ≤ 100000) :
  Calls tz 164 #[.agg #[.bool s, .slice A xs.length c]] w (RetI w z.sign) := by
 have HB := lh (fun o => E.Bits_any (w.alloc o) A c xs (ha.alloc o) (by omega))
 have HW : Hid (Below w.heap.size w (w.alloc (.cells #[.bool s, .slice A xs.length c] 25))) := (bR _ _).alloc (lR _) _
 have HC : Hid ((w.alloc (.cells #[.bool s, .slice A xs.length c] 25)).cell? ⟨w.heap.size, 0, none⟩ = some (.bool s)) := (C2.base w _ _ _).1
 obtain ⟨m, hm⟩ : ∃ m, val xs = m := ⟨_, rfl⟩
 rw [hm] at hx HB
 clear ha hm
 by_cases h0 : m = 0
 ·have hz : (((blen m : Nat) : Int) == 0) = true := by rw [h0, blen_zero]; rfl
  have HZ : Hid (z.sign = 0) := by show _ = _; rw [← hx, h0, zv_zero]; rfl
  clear hx h0
  go_enter Tryz.func164, Tryz.ntmps164
  go_wp2_with fail
  refine (HB.out _).mono ?_
  rintro e w' ⟨rfl, hb⟩
  have HB2 := lh (HW.out.trans (hb.mono HW.out.size))
  clear hb
  go_wp2_with fail
  go_ret
  rw [HZ.out]
  exact ⟨rfl, HB2.out⟩
 ·have hz : (((blen m : Nat) : Int) == 0) = false := by rw [beq_eq_false_iff_ne]; have := blen_pos h0; omega
  have hsz := sign_zv (s := s) h0
  rw [hx] at hsz
  clear hx h0
  cases s with
  | true =>
   have HZ : Hid (z.sign = -1) := hsz
   clear hsz
   go_enter Tryz.func164, Tryz.ntmps164
   go_wp2_with fail
   refine (HB.out _).mono ?_
   rintro e w' ⟨rfl, hb⟩
   have c0 := (hb.cell (block_lt_of_cell HC.out)).trans HC.out
   have HB2 := lh (HW.out.trans (hb.mono HW.out.size))
   clear hb
   go_wp2_with fail
   go_ret
   rw [HZ.out]
   exact ⟨rfl, HB2.out⟩
  | false =>
   have HZ : Hid (z.sign = 1) := hsz
   clear hsz
   go_enter Tryz.func164, Tryz.ntmps164
   go_wp2_with fail
   refine (HB.out _).mono ?_
   rintro e w' ⟨rfl, hb⟩
   have c0 := (hb.cell (block_lt_of_cell HC.out)).trans HC.out
   have HB2 := lh (HW.out.trans (hb.mono HW.out.size))
   clear hb
   go_wp2_with fail
   go_ret
   rw [HZ.out]
   exact ⟨rfl, HB2.out⟩
end W

namespace W
open Go.RowKit
set_option maxHeartbeats 2000000 in
theorem of_any (w : World) (z : Int) (h1 : -9223372036854775808 ≤ z) (h2 : z ≤ 9223372036854775807) :
  Calls tz 139 #[.int .i64 z] w (RetZ w z) := by
 have HD : Digs [z.natAbs] := Digs.cons (by rw [B64_eq]; omega) Digs.nil
 by_cases hs : 0 ≤ z
 ·have hw1 := u64_wrap_nonneg h2 hs
  have HM := lh (fun o1 => make_any ((w.alloc o1).alloc (.cells #[.int .u64 ((z.natAbs : Nat) : Int)] 164)) false (some ⟨(w.alloc o1).heap.size, 0, none⟩) 1 [z.natAbs] z ((Blk.lit1' (w.alloc o1) z.natAbs).num HD) (by rw [val_cons, val_nil]; simp only [zv, Bool.false_eq_true, if_false]; omega) (by simp))
  have HM2 := lh (HM.out (.cells #[.bool false, .slice none 0 0] 25))
  rw [show (w.alloc (.cells #[.bool false, .slice none 0 0] 25)).heap.size = w.heap.size + 1 by simp] at HM2
  have HW : Hid (Below w.heap.size w ((w.alloc (.cells #[.bool false, .slice none 0 0] 25)).alloc (.cells #[.int .u64 ((z.natAbs : Nat) : Int)] 164))) := ((bR _ _).alloc (lR _) _).alloc (by simp) _
  have HI : Hid (Ibx ((w.alloc (.cells #[.bool false, .slice none 0 0] 25)).alloc (.cells #[.int .u64 ((z.natAbs : Nat) : Int)] 164)) w.heap.size false none 0 0) := (Ibx.new' _ _ _ _ _ _ rfl).alloc _
  clear HM HD
  go_enter Tryz.func139, Tryz.ntmps139
  go_wp2_with fail
  refine HM2.out.mono ?_
  rintro e w4 ⟨A3, c3, rfl, hc3, h3, hb3⟩
  have I4 := HI.out.below hb3
  have c0 := I4.c0
  have c1 := I4.c1
  have f0 := I4.f 0
  have f1 := I4.f 1
  have J4 := lh I4
  have N4 := lh h3
  have B4 := lh (HW.out.trans (hb3.mono HW.out.size))
  clear I4 h3 hb3 HI HW HM2
  go_wp2_with fail
  refine bodyPost_ret (v := .agg #[.bool (zneg (z)), .slice A3 (dig (z).natAbs).length c3]) (by simp [results, Tryz.results139, go_sem, c0, c1]) rfl ?_
  have h := retz_of (s := zneg (z)) (m := (z).natAbs) (zv_zneg _) hc3 N4.out J4.out (by omega) B4.out (.bool (zneg (z))) (.slice A3 (dig (z).natAbs).length c3) rfl
  rw [zv_zneg] at h
  exact h
 ·obtain ⟨z1, hz1⟩ : ∃ z1, z + 1 = z1 := ⟨_, rfl⟩
  have hw0 : IntKind.i64.wrap (z + 1) = z1 := by rw [IntWalk.i64_in (z + 1) (by omega)]; exact hz1
  obtain ⟨z2, hz2⟩ : ∃ z2, -z1 = z2 := ⟨_, rfl⟩
  have hw1 : IntKind.i64.wrap (-z1) = z2 := by rw [IntWalk.i64_in (-z1) (by omega)]; exact hz2
  have hw2 : IntKind.u64.wrap z2 = z2 := by rw [IntKind.wrap_u64]; omega
  have hw3 : IntKind.u64.wrap (z2 + 1) = ((z.natAbs : Nat) : Int) := by rw [IntKind.wrap_u64]; omega
  have HH1 := lh h1
  have HH2 := lh h2
  have HM := lh (fun o1 => make_any ((w.alloc o1).alloc (.cells #[.int .u64 ((z.natAbs : Nat) : Int)] 164)) true (some ⟨(w.alloc o1).heap.size, 0, none⟩) 1 [z.natAbs] z ((Blk.lit1' (w.alloc o1) z.natAbs).num HD) (by have := HH1.out; rw [val_cons, val_nil]; simp only [zv, if_true]; omega) (by simp))
  have HM2 := lh (HM.out (.cells #[.bool false, .slice none 0 0] 25))
  rw [show (w.alloc (.cells #[.bool false, .slice none 0 0] 25)).heap.size = w.heap.size + 1 by simp] at HM2
  have HW : Hid (Below w.heap.size w ((w.alloc (.cells #[.bool false, .slice none 0 0] 25)).alloc (.cells #[.int .u64 ((z.natAbs : Nat) : Int)] 164))) := ((bR _ _).alloc (lR _) _).alloc (by simp) _
  have HI : Hid (Ibx ((w.alloc (.cells #[.bool false, .slice none 0 0] 25)).alloc (.cells #[.int .u64 ((z.natAbs : Nat) : Int)] 164)) w.heap.size false none 0 0) := (Ibx.new' _ _ _ _ _ _ rfl).alloc _
  clear HM HD hz1 hz2 h1 h2
  go_enter Tryz.func139, Tryz.ntmps139
  go_wp2_with fail
  refine HM2.out.mono ?_
  rintro e w4 ⟨A3, c3, rfl, hc3, h3, hb3⟩
  have I4 := HI.out.below hb3
  have c0 := I4.c0
  have c1 := I4.c1
  have f0 := I4.f 0
  have f1 := I4.f 1
  have J4 := lh I4
  have N4 := lh h3
  have B4 := lh (HW.out.trans (hb3.mono HW.out.size))
  clear I4 h3 hb3 HI HW HM2
  go_wp2_with fail
  refine bodyPost_ret (v := .agg #[.bool (zneg (z)), .slice A3 (dig (z).natAbs).length c3]) (by simp [results, Tryz.results139, go_sem, c0, c1]) rfl ?_
  have h := retz_of (s := zneg (z)) (m := (z).natAbs) (zv_zneg _) hc3 N4.out J4.out (by omega) B4.out (.bool (zneg (z))) (.slice A3 (dig (z).natAbs).length c3) rfl
  rw [zv_zneg] at h
  exact h
