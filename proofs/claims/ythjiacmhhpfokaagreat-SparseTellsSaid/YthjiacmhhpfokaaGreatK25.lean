/- Part 25 of the proof: EMul, EShl, EGcd. -/
import Derived.Test.YthjiacmhhpfokaaGreatK24
import Derived.Laws.OwnMore
namespace Go.Proofs.YthjiacmhhpfokaaGreat
open Lib renaming hid → lh
open Go.Proofs.Tryz renaming prog → tz
open Nat renaming le_trans → lT
namespace E
open YthjiacmhhpfokaaGreat renaming val → valN
open Go.RowKit
theorem below_drewN {B : Nat} {w w' : World} (h : Below B w w') (n : Nat) : Below B w (w'.drewN n) := ⟨h.os, h.tape, h.output, h.size, h.block⟩
theorem mul_part_le {xs : List Nat} (k : Nat) : val (xs.take k) ≤ val xs := by
 have h := val_take_add xs k
 omega
theorem mul_top {a b i T k : Nat} (hi : i < (dig a).length) (hT : T = val ((dig a).take i) * b + 256 ^ i * dg (dig a) i * val ((dig b).take k)) : T < 256 ^ (i + 1 + (dig b).length) := by
 have h1 := val_lt ((dig_digs a).take (i + 1))
 rw [List.length_take, Nat.min_eq_left (by omega), val_take_dg, B64_eq] at h1
 have h2 := val_lt (dig_digs b)
 rw [val_dig, B64_eq] at h2
 have h3 : val ((dig b).take k) ≤ b := by
  have h := mul_part_le (xs := dig b) k
  rwa [val_dig] at h
 have h4 : 256 ^ i * dg (dig a) i * val ((dig b).take k) ≤ 256 ^ i * dg (dig a) i * b := Nat.mul_le_mul_left _ h3
 have h5 : T ≤ (val ((dig a).take i) + 256 ^ i * dg (dig a) i) * b := by rw [hT, Nat.add_mul]; omega
 rw [Nat.pow_add]
 exact Nat.lt_of_le_of_lt h5 (Nat.mul_lt_mul'' h1 h2)
theorem mul_next (V b p x t q y : Nat) : V * b + p * x * t + p * q * (x * y) = V * b + p * x * (t + q * y) := by
 have e : p * q * (x * y) = p * x * (q * y) := by simp only [Nat.mul_left_comm, Nat.mul_assoc]
 rw [e, Nat.mul_add]; omega
set_option maxRecDepth 100000 in
set_option maxHeartbeats 8000000 in
theorem Mul_any (w : World) (A B : Option Addr) (c d : Nat) (xs ys : List Nat) (ha : YthjiacmhhpfokaaGreat.Num w A xs) (hb : YthjiacmhhpfokaaGreat.Num w B ys) (hn : xs.length ≤ 400000) (hm : ys.length ≤ 400000) :
  Calls tz 186 #[.slice A xs.length c, .slice B ys.length d] w (YthjiacmhhpfokaaGreat.RetN w (valN xs * valN ys)) := by
 have HB := lh hb
 have hl1 := dl_small ha.1
 have hl2 := dl_small hb.1
 have H1 := lh (small_any w A c xs ha (by omega))
 have HS2 := lh (fun w1 (h : Below w.heap.size w w1) => small_any w1 B d ys (HB.out.below h) (by omega))
 obtain ⟨a, hva⟩ : ∃ a, valN xs = a := ⟨_, rfl⟩
 obtain ⟨b, hvb⟩ : ∃ b, valN ys = b := ⟨_, rfl⟩
 rw [hva] at hl1 H1
 rw [hvb] at hl2 HS2
 rw [hva, hvb]
 clear ha hb hva hvb
 obtain ⟨L, hL⟩ : ∃ L, (dig a).length + (dig b).length + 1 = L := ⟨_, rfl⟩
 have hmk := run_make_u64' (((dig a).length : Int) + ((dig b).length : Int) + 1) L (by omega) (by omega)
 go_enter Tryz.func186, Tryz.ntmps186
 go_wp2_with fail
 refine H1.out.mono ?_
 rintro e w1 ⟨A1, c1, rfl, hc1, h1, hb1⟩
 have HN1 := lh h1
 have HB1 := lh hb1
 clear h1 hb1 H1
 go_wp2_with fail
 refine (HS2.out w1 HB1.out).mono ?_
 rintro e w2 ⟨A2, c2, rfl, hc2, h2, hb2⟩
 have HA := lh (HN1.out.below hb2)
 have HBB := lh h2
 have HB2 := lh (HB1.out.trans (hb2.mono HB1.out.size))
 clear h2 hb2 HN1 HS2 HB1 HB
 go_wp2_with fail
 clear hmk
 go_loopw [8] (fun i wr => ∃ (k : Nat) (os : List Nat), k ≤ (dig a).length ∧ i = .int .i64 k ∧ os.length = L ∧ Digs os ∧ Hid (val os = val ((dig a).take k) * b) ∧ Blk wr w2.heap.size os ∧ Below w2.heap.size w2 wr) (fun i _ => (dig a).length - (intOf i).toNat)
 case atStart => exact ⟨0, List.replicate L 0, Nat.zero_le _, rfl, by simp, Digs.rep _, by show _ = _; simp [val_rep, val_nil], Blk.made w2 L, (Below.refl _ _).alloc (Nat.le_refl _) _⟩
 case round =>
  obtain ⟨i, os, hi, rfl, hol, hod, hv, hblk, hbel⟩ := hrel
  by_cases hlt : i < (dig a).length
  ·have hlt' : (i : Int) < ((dig a).length : Int) := by omega
   have HV := lh hv.out
   have HBLK := lh hblk
   have HBEL := lh hbel
   have HOL := lh hol
   have HOD := lh hod
   have HX := lh (dg_lt (dig_digs a) i)
   clear hv hblk hbel hol hod
   go_wp2_with fail
   go_loopw [9, 10] (fun cy j wr => ∃ (k r : Nat) (os : List Nat), k ≤ (dig b).length + 1 ∧ r < 256 ∧ cy = .int .i64 r ∧ j = .int .i64 k ∧ os.length = L ∧ Digs os ∧ Hid (val os + 256 ^ (i + k) * r = val ((dig a).take i) * b + 256 ^ i * dg (dig a) i * val ((dig b).take k)) ∧ Blk wr w2.heap.size os ∧ Below w2.heap.size w2 wr) (fun _ j _ => (dig b).length + 2 - (intOf j).toNat)
   case atStart => exact ⟨0, 0, os, Nat.zero_le _, by omega, rfl, rfl, HOL.out, HOD.out, by show _ = _; rw [HV.out]; simp [val_nil], HBLK.out, HBEL.out⟩
   case round =>
    obtain ⟨k, r, zs, hk, hr, rfl, rfl, hzl, hzd, hzv, hblk, hbel⟩ := hrel
    by_cases hlb : k < (dig b).length
    ·have hlb' : (k : Int) < ((dig b).length : Int) := by omega
     have db1 : decide ((k : Int) < ((dig b).length : Int)) = true := decide_eq_true hlb'
     obtain ⟨b1, o1, rfl, hb1, hcell⟩ := HA.out.at_ (by omega)
     have hx := (hbel.cell (p := ⟨b1, o1 + i, none⟩) hb1).trans (hcell i hlt)
     obtain ⟨b2, o2, rfl, hb2, hcell2⟩ := HBB.out.at_ (by omega)
     have hy := (hbel.cell (p := ⟨b2, o2 + k, none⟩) hb2).trans (hcell2 k hlb)
     have hxd := HX.out
     have hyd := dg_lt (dig_digs b) k
     have hvb := val_take_dg (dig b) k
     obtain ⟨j, hj⟩ : ∃ j, i + k = j := ⟨_, rfl⟩
     have hjL : j < zs.length := by omega
     have hjL' : (j : Int) < (L : Int) := by omega
     have ho := hblk.cell hjL
     have hf := hblk.frozen j
     have hod := dg_lt hzd j
     obtain ⟨x, hxe⟩ : ∃ x, dg (dig a) i = x := ⟨_, rfl⟩
     obtain ⟨y, hye⟩ : ∃ y, dg (dig b) k = y := ⟨_, rfl⟩
     obtain ⟨o, hoe⟩ : ∃ o, dg zs j = o := ⟨_, rfl⟩
     have hzv' := hzv.out
     rewrite [hxe] at hx hxd hzv'
     rewrite [hye] at hy hyd hvb
     rewrite [hoe] at ho hod
     rw [B64_eq] at hxd hyd hod hvb
     obtain ⟨m, hm'⟩ : ∃ m, x * y = m := ⟨_, rfl⟩
     have hmb : m ≤ 255 * 255 := by rw [← hm']; exact Nat.mul_le_mul (by omega) (by omega)
     obtain ⟨s1, hs1⟩ : ∃ s1, o + r = s1 := ⟨_, rfl⟩
     obtain ⟨s, hs⟩ : ∃ s, s1 + m = s := ⟨_, rfl⟩
     have ww0 : IntKind.i64.wrap ((i : Int) + (k : Int)) = (j : Int) := by
      have h := IntWalk.i64_in ((i : Int) + (k : Int)) (by omega)
      rw [h]; omega
     have ww1 : IntKind.i64.wrap ((o : Int) + (r : Int)) = (s1 : Int) := by
      have h := IntWalk.i64_in ((o : Int) + (r : Int)) (by omega)
      rw [h]; omega
     have hxy : (x : Int) * (y : Int) = (m : Int) := by rw [← hm']; exact (Int.natCast_mul x y).symm
     have ww2 : IntKind.i64.wrap ((x : Int) * (y : Int)) = (m : Int) := by
      rw [hxy]; exact IntWalk.i64_in _ (by omega)
     have ww3 : IntKind.i64.wrap ((s1 : Int) + (m : Int)) = (s : Int) := by
      have h := IntWalk.i64_in ((s1 : Int) + (m : Int)) (by omega)
      rw [h]; omega
     have hsb : s ≤ 65535 := by omega
     have HV2 : Hid (val (zs.set j (s % 256)) + 256 ^ (i + (k + 1)) * (s / 256) = val ((dig a).take i) * b + 256 ^ i * dg (dig a) i * val ((dig b).take (k + 1))) := by
      show _ = _
      have h1 := val_set (s % 256) hjL
      rw [hoe] at h1
      have h2 := mul_digit (x := x) (y := y) (s := s) hzv' (show s = o + r + x * y by rw [hm']; omega) (by rw [hj]; exact h1)
      rw [hxe, hvb, ← mul_next, show i + (k + 1) = i + k + 1 by omega, Nat.pow_succ, h2, Nat.pow_add]
     have HZD2 : Hid (Digs (zs.set j (s % 256))) := hzd.set_ j _ (Nat.mod_lt _ (by omega))
     have HZL2 : Hid ((zs.set j (s % 256)).length = L) := by show _ = _; rw [List.length_set]; exact hzl
     have HBLK2 : Hid (Blk (wr.setCell ⟨w2.heap.size, j, none⟩ (.int .i64 ((s : Int) % 256))) w2.heap.size (zs.set j (s % 256))) := hblk.set_ j (s % 256)
     have HBEL2 : Hid (∀ nq, Below w2.heap.size w2 ((wr.drewN nq).setCell ⟨w2.heap.size, j, none⟩ (.int .i64 ((s : Int) % 256)))) := fun nq => (below_drewN hbel nq).setCell (Nat.le_refl _) _
     have HR2 : Hid (s / 256 < 256) := by show _ < _; omega
     have hrr := lh hr
     clear hcell hcell2 hvb hzv hzv' hzd hzl hxe hye hoe hm' hs1 hs hj hmb hxd hyd hod hjL hblk hbel hr hxy
     go_wp2_with fail
     go_quiet (fail)
     go_wp2_with fail
     go_roundw
     case rel => exact ⟨k + 1, s / 256, zs.set j (s % 256), by omega, HR2.out, by go_num, by go_num, HZL2.out, HZD2.out, HV2.out, HBLK2.out, HBEL2.out _⟩
     case measure => simp [intOf]; omega
    ·have hlb' : ¬ (k : Int) < ((dig b).length : Int) := by omega
     have db1 : decide ((k : Int) < ((dig b).length : Int)) = false := decide_eq_false hlb'
     by_cases hr0 : 0 < r
     ·have hr0' : (0 : Int) < (r : Int) := by omega
      have dr1 : decide ((0 : Int) < (r : Int)) = true := decide_eq_true hr0'
      have hkb := mul_carry (N := (dig b).length) rfl hzv.out (mul_top hlt rfl) hr0 rfl
      have hvb := val_take_dg (dig b) k
      rw [dg_of_ge (xs := dig b) (by omega), Nat.mul_zero, Nat.add_zero] at hvb
      obtain ⟨j, hj⟩ : ∃ j, i + k = j := ⟨_, rfl⟩
      have hjL : j < zs.length := by omega
      have hjL' : (j : Int) < (L : Int) := by omega
      have ho := hblk.cell hjL
      have hf := hblk.frozen j
      have hod := dg_lt hzd j
      obtain ⟨o, hoe⟩ : ∃ o, dg zs j = o := ⟨_, rfl⟩
      have hzv' := hzv.out
      rewrite [hoe] at ho hod
      rw [B64_eq] at hod
      obtain ⟨s, hs⟩ : ∃ s, o + r = s := ⟨_, rfl⟩
      have ww0 : IntKind.i64.wrap ((i : Int) + (k : Int)) = (j : Int) := by
       have h := IntWalk.i64_in ((i : Int) + (k : Int)) (by omega)
       rw [h]; omega
      have ww1 : IntKind.i64.wrap ((o : Int) + (r : Int)) = (s : Int) := by
       have h := IntWalk.i64_in ((o : Int) + (r : Int)) (by omega)
       rw [h]; omega
      have hsb : s ≤ 65535 := by omega
      have HV2 : Hid (val (zs.set j (s % 256)) + 256 ^ (i + (k + 1)) * (s / 256) = val ((dig a).take i) * b + 256 ^ i * dg (dig a) i * val ((dig b).take (k + 1))) := by
       show _ = _
       have h1 := val_set (s % 256) hjL
       rw [hoe] at h1
       have h2 := mul_digit (x := 0) (y := 0) (s := s) hzv' (show s = o + r + 0 * 0 by omega) (by rw [hj]; exact h1)
       rw [hvb, show i + (k + 1) = i + k + 1 by omega, Nat.pow_succ, h2]
       simp
      have HZD2 : Hid (Digs (zs.set j (s % 256))) := hzd.set_ j _ (Nat.mod_lt _ (by omega))
      have HZL2 : Hid ((zs.set j (s % 256)).length = L) := by show _ = _; rw [List.length_set]; exact hzl
      have HBLK2 : Hid (Blk (wr.setCell ⟨w2.heap.size, j, none⟩ (.int .i64 ((s : Int) % 256))) w2.heap.size (zs.set j (s % 256))) := hblk.set_ j (s % 256)
      have HBEL2 : Hid (Below w2.heap.size w2 (wr.setCell ⟨w2.heap.size, j, none⟩ (.int .i64 ((s : Int) % 256)))) := hbel.setCell (Nat.le_refl _) _
      have HR2 : Hid (s / 256 < 256) := by show _ < _; omega
      have hrr := lh hr
      clear hvb hzv hzv' hzd hzl hoe hs hj hod hjL hblk hbel hr
      go_wp2_with fail
      go_roundw
      case rel => exact ⟨k + 1, s / 256, zs.set j (s % 256), by omega, HR2.out, by go_num, by go_num, HZL2.out, HZD2.out, HV2.out, HBLK2.out, HBEL2.out⟩
      case measure => simp [intOf]; omega
     ·have hr00 : r = 0 := by omega
      subst hr00
      have HV2 : Hid (val zs = val ((dig a).take (i + 1)) * b) := by
       show _ = _
       have h := hzv.out
       rw [Nat.mul_zero, Nat.add_zero, show (dig b).take k = dig b from List.take_of_length_le (by omega), val_dig] at h
       rw [h, val_take_dg, Nat.add_mul, B64_eq]
      have HBLK2 := lh hblk
      have HBEL2 := lh hbel
      have HZD2 := lh hzd
      have HZL2 := lh hzl
      clear hzv hblk hbel hzd hzl hr
      go_wp2_with fail
      go_roundw
      case rel => exact ⟨i + 1, zs, by omega, by go_num, HZL2.out, HZD2.out, HV2.out, HBLK2.out, HBEL2.out⟩
      case measure => simp [intOf]; omega
  ·have hlt' : ¬ (i : Int) < ((dig a).length : Int) := by omega
   have hval : val os = a * b := by rw [hv.out, List.take_of_length_le (by omega), val_dig]
   have hT := large_any wr (some ⟨w2.heap.size, 0, none⟩) L os (hblk.num hod) (by omega) (by omega)
   rw [hval, hol] at hT
   have HT := lh hT
   have HBEL := lh (HB2.out.trans (hbel.mono HB2.out.size))
   clear hT hval hv hblk hbel hol hod
   go_wp2_with fail
   refine HT.out.mono ?_
   rintro e w4 ⟨A4, c4, rfl, hc4, ha4, hb4⟩
   have HA4 := lh ha4
   have HB4 := lh (HBEL.out.trans (hb4.mono HBEL.out.size))
   clear ha4 hb4
   go_wp2_with fail
   go_ret
   exact ⟨A4, c4, rfl, hc4, HA4.out, HB4.out⟩
end E

namespace E
open YthjiacmhhpfokaaGreat renaming shlv → shlvN
open Go.RowKit
theorem Num.news {w : World} {ad : Addr} {xs : List Nat} (h : Num w (some ad) xs) : ∀ (j : Nat) (u : Value), (xs.map dcell)[j]? = some u → w.cell? (ad.add j) = some u := by
 intro j u hj
 rw [List.getElem?_map] at hj
 rcases Nat.lt_or_ge j xs.length with hlt | hge
 ·obtain ⟨b, off, e, _, hc⟩ := h.at_ (by omega)
  injection e with e
  subst e
  rw [List.getElem?_eq_getElem hlt] at hj
  rw [YthjiacmhhpfokaaGreat.addr_add, hc j hlt, dg_of_lt hlt]
  exact hj
 ·rw [List.getElem?_eq_none hge] at hj
  cases hj
theorem below_new {B : Nat} {w wr w1 : World} {o : Obj} {n c : Nat} (hb : Below B w wr) (hB : B ≤ wr.heap.size) (hg : (wr.alloc o).grownBy w1 (Value.ownBlock (.slice (some ⟨wr.heap.size, 0, none⟩) n c))) : Below B w w1 :=
 (hb.alloc hB o).grown hg (by simp; omega) (fun k hk => by
  have hk : wr.heap.size = k := by simpa [Value.ownBlock] using hk
  omega)
theorem dcells_one (xs : List Nat) : ∀ u ∈ xs.map dcell, u.oneCell' = true := by
 intro u hu
 obtain ⟨x, _, rfl⟩ := List.mem_map.1 hu
 rfl
set_option maxRecDepth 100000 in
set_option maxHeartbeats 8000000 in
theorem Shl_any (w : World) (A : Option Addr) (c : Nat) (xs : List Nat) (n : Int) (ha : YthjiacmhhpfokaaGreat.Num w A xs) (hn : xs.length ≤ 400000) :
  Calls tz 225 #[.slice A xs.length c, .int .i64 n] w (YthjiacmhhpfokaaGreat.RetN w (shlvN (YthjiacmhhpfokaaGreat.val xs) n)) := by
 have hl1 := dl_small ha.1
 have H1 := lh (small_any w A c xs ha (by omega))
 obtain ⟨a, hva⟩ : ∃ a, YthjiacmhhpfokaaGreat.val xs = a := ⟨_, rfl⟩
 rw [hva] at hl1 H1
 rw [hva]
 clear ha hva
 by_cases hbig : 1048576 < n
 ·have HV : Hid (shlvN a n = 0) := by
   show _ = _
   unfold shlvN
   rw [if_neg (by omega), if_pos hbig]
  clear H1
  go_enter Tryz.func225, Tryz.ntmps225
  go_wp2_with fail
  go_ret
  rw [HV.out]
  exact ⟨none, 0, by rw [YthjiacmhhpfokaaGreat.dig_zero]; rfl, by rw [YthjiacmhhpfokaaGreat.dig_zero]; exact Nat.le_refl _, by rw [YthjiacmhhpfokaaGreat.dig_zero]; exact YthjiacmhhpfokaaGreat.Num.nil _ _, Below.refl _ _⟩
 ·obtain ⟨T, hT⟩ : ∃ T, shlvN a n = T := ⟨_, rfl⟩
  have HT0 : Hid (a * 2 ^ n.toNat = T) := by
   show _ = _
   rw [← hT]
   unfold shlvN
   split
   ·rw [show n.toNat = 0 by omega, Nat.pow_zero, Nat.mul_one]
   ·first | rfl | rw [if_neg hbig]
  have hTl : (dig T).length ≤ 3500000 := by
   rw [← HT0.out]
   have := shl_top (v := a) (n := n.toNat)
   omega
  rw [hT]
  clear hT
  obtain ⟨i0, hi0, hz0, hz1, hz2⟩ := info_parts info_u64
  have hb0 : n ≤ 1048576 := by omega
  go_enter Tryz.func225, Tryz.ntmps225
  go_wp2_with fail
  refine H1.out.mono ?_
  rintro e w1 ⟨A1, c1, rfl, hc1, h1, hb1⟩
  have HN1 := lh h1
  have HB1 := lh hb1
  clear h1 hb1 H1
  go_wp2_with fail
  go_loopw [1, 5] (fun nv xv wr => ∃ (z : Int) (v : Nat) (A' : Option Addr) (c' : Nat), nv = .int .i64 z ∧ xv = .slice A' (dig v).length c' ∧ z ≤ 1048576 ∧ (dig v).length ≤ c' ∧ Hid (v * 2 ^ z.toNat = T) ∧ Hid (Num wr A' (dig v)) ∧ Hid (Below w1.heap.size w1 wr)) (fun nv _ _ => (intOf nv).toNat)
  case atStart => exact ⟨n, a, A1, c1, rfl, rfl, hb0, hc1, HT0, HN1, Below.refl _ _⟩
  case round =>
   obtain ⟨z, v, A', c', rfl, rfl, hz, hc', hv, HN, HBL⟩ := hrel
   have hvl : (dig v).length ≤ 3500000 := lT (shl_len hv.out) hTl
   by_cases hgo : 8 ≤ z ∧ (dig v).length ≠ 0
   ·obtain ⟨h8, hl0⟩ := hgo
    have d8 : decide ((8 : Int) ≤ z) = true := decide_eq_true h8
    have hlp : (0 : Int) < ((dig v).length : Int) := by omega
    have dlp : decide ((0 : Int) < ((dig v).length : Int)) = true := decide_eq_true hlp
    obtain ⟨b1, o1, rfl, hb1, _⟩ := HN.out.at_ (by omega)
    obtain ⟨u, hu⟩ : ∃ u, 256 * v = u := ⟨_, rfl⟩
    have hdu : Hid (0 :: dig v = dig u) := by
     show _ = _
     rw [← hu, dig_nought (dig_ne hl0)]
    have HV2 : Hid (u * 2 ^ (z - 8).toNat = T) := by
     show _ = _
     rw [← hu, show (z - 8).toNat = z.toNat - 8 by omega]
     exact shl_eight hv.out (by omega)
    have hlu : Hid (1 + (dig v).length = (dig u).length) := by
     show _ = _
     rw [← hdu.out, List.length_cons]; omega
    have HSTEP : Hid ([.int .i64 0] ++ (dig v).map dcell = (dig u).map dcell) := by
     show _ = _
     rw [← hdu.out]; rfl
    have HL : Hid (((dig v).map dcell).length = (dig v).length * 1) := by show _ = _; simp
    have hsz := HBL.out.size
    have HNW := lh (HN.out.alloc (.cells #[.int .i64 0] 3)).news
    clear hu hv HN
    go_wp2_with ((at_builtin; refine wpList_append_own _ rfl (.tmp 17) (.tmp 18) 61 rfl w1.heap.size 3 i0 (.int .i64 0) 1 8 under_u64s hi0 hz0 hz1 hz2 rfl (by decide) _ _ _ rfl (World.ownsRow_lit wr #[.int .i64 0] 1 hsz (by unfold maxLen; omega) rfl) ⟨b1, o1, none⟩ (dig v).length c' ((dig v).map dcell) rfl HL.out HNW.out (dcells_one _) (by unfold maxLen; omega) (by omega) (by simp; omega) ?_); intro v' w3 hown' hgrow hnil)
    rw [show (#[Value.int .i64 0]).toList = [.int .i64 0] from rfl, HSTEP.out, hlu.out] at hown'
    obtain ⟨A3, c3, rfl, hc3, hnum⟩ := num_of_own (dig_digs u) hown'
    have HN3 := lh hnum
    have HBL3 := lh (below_new HBL.out hsz hgrow)
    clear hown' hgrow hnil hnum
    go_wp2_with fail
    go_roundw
    case rel => exact ⟨z - 8, u, A3, c3, by go_num, rfl, by omega, hc3, HV2, HN3, HBL3⟩
    case measure => simp [intOf]; omega
   ·have HNX : Hid (∃ (z' : Int) (v' : Nat) (A'' : Option Addr) (c'' : Nat), Value.int .i64 z = .int .i64 z' ∧ Value.slice A' (dig v).length c' = .slice A'' (dig v').length c'' ∧ z' ≤ 1048576 ∧ (dig v').length ≤ c'' ∧ Hid (v' * 2 ^ z'.toNat = T) ∧ Hid (Num wr A'' (dig v')) ∧ Hid (Below w1.heap.size w1 wr)) := ⟨z, v, A', c', rfl, rfl, hz, hc', hv, HN, HBL⟩
    clear hv HN HBL hc'
    by_cases h8 : 8 ≤ z
    ·have d8 : decide ((8 : Int) ≤ z) = true := decide_eq_true h8
     have hl0 : (dig v).length = 0 := by omega
     have hlp : ¬ (0 : Int) < ((dig v).length : Int) := by omega
     have dlp : decide ((0 : Int) < ((dig v).length : Int)) = false := decide_eq_false hlp
     clear hgo hl0
     go_wp2_with fail
     go_loopw [1, 5] (fun nv xv wr => ∃ (z : Int) (v : Nat) (A' : Option Addr) (c' : Nat), nv = .int .i64 z ∧ xv = .slice A' (dig v).length c' ∧ z ≤ 1048576 ∧ (dig v).length ≤ c' ∧ Hid (v * 2 ^ z.toNat = T) ∧ Hid (Num wr A' (dig v)) ∧ Hid (Below w1.heap.size w1 wr)) (fun nv _ _ => (intOf nv).toNat)
     case atStart => exact HNX.out
     case round =>
      obtain ⟨z, v, A', c', rfl, rfl, hz, hc', hv, HN, HBL⟩ := hrel
      have hvl : (dig v).length ≤ 3500000 := lT (shl_len hv.out) hTl
      by_cases hgo : 0 < z ∧ (dig v).length ≠ 0
      ·obtain ⟨h8, hl0⟩ := hgo
       have d8 : decide ((0 : Int) < z) = true := decide_eq_true h8
       have hlp : (0 : Int) < ((dig v).length : Int) := by omega
       have dlp : decide ((0 : Int) < ((dig v).length : Int)) = true := decide_eq_true hlp
       have HT2 : Calls tz 226 #[.slice A' (dig v).length c', .int .i64 0] wr (RetN wr (2 * v + 0)) := twice_any wr A' c' v 0 HN.out (Nat.zero_le _) (by omega)
       obtain ⟨u, hu⟩ : ∃ u, 2 * v + 0 = u := ⟨_, rfl⟩
       rw [hu] at HT2
       have HTW := lh HT2
       have HV2 : Hid (u * 2 ^ (z - 1).toNat = T) := by
        show _ = _
        rw [← hu, show (z - 1).toNat = z.toNat - 1 by omega]
        exact shl_one hv.out (by omega)
       clear hu hv HT2
       go_wp2_with fail
       refine HTW.out.mono ?_
       rintro e w4 ⟨A4, c4, rfl, hc4, ha4, hb4⟩
       have HA4 := lh ha4
       have HB4 := lh (HBL.out.trans (hb4.mono HBL.out.size))
       clear ha4 hb4
       go_wp2_with fail
       go_roundw
       case rel => exact ⟨z - 1, u, A4, c4, by go_num, rfl, by omega, hc4, HV2, HA4, HB4⟩
       case measure => simp [intOf]; omega
      ·have hvT : v = T := shl_none hv.out (by
        rcases Int.lt_or_le 0 z with h | h
        ·exact .inr (dig_nil_iff.1 (by omega))
        ·exact .inl (by omega))
       have HL0 := large_any wr A' c' (dig v) HN.out (by omega) hc'
       rw [val_dig] at HL0
       subst hvT
       have HL := lh HL0
       clear hv HN HL0 HNX hc'
       by_cases h8 : 0 < z
       ·have d8 : decide ((0 : Int) < z) = true := decide_eq_true h8
        have hl0 : (dig v).length = 0 := by omega
        have hlp : ¬ (0 : Int) < ((dig v).length : Int) := by omega
        have dlp : decide ((0 : Int) < ((dig v).length : Int)) = false := decide_eq_false hlp
        clear hgo hl0
        go_wp2_with fail
        refine HL.out.mono ?_
        rintro e w4 ⟨A4, c4, rfl, hc4, ha4, hb4⟩
        have HA4 := lh ha4
        have HB4 := lh ((HB1.out.trans (HBL.out.mono HB1.out.size)).trans (hb4.mono (HB1.out.trans (HBL.out.mono HB1.out.size)).size))
        clear ha4 hb4
        go_wp2_with fail
        go_ret
        exact ⟨A4, c4, rfl, hc4, HA4.out, HB4.out⟩
       ·have d8 : decide ((0 : Int) < z) = false := decide_eq_false h8
        clear hgo
        go_wp2_with fail
        refine HL.out.mono ?_
        rintro e w4 ⟨A4, c4, rfl, hc4, ha4, hb4⟩
        have HA4 := lh ha4
        have HB4 := lh ((HB1.out.trans (HBL.out.mono HB1.out.size)).trans (hb4.mono (HB1.out.trans (HBL.out.mono HB1.out.size)).size))
        clear ha4 hb4
        go_wp2_with fail
        go_ret
        exact ⟨A4, c4, rfl, hc4, HA4.out, HB4.out⟩
    ·have d8 : decide ((8 : Int) ≤ z) = false := decide_eq_false h8
     clear hgo
     go_wp2_with fail
     go_loopw [1, 5] (fun nv xv wr => ∃ (z : Int) (v : Nat) (A' : Option Addr) (c' : Nat), nv = .int .i64 z ∧ xv = .slice A' (dig v).length c' ∧ z ≤ 1048576 ∧ (dig v).length ≤ c' ∧ Hid (v * 2 ^ z.toNat = T) ∧ Hid (Num wr A' (dig v)) ∧ Hid (Below w1.heap.size w1 wr)) (fun nv _ _ => (intOf nv).toNat)
     case atStart => exact HNX.out
     case round =>
      obtain ⟨z, v, A', c', rfl, rfl, hz, hc', hv, HN, HBL⟩ := hrel
      have hvl : (dig v).length ≤ 3500000 := lT (shl_len hv.out) hTl
      by_cases hgo : 0 < z ∧ (dig v).length ≠ 0
      ·obtain ⟨h8, hl0⟩ := hgo
       have d8 : decide ((0 : Int) < z) = true := decide_eq_true h8
       have hlp : (0 : Int) < ((dig v).length : Int) := by omega
       have dlp : decide ((0 : Int) < ((dig v).length : Int)) = true := decide_eq_true hlp
       have HT2 : Calls tz 226 #[.slice A' (dig v).length c', .int .i64 0] wr (RetN wr (2 * v + 0)) := twice_any wr A' c' v 0 HN.out (Nat.zero_le _) (by omega)
       obtain ⟨u, hu⟩ : ∃ u, 2 * v + 0 = u := ⟨_, rfl⟩
       rw [hu] at HT2
       have HTW := lh HT2
       have HV2 : Hid (u * 2 ^ (z - 1).toNat = T) := by
        show _ = _
        rw [← hu, show (z - 1).toNat = z.toNat - 1 by omega]
        exact shl_one hv.out (by omega)
       clear hu hv HT2
       go_wp2_with fail
       refine HTW.out.mono ?_
       rintro e w4 ⟨A4, c4, rfl, hc4, ha4, hb4⟩
       have HA4 := lh ha4
       have HB4 := lh (HBL.out.trans (hb4.mono HBL.out.size))
       clear ha4 hb4
       go_wp2_with fail
       go_roundw
       case rel => exact ⟨z - 1, u, A4, c4, by go_num, rfl, by omega, hc4, HV2, HA4, HB4⟩
       case measure => simp [intOf]; omega
      ·have hvT : v = T := shl_none hv.out (by
        rcases Int.lt_or_le 0 z with h | h
        ·exact .inr (dig_nil_iff.1 (by omega))
        ·exact .inl (by omega))
       have HL0 := large_any wr A' c' (dig v) HN.out (by omega) hc'
       rw [val_dig] at HL0
       subst hvT
       have HL := lh HL0
       clear hv HN HL0 HNX hc'
       by_cases h8 : 0 < z
       ·have d8 : decide ((0 : Int) < z) = true := decide_eq_true h8
        have hl0 : (dig v).length = 0 := by omega
        have hlp : ¬ (0 : Int) < ((dig v).length : Int) := by omega
        have dlp : decide ((0 : Int) < ((dig v).length : Int)) = false := decide_eq_false hlp
        clear hgo hl0
        go_wp2_with fail
        refine HL.out.mono ?_
        rintro e w4 ⟨A4, c4, rfl, hc4, ha4, hb4⟩
        have HA4 := lh ha4
        have HB4 := lh ((HB1.out.trans (HBL.out.mono HB1.out.size)).trans (hb4.mono (HB1.out.trans (HBL.out.mono HB1.out.size)).size))
        clear ha4 hb4
        go_wp2_with fail
        go_ret
        exact ⟨A4, c4, rfl, hc4, HA4.out, HB4.out⟩
       ·have d8 : decide ((0 : Int) < z) = false := decide_eq_false h8
        clear hgo
        go_wp2_with fail
        refine HL.out.mono ?_
        rintro e w4 ⟨A4, c4, rfl, hc4, ha4, hb4⟩
        have HA4 := lh ha4
        have HB4 := lh ((HB1.out.trans (HBL.out.mono HB1.out.size)).trans (hb4.mono (HB1.out.trans (HBL.out.mono HB1.out.size)).size))
        clear ha4 hb4
        go_wp2_with fail
        go_ret
        exact ⟨A4, c4, rfl, hc4, HA4.out, HB4.out⟩
end E

namespace E
open YthjiacmhhpfokaaGreat renaming dig → digN
open YthjiacmhhpfokaaGreat renaming val → valN
open YthjiacmhhpfokaaGreat renaming Num → NumN
open YthjiacmhhpfokaaGreat renaming cmpv → cmpvN
open Go.RowKit
theorem halve (w : World) (A : Option Addr) (c p : Nat) (h : NumN w A (digN p)) (hn : (digN p).length ≤ 16001) :
  Calls tz 224 #[.slice A (digN p).length c, .int .i64 1] w (YthjiacmhhpfokaaGreat.RetN w (p / 2)) := by
 have h1 := Shr_any w A c (digN p) 1 h (by omega)
 rw [YthjiacmhhpfokaaGreat.val_dig] at h1
 exact h1
theorem len_half (p : Nat) : (digN (p / 2)).length ≤ (digN p).length := YthjiacmhhpfokaaGreat.dig_length_mono (by omega)
theorem gcd_pow {t p q g0 : Nat} (hp : p % 2 = 0) (hq : q % 2 = 0) (h : 2 ^ t * Nat.gcd p q = g0) : 2 ^ (t + 1) * Nat.gcd (p / 2) (q / 2) = g0 := by
 rw [← h, gcd_both hp hq, Nat.pow_succ, Nat.mul_assoc]
theorem pow_small {t g K x : Nat} (h : 2 ^ t * x = g) (hx : 0 < x) (hg : g < 2 ^ K) : t < K := by
 rcases Nat.lt_or_ge t K with h1 | h1
 ·exact h1
 ·have h2 : 2 ^ K ≤ 2 ^ t := Nat.pow_le_pow_right (by omega) h1
  have h3 : 2 ^ t * 1 ≤ 2 ^ t * x := Nat.mul_le_mul_left _ hx
  omega
theorem dl_gcd8 (a b : Nat) : (digN (Nat.gcd a b)).length ≤ max (digN a).length (digN b).length := by
 rcases Nat.eq_zero_or_pos a with h | h
 ·rw [h, Nat.gcd_zero_left]; exact Nat.le_max_right _ _
 ·exact lT (YthjiacmhhpfokaaGreat.dig_length_mono (Nat.gcd_le_left b h)) (Nat.le_max_left _ _)
theorem gcd_lt_pow {a b : Nat} (ha : (digN a).length ≤ 8000) (hb : (digN b).length ≤ 8000) : ∃ K, K ≤ 1024000 ∧ Nat.gcd a b < 2 ^ K := by
 have h1 := YthjiacmhhpfokaaGreat.val_lt (YthjiacmhhpfokaaGreat.dig_digs (Nat.gcd a b))
 have h2 := dl_gcd8 a b
 rw [YthjiacmhhpfokaaGreat.val_dig, show YthjiacmhhpfokaaGreat.B64 = 2 ^ 64 by rw [YthjiacmhhpfokaaGreat.B64_eq], ← Nat.pow_mul] at h1
 exact ⟨64 * (digN (Nat.gcd a b)).length, by omega, h1⟩
set_option maxRecDepth 100000 in
set_option maxHeartbeats 16000000 in
theorem Gcd_any (w : World) (A B : Option Addr) (c d : Nat) (xs ys : List Nat) (ha : NumN w A xs) (hb : NumN w B ys) (hn : xs.length ≤ 8000) (hm : ys.length ≤ 8000) :
  Calls tz 210 #[.slice A xs.length c, .slice B ys.length d] w (YthjiacmhhpfokaaGreat.RetN w (Nat.gcd (valN xs) (valN ys))) := by
 have HB := lh hb
 have hl1 := dl_small ha.1
 have hl2 := dl_small hb.1
 have k1 := YthjiacmhhpfokaaGreat.dig_length_val ha.1
 have k2 := YthjiacmhhpfokaaGreat.dig_length_val hb.1
 have H1 := lh (small_any w A c xs ha (by omega))
 have HS2 := lh (fun w1 (h : Below w.heap.size w w1) => small_any w1 B d ys (HB.out.below h) (by omega))
 obtain ⟨a, hva⟩ : ∃ a, valN xs = a := ⟨_, rfl⟩
 obtain ⟨b, hvb⟩ : ∃ b, valN ys = b := ⟨_, rfl⟩
 rw [hva] at hl1 H1 k1
 rw [hvb] at hl2 HS2 k2
 rw [hva, hvb]
 clear ha hb hva hvb
 have HLA := lh (fun W A' c' (h : Num W A' (dig a)) (hc : (dig a).length ≤ c') => large_any W A' c' (dig a) h (by omega) hc)
 have HLB := lh (fun W A' c' (h : Num W A' (dig b)) (hc : (dig b).length ≤ c') => large_any W A' c' (dig b) h (by omega) hc)
 rw [val_dig] at HLA HLB
 obtain ⟨K, hK, hgk⟩ := gcd_lt_pow (a := a) (b := b) (by omega) (by omega)
 have HGK := lh hgk
 clear hgk
 obtain ⟨g0, hg0⟩ : ∃ g, Nat.gcd a b = g := ⟨_, rfl⟩
 rw [hg0] at HGK ⊢
 have HG0 := lh hg0
 clear hg0
 go_enter Tryz.func210, Tryz.ntmps210
 go_wp2_with fail
 refine H1.out.mono ?_
 rintro e w1 ⟨A1, c1, rfl, hc1, h1, hb1⟩
 have HN1 := lh h1
 have HB1 := lh hb1
 clear h1 hb1 H1
 go_wp2_with fail
 refine (HLA.out w1 A1 c1 HN1.out hc1).mono ?_
 rintro e w2 ⟨A2, c2, rfl, hc2, h2, hb2⟩
 have HN2 := lh h2
 have HB2 := lh (HB1.out.trans (hb2.mono HB1.out.size))
 clear h2 hb2 HN1 HB1 HLA
 go_wp2_with fail
 refine (HS2.out w2 HB2.out).mono ?_
 rintro e w3 ⟨A3, c3, rfl, hc3, h3, hb3⟩
 have HN3 := lh h3
 have HM2 := lh (HN2.out.below hb3)
 have HB3 := lh (HB2.out.trans (hb3.mono HB2.out.size))
 clear h3 hb3 HN2 HB2 HS2
 go_wp2_with fail
 refine (HLB.out w3 A3 c3 HN3.out hc3).mono ?_
 rintro e w4 ⟨A4, c4, rfl, hc4, h4, hb4⟩
 have HN4 := lh h4
 have HM4 := lh (HM2.out.below hb4)
 have HB4 := lh (HB3.out.trans (hb4.mono HB3.out.size))
 clear h4 hb4 HN3 HB3 HM2 HLB HB
 go_upto_block 0 with fail
 go_cut [5, 6, 7] (fun xv yv tv wr => ∃ (p q t : Nat) (A1 A2 : Option Addr) (c1 c2 : Nat), xv = .slice A1 (digN p).length c1 ∧ yv = .slice A2 (digN q).length c2 ∧ tv = .int .i64 t ∧ t ≤ 1024000 ∧ (digN p).length ≤ 16001 ∧ (digN q).length ≤ 16001 ∧ (digN p).length ≤ c1 ∧ (digN q).length ≤ c2 ∧ Hid (p % 2 = 1 ∨ q % 2 = 1 ∨ p = 0 ∨ q = 0) ∧ Hid (2 ^ t * Nat.gcd p q = g0) ∧ Hid (NumN wr A1 (digN p)) ∧ Hid (NumN wr A2 (digN q)) ∧ Hid (Below w.heap.size w wr))
 case first =>
  go_wp2_with fail
  go_loopg [5, 6, 7] (a + b) (fun G xv yv tv wr => ∃ (p q t : Nat) (A1 A2 : Option Addr) (c1 c2 : Nat), xv = .slice A1 (digN p).length c1 ∧ yv = .slice A2 (digN q).length c2 ∧ tv = .int .i64 t ∧ t ≤ 1024000 ∧ (digN p).length ≤ 16001 ∧ (digN q).length ≤ 16001 ∧ (digN p).length ≤ c1 ∧ (digN q).length ≤ c2 ∧ Hid (p + q = G) ∧ Hid (2 ^ t * Nat.gcd p q = g0) ∧ Hid (NumN wr A1 (digN p)) ∧ Hid (NumN wr A2 (digN q)) ∧ Hid (Below w.heap.size w wr))
  case atStart => exact ⟨a, b, 0, A2, A4, c2, c4, rfl, rfl, rfl, by omega, by omega, by omega, hc2, hc4, rfl, by show _ = _; rw [HG0.out]; omega, HM4, HN4, HB4⟩
  case round =>
   obtain ⟨p, q, t, A1, A2, c1, c2, rfl, rfl, rfl, ht, lp, lq, hc1, hc2, hG, hg, HN1, HN2, HBL⟩ := hrel
   have HX : Hid ((p % 2 = 1 ∨ q % 2 = 1 ∨ p = 0 ∨ q = 0) → ∀ xv yv tv, xv = Value.slice A1 (digN p).length c1 → yv = Value.slice A2 (digN q).length c2 → tv = Value.int .i64 (t : Int) → ∃ (p q t : Nat) (A1 A2 : Option Addr) (c1 c2 : Nat), xv = .slice A1 (digN p).length c1 ∧ yv = .slice A2 (digN q).length c2 ∧ tv = .int .i64 t ∧ t ≤ 1024000 ∧ (digN p).length ≤ 16001 ∧ (digN q).length ≤ 16001 ∧ (digN p).length ≤ c1 ∧ (digN q).length ≤ c2 ∧ Hid (p % 2 = 1 ∨ q % 2 = 1 ∨ p = 0 ∨ q = 0) ∧ Hid (2 ^ t * Nat.gcd p q = g0) ∧ Hid (NumN wr A1 (digN p)) ∧ Hid (NumN wr A2 (digN q)) ∧ Hid (Below w.heap.size w wr)) := fun ho _ _ _ e1 e2 e3 => ⟨p, q, t, A1, A2, c1, c2, e1, e2, e3, ht, lp, lq, hc1, hc2, ho, hg, HN1, HN2, HBL⟩
   by_cases hp0 : p = 0
   ·have hlp : ¬ (0 : Int) < ((digN p).length : Int) := by
     have := YthjiacmhhpfokaaGreat.dig_nil_iff.2 hp0
     omega
    have dlp : decide ((0 : Int) < ((digN p).length : Int)) = false := decide_eq_false hlp
    have HXO := lh (HX.out (.inr (.inr (.inl hp0))))
    clear HX hp0
    go_wp2_with fail
    go_meet
    exact HXO.out _ _ _ rfl rfl rfl
   ·have hlp : (0 : Int) < ((digN p).length : Int) := by
     have : (digN p).length ≠ 0 := fun h => hp0 (YthjiacmhhpfokaaGreat.dig_nil_iff.1 h)
     omega
    have dlp : decide ((0 : Int) < ((digN p).length : Int)) = true := decide_eq_true hlp
    obtain ⟨b1, o1, rfl, hb1, hcell1⟩ := HN1.out.at_ (by omega)
    have hx := hcell1 0 (by omega)
    rw [Nat.add_zero] at hx
    have hxe := dig64_even p
    obtain ⟨x, hxd⟩ : ∃ x, YthjiacmhhpfokaaGreat.dg (digN p) 0 = x := ⟨_, rfl⟩
    rw [hxd] at hx hxe
    clear hcell1 hxd
    by_cases hq0 : q = 0
    ·have hlq : ¬ (0 : Int) < ((digN q).length : Int) := by
      have := YthjiacmhhpfokaaGreat.dig_nil_iff.2 hq0
      omega
     have dlq : decide ((0 : Int) < ((digN q).length : Int)) = false := decide_eq_false hlq
     have HXO := lh (HX.out (.inr (.inr (.inr hq0))))
     clear HX hq0 hp0 hxe
     go_wp2_with fail
     go_meet
     exact HXO.out _ _ _ rfl rfl rfl
    ·have hlq : (0 : Int) < ((digN q).length : Int) := by
      have : (digN q).length ≠ 0 := fun h => hq0 (YthjiacmhhpfokaaGreat.dig_nil_iff.1 h)
      omega
     have dlq : decide ((0 : Int) < ((digN q).length : Int)) = true := decide_eq_true hlq
     obtain ⟨b2, o2, rfl, hb2, hcell2⟩ := HN2.out.at_ (by omega)
     have hy := hcell2 0 (by omega)
     rw [Nat.add_zero] at hy
     have hye := dig64_even q
     obtain ⟨y, hyd⟩ : ∃ y, YthjiacmhhpfokaaGreat.dg (digN q) 0 = y := ⟨_, rfl⟩
     rw [hyd] at hy hye
     clear hcell2 hyd
     by_cases hpe : p % 2 = 0
     ·have hmx : ((((x : Nat) : Int) % 2) == 0) = true := by
       rw [beq_iff_eq]; omega
      by_cases hqe : q % 2 = 0
      ·have hmy : ((((y : Nat) : Int) % 2) == 0) = true := by
        rw [beq_iff_eq]; omega
       have H2 := lh (gcd_pow hpe hqe hg.out)
       have hpp : 0 < p / 2 := by omega
       have ht2 : t + 1 ≤ 1024000 := by
        have := pow_small H2.out (Nat.gcd_pos_of_pos_left _ hpp) HGK.out
        omega
       have lp' := len_half p
       have lq' := len_half q
       have HS1 := lh (halve wr _ c1 p HN1.out lp)
       have HS2 := lh (fun W (h : NumN W (some ⟨b2, o2, none⟩) (digN q)) => halve W (some ⟨b2, o2, none⟩) c2 q h lq)
       have HGK2 : Hid (p / 2 + q / 2 < gk) := by show _ < _; have := hG.out; omega
       obtain ⟨u, hu⟩ : ∃ u, p / 2 = u := ⟨_, rfl⟩
       obtain ⟨v, hv⟩ : ∃ v, q / 2 = v := ⟨_, rfl⟩
       rw [hu] at HS1 H2 HGK2 lp'
       rw [hv] at HS2 H2 HGK2 lq'
       clear hu hv hpe hqe hp0 hq0 hpp hg hG HX hxe hye
       go_wp2_with fail
       refine HS1.out.mono ?_
       rintro e w5 ⟨A5, c5, rfl, hc5, h5, hb5⟩
       have HN5 := lh h5
       have HN2' := lh (HN2.out.below hb5)
       have HB5 := lh (HBL.out.trans (hb5.mono HBL.out.size))
       clear h5 hb5
       go_wp2_with fail
       refine (HS2.out w5 HN2'.out).mono ?_
       rintro e w6 ⟨A6, c6, rfl, hc6, h6, hb6⟩
       have HN6 := lh h6
       have HN5' := lh (HN5.out.below hb6)
       have HB6 := lh (HB5.out.trans (hb6.mono HB5.out.size))
       clear h6 hb6
       go_wp2_with fail
       go_roundg (u + v)
       case measure => exact HGK2.out
       case rel => exact ⟨u, v, t + 1, A5, A6, c5, c6, rfl, rfl, by go_num, ht2, by omega, by omega, hc5, hc6, rfl, H2, HN5', HN6, HB6⟩
      ·have hmy : ((((y : Nat) : Int) % 2) == 0) = false := by
        rw [beq_eq_false_iff_ne]; omega
       have HXO := lh (HX.out (.inr (.inl (by omega))))
       clear HX hqe hpe hq0 hp0 hxe hye
       go_wp2_with fail
       go_meet
       exact HXO.out _ _ _ rfl rfl rfl
     ·have hmx : ((((x : Nat) : Int) % 2) == 0) = false := by
       rw [beq_eq_false_iff_ne]; omega
      have HXO := lh (HX.out (.inl (by omega)))
      clear HX hpe hq0 hp0 hxe hye
      go_wp2_with fail
      go_meet
      exact HXO.out _ _ _ rfl rfl rfl
 case rest =>
  obtain ⟨p0, q0, t, A1, A2, c1, c2, rfl, rfl, rfl, ht, lp0, lq0, hc1, hc2, ho, hg, HN1, HN2, HBL⟩ := hcut
  have HT := lh ht
  go_upto_block 2 with fail
  go_cut [5, 6] (fun xv yv wr => ∃ (p q  : Nat) (A1 A2 : Option Addr) (c1 c2 : Nat), xv = .slice A1 (digN p).length c1 ∧ yv = .slice A2 (digN q).length c2 ∧ (digN p).length ≤ 16001 ∧ (digN q).length ≤ 16001 ∧ (digN p).length ≤ c1 ∧ (digN q).length ≤ c2 ∧ Hid (p = 0 ∨ q = 0) ∧ Hid (2 ^ t * Nat.gcd p q = g0) ∧ Hid (NumN wr A1 (digN p)) ∧ Hid (NumN wr A2 (digN q)) ∧ Hid (Below w.heap.size w wr))
  case first =>
   go_wp2_with fail
   go_loopg [5, 6] (p0 + q0) (fun G xv yv wr => ∃ (p q  : Nat) (A1 A2 : Option Addr) (c1 c2 : Nat), xv = .slice A1 (digN p).length c1 ∧ yv = .slice A2 (digN q).length c2 ∧ (digN p).length ≤ 16001 ∧ (digN q).length ≤ 16001 ∧ (digN p).length ≤ c1 ∧ (digN q).length ≤ c2 ∧ Hid (p + q = G) ∧ Hid (p % 2 = 1 ∨ q % 2 = 1 ∨ p = 0 ∨ q = 0) ∧ Hid (2 ^ t * Nat.gcd p q = g0) ∧ Hid (NumN wr A1 (digN p)) ∧ Hid (NumN wr A2 (digN q)) ∧ Hid (Below w.heap.size w wr))
   case atStart => exact ⟨p0, q0, A1, A2, c1, c2, rfl, rfl, lp0, lq0, hc1, hc2, rfl, ho, hg, HN1, HN2, HBL⟩
   case round =>
    clear HN1 HN2 HBL hg ho lp0 lq0 hc1 hc2
    obtain ⟨p, q, A1, A2, c1, c2, rfl, rfl, lp, lq, hc1, hc2, hG, ho, hg, HN1, HN2, HBL⟩ := hrel
    by_cases hp0 : p = 0
    ·have hlp : ¬ (0 : Int) < ((digN p).length : Int) := by
      have := YthjiacmhhpfokaaGreat.dig_nil_iff.2 hp0
      omega
     have dlp : decide ((0 : Int) < ((digN p).length : Int)) = false := decide_eq_false hlp
     have HXE : Hid (p = 0 ∨ q = 0) := .inl hp0
     clear ho hp0
     go_wp2_with fail
     go_meet
     exact ⟨p, q, A1, A2, c1, c2, rfl, rfl, lp, lq, hc1, hc2, HXE, hg, HN1, HN2, HBL⟩
    ·have hlp : (0 : Int) < ((digN p).length : Int) := by
      have : (digN p).length ≠ 0 := fun h => hp0 (YthjiacmhhpfokaaGreat.dig_nil_iff.1 h)
      omega
     have dlp : decide ((0 : Int) < ((digN p).length : Int)) = true := decide_eq_true hlp
     obtain ⟨b1, o1, rfl, hb1, hcell1⟩ := HN1.out.at_ (by omega)
     have hx := hcell1 0 (by omega)
     rw [Nat.add_zero] at hx
     have hxe := dig64_even p
     obtain ⟨x, hxd⟩ : ∃ x, YthjiacmhhpfokaaGreat.dg (digN p) 0 = x := ⟨_, rfl⟩
     rw [hxd] at hx hxe
     clear hcell1 hxd
     by_cases hq0 : q = 0
     ·have hlq : ¬ (0 : Int) < ((digN q).length : Int) := by
       have := YthjiacmhhpfokaaGreat.dig_nil_iff.2 hq0
       omega
      have dlq : decide ((0 : Int) < ((digN q).length : Int)) = false := decide_eq_false hlq
      have HXE : Hid (p = 0 ∨ q = 0) := .inr hq0
      clear ho hq0 hp0 hxe
      go_wp2_with fail
      go_meet
      exact ⟨p, q, _, A2, c1, c2, rfl, rfl, lp, lq, hc1, hc2, HXE, hg, HN1, HN2, HBL⟩
     ·have hlq : (0 : Int) < ((digN q).length : Int) := by
       have : (digN q).length ≠ 0 := fun h => hq0 (YthjiacmhhpfokaaGreat.dig_nil_iff.1 h)
       omega
      have dlq : decide ((0 : Int) < ((digN q).length : Int)) = true := decide_eq_true hlq
      obtain ⟨b2, o2, rfl, hb2, hcell2⟩ := HN2.out.at_ (by omega)
      have hy := hcell2 0 (by omega)
      rw [Nat.add_zero] at hy
      have hye := dig64_even q
      obtain ⟨y, hyd⟩ : ∃ y, YthjiacmhhpfokaaGreat.dg (digN q) 0 = y := ⟨_, rfl⟩
      rw [hyd] at hy hye
      clear hcell2 hyd
      by_cases hpe : p % 2 = 0
      ·have hmx : ((((x : Nat) : Int) % 2) == 0) = true := by
        rw [beq_iff_eq]; omega
       have hodd : q % 2 = 1 := by have := ho.out; omega
       have H2 : Hid (2 ^ t * Nat.gcd (p / 2) q = g0) := by
        show _ = _
        rw [gcd_left hpe hodd]; exact hg.out
       have HGK2 : Hid ((p / 2) + q < gk) := by show _ < _; have := hG.out; omega
       have lu : (digN (p / 2)).length ≤ (digN p).length := YthjiacmhhpfokaaGreat.dig_length_mono (by omega)
       have HS1 := lh (halve wr _ c1 p HN1.out lp)
       have HO2 : Hid ((p / 2) % 2 = 1 ∨ q % 2 = 1 ∨ (p / 2) = 0 ∨ q = 0) := by show _ ∨ _; omega
       obtain ⟨u, hu⟩ : ∃ u, p / 2 = u := ⟨_, rfl⟩
       rw [hu] at HS1 H2 HGK2 lu HO2
       clear ho hu hp0 hq0 hpe hodd hg hG hxe hye
       go_wp2_with fail
       refine HS1.out.mono ?_
       rintro e w5 ⟨A5, c5, rfl, hc5, h5, hb5⟩
       have HN5 := lh h5
       have HK := lh (HN2.out.below hb5)
       have HB5 := lh (HBL.out.trans (hb5.mono HBL.out.size))
       clear h5 hb5
       go_wp2_with fail
       go_roundg (u + q)
       case measure => exact HGK2.out
       case rel => exact ⟨u, q, A5, _, c5, c2, rfl, rfl, by omega, lq, hc5, hc2, rfl, HO2, H2, HN5, HK, HB5⟩
      ·have hmx : ((((x : Nat) : Int) % 2) == 0) = false := by
        rw [beq_eq_false_iff_ne]; omega
       by_cases hqe : q % 2 = 0
       ·have hmy : ((((y : Nat) : Int) % 2) == 0) = true := by
         rw [beq_iff_eq]; omega
        have hodd : p % 2 = 1 := by omega
        have H2 : Hid (2 ^ t * Nat.gcd p (q / 2) = g0) := by
         show _ = _
         rw [gcd_right hodd hqe]; exact hg.out
        have HGK2 : Hid (p + (q / 2) < gk) := by show _ < _; have := hG.out; omega
        have lu : (digN (q / 2)).length ≤ (digN q).length := YthjiacmhhpfokaaGreat.dig_length_mono (by omega)
        have HS1 := lh (halve wr _ c2 q HN2.out lq)
        have HO2 : Hid (p % 2 = 1 ∨ (q / 2) % 2 = 1 ∨ p = 0 ∨ (q / 2) = 0) := by show _ ∨ _; omega
        obtain ⟨u, hu⟩ : ∃ u, q / 2 = u := ⟨_, rfl⟩
        rw [hu] at HS1 H2 HGK2 lu HO2
        clear ho hu hp0 hq0 hqe hodd hpe hg hG hxe hye
        go_wp2_with fail
        refine HS1.out.mono ?_
        rintro e w5 ⟨A5, c5, rfl, hc5, h5, hb5⟩
        have HN5 := lh h5
        have HK := lh (HN1.out.below hb5)
        have HB5 := lh (HBL.out.trans (hb5.mono HBL.out.size))
        clear h5 hb5
        go_wp2_with fail
        go_roundg (p + u)
        case measure => exact HGK2.out
        case rel => exact ⟨p, u, _, A5, c1, c5, rfl, rfl, lp, by omega, hc1, hc5, rfl, HO2, H2, HK, HN5, HB5⟩
       ·have hmy : ((((y : Nat) : Int) % 2) == 0) = false := by
         rw [beq_eq_false_iff_ne]; omega
        by_cases hle : q ≤ p
        ·have HC0 := Cmp_any wr (some ⟨b1, o1, none⟩) (some ⟨b2, o2, none⟩) c1 c2 (digN p) (digN q) HN1.out HN2.out (by omega) (by omega)
         rw [YthjiacmhhpfokaaGreat.val_dig, YthjiacmhhpfokaaGreat.val_dig] at HC0
         obtain ⟨k, hk⟩ : ∃ k, cmpvN p q = k := ⟨_, rfl⟩
         rw [hk] at HC0
         have HCM := lh HC0
         have hk0 : (0 : Int) ≤ k := by
          rw [← hk]; unfold cmpvN; rw [if_neg (by omega)]; split <;> omega
         have dk0 : decide ((0 : Int) ≤ k) = true := decide_eq_true hk0
         have HD0 := fun W (h1 : NumN W (some ⟨b1, o1, none⟩) (digN p)) (h2 : NumN W (some ⟨b2, o2, none⟩) (digN q)) => Sub_any W (some ⟨b1, o1, none⟩) (some ⟨b2, o2, none⟩) c1 c2 (digN p) (digN q) h1 h2 (by omega) (by omega)
         simp only [YthjiacmhhpfokaaGreat.val_dig] at HD0
         have H2 : Hid (2 ^ t * Nat.gcd (p - q) q = g0) := by
          show _ = _
          rw [gcd_less hle]; exact hg.out
         have HGK2 : Hid ((p - q) + q < gk) := by show _ < _; have := hG.out; omega
         have lu : (digN (p - q)).length ≤ (digN p).length := YthjiacmhhpfokaaGreat.dig_length_mono (by omega)
         have HS1 := lh HD0
         have HO2 : Hid ((p - q) % 2 = 1 ∨ q % 2 = 1 ∨ (p - q) = 0 ∨ q = 0) := by show _ ∨ _; omega
         obtain ⟨u, hu⟩ : ∃ u, p - q = u := ⟨_, rfl⟩
         rw [hu] at HS1 H2 HGK2 lu HO2
         clear ho hu HD0 HC0 hk hp0 hq0 hpe hqe hg hG hxe hye hle
         go_wp2_with fail
         refine HCM.out.mono ?_
         rintro e w4 ⟨rfl, hb4⟩
         have HN1' := lh (HN1.out.below hb4)
         have HN2' := lh (HN2.out.below hb4)
         have HBL' := lh (HBL.out.trans (hb4.mono HBL.out.size))
         clear hb4
         go_wp2_with fail
         refine (HS1.out w4 HN1'.out HN2'.out).mono ?_
         rintro e w5 ⟨A5, c5, rfl, hc5, h5, hb5⟩
         have HN5 := lh h5
         have HK := lh (HN2'.out.below hb5)
         have HB5 := lh (HBL'.out.trans (hb5.mono HBL'.out.size))
         clear h5 hb5
         go_wp2_with fail
         go_roundg (u + q)
         case measure => exact HGK2.out
         case rel => exact ⟨u, q, A5, _, c5, c2, rfl, rfl, by omega, lq, hc5, hc2, rfl, HO2, H2, HN5, HK, HB5⟩
        ·have hlt : p < q := by omega
         clear hle
         have HC0 := Cmp_any wr (some ⟨b1, o1, none⟩) (some ⟨b2, o2, none⟩) c1 c2 (digN p) (digN q) HN1.out HN2.out (by omega) (by omega)
         rw [YthjiacmhhpfokaaGreat.val_dig, YthjiacmhhpfokaaGreat.val_dig] at HC0
         obtain ⟨k, hk⟩ : ∃ k, cmpvN p q = k := ⟨_, rfl⟩
         rw [hk] at HC0
         have HCM := lh HC0
         have hk0 : ¬ (0 : Int) ≤ k := by
          rw [← hk, YthjiacmhhpfokaaGreat.cmpv_lt hlt]; omega
         have dk0 : decide ((0 : Int) ≤ k) = false := decide_eq_false hk0
         have HD0 := fun W (h1 : NumN W (some ⟨b1, o1, none⟩) (digN p)) (h2 : NumN W (some ⟨b2, o2, none⟩) (digN q)) => Sub_any W (some ⟨b2, o2, none⟩) (some ⟨b1, o1, none⟩) c2 c1 (digN q) (digN p) h2 h1 (by omega) (by omega)
         simp only [YthjiacmhhpfokaaGreat.val_dig] at HD0
         have H2 : Hid (2 ^ t * Nat.gcd p (q - p) = g0) := by
          show _ = _
          rw [gcd_more (Nat.le_of_lt hlt)]; exact hg.out
         have HGK2 : Hid (p + (q - p) < gk) := by show _ < _; have := hG.out; omega
         have lu : (digN (q - p)).length ≤ (digN q).length := YthjiacmhhpfokaaGreat.dig_length_mono (by omega)
         have HS1 := lh HD0
         have HO2 : Hid (p % 2 = 1 ∨ (q - p) % 2 = 1 ∨ p = 0 ∨ (q - p) = 0) := by show _ ∨ _; omega
         obtain ⟨u, hu⟩ : ∃ u, q - p = u := ⟨_, rfl⟩
         rw [hu] at HS1 H2 HGK2 lu HO2
         clear ho hu HD0 HC0 hk hp0 hq0 hpe hqe hg hG hxe hye hlt
         go_wp2_with fail
         refine HCM.out.mono ?_
         rintro e w4 ⟨rfl, hb4⟩
         have HN1' := lh (HN1.out.below hb4)
         have HN2' := lh (HN2.out.below hb4)
         have HBL' := lh (HBL.out.trans (hb4.mono HBL.out.size))
         clear hb4
         go_wp2_with fail
         refine (HS1.out w4 HN1'.out HN2'.out).mono ?_
         rintro e w5 ⟨A5, c5, rfl, hc5, h5, hb5⟩
         have HN5 := lh h5
         have HK := lh (HN1'.out.below hb5)
         have HB5 := lh (HBL'.out.trans (hb5.mono HBL'.out.size))
         clear h5 hb5
         go_wp2_with fail
         go_roundg (p + u)
         case measure => exact HGK2.out
         case rel => exact ⟨p, u, _, A5, c1, c5, rfl, rfl, lp, by omega, hc1, hc5, rfl, HO2, H2, HK, HN5, HB5⟩
  case rest =>
   clear HN1 HN2 HBL hg ho lp0 lq0 hc1 hc2
   obtain ⟨p, q, A1, A2, c1, c2, rfl, rfl, lp, lq, hc1, hc2, hz, hg, HN1, HN2, HBL⟩ := hcut
   have HA0 := Add_any wc A1 A2 c1 c2 (digN p) (digN q) HN1.out HN2.out (by omega) (by omega)
   rw [YthjiacmhhpfokaaGreat.val_dig, YthjiacmhhpfokaaGreat.val_dig, gcd_end hz.out] at HA0
   obtain ⟨g1, hg1⟩ : ∃ g1, Nat.gcd p q = g1 := ⟨_, rfl⟩
   rw [hg1] at HA0 hg
   have hgl : (digN g1).length ≤ 16001 := by
    rw [← hg1]; have := dl_gcd8 p q; omega
   have HAD := lh HA0
   have HS := lh (fun W A' c' (h : NumN W A' (digN g1)) => Shl_any W A' c' (digN g1) (t : Int) h (by omega))
   have hv : YthjiacmhhpfokaaGreat.shlv (valN (digN g1)) (t : Int) = g0 := by
    rw [YthjiacmhhpfokaaGreat.val_dig, ← hg.out]
    unfold YthjiacmhhpfokaaGreat.shlv
    split
    ·have : t = 0 := by omega
     subst this; simp
    ·rw [if_neg (by omega), Int.toNat_natCast, Nat.mul_comm]
   rw [hv] at HS
   clear hv HA0 hg1 hg hz HN1 HN2
   go_wp2_with fail
   refine HAD.out.mono ?_
   rintro e w5 ⟨A5, c5, rfl, hc5, h5, hb5⟩
   have HN5 := lh h5
   have HB5 := lh (HBL.out.trans (hb5.mono HBL.out.size))
   clear h5 hb5
   go_wp2_with fail
   refine (HS.out w5 A5 c5 HN5.out).mono ?_
   rintro e w6 ⟨A6, c6, rfl, hc6, h6, hb6⟩
   have HN6 := lh h6
   have HB6 := lh (HB5.out.trans (hb6.mono HB5.out.size))
   clear h6 hb6
   go_wp2_with fail
   go_ret
   exact ⟨A6, c6, rfl, hc6, HN6.out, HB6.out⟩
