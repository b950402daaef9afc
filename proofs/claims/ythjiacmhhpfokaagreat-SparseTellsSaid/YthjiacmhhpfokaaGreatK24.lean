/- Part 24 of the proof: ESub2, EAdd, ETwice, EBits, EShr, EGcdM, EMulM, EShlM. -/
import Derived.Test.YthjiacmhhpfokaaGreatK23
namespace Go.Proofs.YthjiacmhhpfokaaGreat
open Lib renaming hid → lh
open Go.Proofs.Tryz renaming prog → tz
open Nat renaming le_refl → lR, mul_add → mA, mul_comm → mC, mul_assoc → mS
namespace E
open YthjiacmhhpfokaaGreat renaming val → valN
open Go.RowKit
theorem dl_small {xs : List Nat} (h : YthjiacmhhpfokaaGreat.Digs xs) : (dig (valN xs)).length ≤ 8 * xs.length := by
 have h1 := dig_length_val (small_digs xs)
 rwa [small_val h, small_length] at h1
theorem dl8_le {m n : Nat} (h : m ≤ n) : (dig m).length ≤ (dig n).length := dig_length_mono h
set_option maxHeartbeats 2000000 in
theorem Sub_any (w : World) (A B : Option Addr) (c d : Nat) (xs ys : List Nat) (ha : YthjiacmhhpfokaaGreat.Num w A xs) (hb : YthjiacmhhpfokaaGreat.Num w B ys) (hn : xs.length ≤ 1000000) (hm : ys.length ≤ 1000000) :
  Calls tz 185 #[.slice A xs.length c, .slice B ys.length d] w (YthjiacmhhpfokaaGreat.RetN w (valN xs - valN ys)) := by
 have HB := lh hb
 have hl1 := dl_small ha.1
 have hl2 := dl_small hb.1
 have H1 := lh (small_any w A c xs ha hn)
 have HS2 := lh (fun w1 (h : Below w.heap.size w w1) => small_any w1 B d ys (HB.out.below h) hm)
 obtain ⟨a, hva⟩ : ∃ a, valN xs = a := ⟨_, rfl⟩
 obtain ⟨b, hvb⟩ : ∃ b, valN ys = b := ⟨_, rfl⟩
 rw [hva] at hl1 H1
 rw [hvb] at hl2 HS2
 rw [hva, hvb]
 clear ha hb hva hvb
 rcases Nat.lt_or_ge a b with hab | hab
 case' inl => have HCV := lh (YthjiacmhhpfokaaGreat.cmpv_lt hab)
 case' inr =>
  obtain ⟨v, hcv, hv0⟩ : ∃ v : Int, YthjiacmhhpfokaaGreat.cmpv a b = v ∧ ¬ v < 0 := by
   rcases Nat.lt_or_ge b a with h | h
   ·exact ⟨1, YthjiacmhhpfokaaGreat.cmpv_gt h, by omega⟩
   ·exact ⟨0, YthjiacmhhpfokaaGreat.cmpv_eq (by omega), by omega⟩
  have HCV := lh hcv
  clear hcv
 all_goals
  go_enter Tryz.func185, Tryz.ntmps185
  go_wp2_with fail
  refine H1.out.mono ?_
  rintro e w1 ⟨A1, c1, rfl, hc1, h1, hb1⟩
  have HN1 := lh h1
  have HB1 := lh hb1
  clear h1 hb1 H1
  go_wp2_with fail
  refine (HS2.out w1 HB1.out).mono ?_
  rintro e w2 ⟨A2, c2, rfl, hc2, h2, hb2⟩
  have HN1' := lh (HN1.out.below hb2)
  have HN2 := lh h2
  have HB2 := lh (HB1.out.trans (hb2.mono HB1.out.size))
  have h3 := cmp_any w2 A1 A2 c1 c2 a b HN1'.out h2 (by omega) (by omega)
  rw [HCV.out] at h3
  have H3 := lh h3
  clear h2 hb2 HN1 HB1 HS2 h3 HCV
  go_wp2_with fail
  refine H3.out.mono ?_
  rintro e w3 ⟨rfl, q, rfl⟩
 ·have H4 := lh (sub_any (w2.drewN q) A1 A2 c1 c2 a b (HN1'.out.drewN q) (HN2.out.drewN q) hab (by omega) (by omega))
  have hl3 := dl8_le (show a - b ≤ a by omega)
  obtain ⟨r, hr⟩ : ∃ r, a - b = r := ⟨_, rfl⟩
  rw [hr] at H4 hl3
  have HR := lh hr
  clear hr
  go_wp2_with fail
  refine H4.out.mono ?_
  rintro e w4 ⟨A4, c4, rfl, hc4, h4, hb4⟩
  have h5 := large_any w4 A4 c4 (dig r) h4 (by omega) hc4
  rw [val_dig] at h5
  have H5 := lh h5
  have HB4 : Hid (Below w.heap.size w w4) := (below_drewN HB2.out q).trans (hb4.mono (below_drewN HB2.out q).size)
  clear h4 hb4 h5
  go_wp2_with fail
  refine H5.out.mono ?_
  rintro e w5 ⟨A5, c5, rfl, hc5, h5, hb5⟩
  have HN5 := lh h5
  have HB5 := lh (HB4.out.trans (hb5.mono HB4.out.size))
  clear h5 hb5
  go_wp2_with fail
  go_ret
  rw [HR.out]
  exact ⟨A5, c5, rfl, hc5, HN5.out, HB5.out⟩
 ·have HZ : Hid (a - b = 0) := by show _ = _; omega
  clear hab
  go_wp2_with fail
  go_ret
  rw [HZ.out]
  refine ⟨none, 0, by rw [YthjiacmhhpfokaaGreat.dig_zero]; rfl, by rw [YthjiacmhhpfokaaGreat.dig_zero]; simp, by rw [YthjiacmhhpfokaaGreat.dig_zero]; exact YthjiacmhhpfokaaGreat.Num.nil _ _, below_drewN HB2.out q⟩
end E

namespace E
open YthjiacmhhpfokaaGreat renaming val → valN
open Go.RowKit
theorem add_stop {a b k r : Nat} {zs : List Nat} (h1 : ¬ k < (dig a).length) (h2 : ¬ k < (dig b).length) (hr : r = 0) (hv : val zs + 256 ^ k * r = val ((dig a).take k) + val ((dig b).take k)) : val zs = a + b := by
 rw [List.take_of_length_le (by omega), List.take_of_length_le (by omega), val_dig, val_dig, hr, Nat.mul_zero] at hv
 omega
theorem add_digit {va vb vz p x y r s : Nat} (hv : vz + p * r = va + vb) (hs : s = r + x + y) : vz + p * (s % 256) + p * 256 * (s / 256) = va + p * x + (vb + p * y) := by
 have e : s % 256 + 256 * (s / 256) = s := Nat.mod_add_div s 256
 have e2 : p * (s % 256) + p * 256 * (s / 256) = p * s := by rw [mS, ← mA, e]
 rw [hs, mA, mA] at e2
 rw [hs] at *
 omega
set_option maxRecDepth 100000 in
set_option maxHeartbeats 8000000 in
theorem Add_any (w : World) (A B : Option Addr) (c d : Nat) (xs ys : List Nat) (ha : YthjiacmhhpfokaaGreat.Num w A xs) (hb : YthjiacmhhpfokaaGreat.Num w B ys) (hn : xs.length ≤ 400000) (hm : ys.length ≤ 400000) :
  Calls tz 183 #[.slice A xs.length c, .slice B ys.length d] w (YthjiacmhhpfokaaGreat.RetN w (valN xs + valN ys)) := by
 have HB := lh hb
 have hl1 := dl_small ha.1
 have hl2 := dl_small hb.1
 have H1 := lh (small_any w A c xs ha (by omega))
 have HS2 := lh (fun w1 (h : Below w.heap.size w w1) => small_any w1 B d ys (HB.out.below h) (by omega))
 obtain ⟨a, hva⟩ : ∃ a, valN xs = a := ⟨_, rfl⟩
 obtain ⟨b, hvb⟩ : ∃ b, valN ys = b := ⟨_, rfl⟩
 rw [hva] at hl1 H1
 rw [hvb] at hl2 HS2
 rw [hva, hvb]
 clear ha hb hva hvb
 obtain ⟨i0, hi0, hz0, hz1, hz2⟩ := info_parts info_u64
 go_enter Tryz.func183, Tryz.ntmps183
 go_wp2_with fail
 refine H1.out.mono ?_
 rintro e w1 ⟨A1, c1, rfl, hc1, h1, hb1⟩
 have HN1 := lh h1
 have HB1 := lh hb1
 clear h1 hb1 H1
 go_wp2_with fail
 refine (HS2.out w1 HB1.out).mono ?_
 rintro e w2 ⟨A2, c2, rfl, hc2, h2, hb2⟩
 have HA := lh (HN1.out.below hb2)
 have HBB := lh h2
 have HB2 := lh (HB1.out.trans (hb2.mono HB1.out.size))
 clear h2 hb2 HN1 HS2 HB1 HB
 go_wp2_with fail
 go_loopw [7, 8, 9] (fun v cr i wr => ∃ (k r : Nat) (zs : List Nat), k ≤ 3200001 ∧ k ≤ max (dig a).length (dig b).length + 1 ∧ r ≤ 1 ∧ i = .int .i64 k ∧ cr = .int .i64 r ∧ zs.length = k ∧ Digs zs ∧ Hid (val zs + 256 ^ k * r = val ((dig a).take k) + val ((dig b).take k)) ∧
   wr.ownsRow w2.heap.size 3 1 v k (zs.map dcell) ∧ Below w2.heap.size w2 wr ∧ (max (dig a).length (dig b).length < k → r = 0)) (fun _ cr i _ => max (dig a).length (dig b).length + 1 - (intOf i).toNat)
 case atStart => exact ⟨0, 0, [], by omega, by omega, Nat.zero_le _, rfl, rfl, rfl, Digs.nil, by show _ = _; simp [val_nil], World.ownsRow_nil _ _ _ _, Below.refl _ _, fun _ => rfl⟩
 case round =>
  obtain ⟨k, r, zs, hk, hk2, hr, rfl, rfl, hzl, hzd, hv, hown, hbel, hover⟩ := hrel
  by_cases ha1 : k < (dig a).length
  ·have ha1' : (k : Int) < ((dig a).length : Int) := by omega
   have da1 : decide ((k : Int) < ((dig a).length : Int)) = true := decide_eq_true ha1'
   by_cases hbb : k < (dig b).length
   ·have hbb' : (k : Int) < ((dig b).length : Int) := by omega
    obtain ⟨b1, o1, rfl, hb1, hcell⟩ := HA.out.at_ (by omega)
    have hx := (hbel.cell (p := ⟨b1, o1 + k, none⟩) hb1).trans (hcell k ha1)
    have hxd := dg_lt (dig_digs a) k
    obtain ⟨b2, o2, rfl, hb2, hcell2⟩ := HBB.out.at_ (by omega)
    have hy := (hbel.cell (p := ⟨b2, o2 + k, none⟩) hb2).trans (hcell2 k hbb)
    have hyd := dg_lt (dig_digs b) k
    have hva := val_take_dg (dig a) k
    have hvb := val_take_dg (dig b) k
    obtain ⟨x, hxe⟩ : ∃ x, dg (dig a) k = x := ⟨_, rfl⟩
    rewrite [hxe] at hx hxd hva
    rw [B64_eq] at hxd
    obtain ⟨y, hye⟩ : ∃ y, dg (dig b) k = y := ⟨_, rfl⟩
    rewrite [hye] at hy hyd hvb
    rw [B64_eq] at hyd
    obtain ⟨s, hs⟩ : ∃ s : Nat, r + x + y = s := ⟨_, rfl⟩
    obtain ⟨s1, hs1⟩ : ∃ s1 : Nat, r + x = s1 := ⟨_, rfl⟩
    have ww1 : IntKind.i64.wrap ((r : Int) + (x : Int)) = (s1 : Int) := by
     have h := IntWalk.i64_in ((r : Int) + (x : Int)) (by omega)
     rw [h]; omega
    have ww2 : IntKind.i64.wrap ((s1 : Int) + (y : Int)) = (s : Int) := by
     have h := IntWalk.i64_in ((s1 : Int) + (y : Int)) (by omega)
     rw [h]; omega
    have hs512 : s ≤ 511 := by omega
    have HV2 : Hid (val (zs ++ [s % 256]) + 256 ^ (k + 1) * (s / 256) = val ((dig a).take (k + 1)) + val ((dig b).take (k + 1))) := by
     show _ = _
     rw [hva, hvb, val_snoc, hzl, Nat.pow_succ, B64_eq]
     have h := add_digit (x := x) (y := y) hv.out (show s = r + x + y by omega)
     omega
    have HZD2 : Hid (Digs (zs ++ [s % 256])) := hzd.snoc (by rw [B64_eq]; exact Nat.mod_lt _ (by omega))
    have HZL2 : Hid ((zs ++ [s % 256]).length = k + 1) := by show _ = _; simp [hzl]
    have HR2 : Hid (s / 256 ≤ 1) := by show _ ≤ _; omega
    have HOV2 : Hid (max (dig a).length (dig b).length < k + 1 → s / 256 = 0) := by
     intro h
     omega
    have HSTEP : Hid (zs.map dcell ++ [.int .i64 ((s : Int) % 256)] = (zs ++ [s % 256]).map dcell) := by
     show _ = _
     rw [List.map_append]
     rfl
    have hk3 : k + 1 ≤ 3200001 ∧ k + 1 ≤ max (dig a).length (dig b).length + 1 := by omega
    have HK3 := lh hk3
    have hsz := lR w2.heap.size
    have hsz2 := hbel.size
    have HOWN := lh hown
    have HBEL := lh hbel
    clear hown hbel hzl hzd hv hover hva hvb hcell hxe hxd hcell2 hye hyd hs1
    have hrr := lh hr
    clear hr hs hk3 hk2
    go_wp2_with ((at_builtin; refine wpList_append_own _ rfl (.tmp 52) (.tmp 55) 61 rfl w2.heap.size 3 i0 (.int .i64 0) 1 8 under_u64s hi0 hz0 hz1 hz2 rfl (by decide) _ _ _ rfl (HOWN.out.alloc _) ⟨wr.heap.size, 0, none⟩ 1 1 [.int .i64 ((s : Int) % 256)] rfl rfl (app_cell _ _ _) (app_one _ _) (by unfold maxLen; omega) (by omega) (by simp; omega) ?_); intro v' w3 hown' hgrow hnil)
    have HOWN' := lh hown'
    rw [HSTEP.out] at HOWN'
    have HBEL' := lh (below_app HBEL.out hsz2 hsz HOWN.out hgrow)
    clear hown' hgrow hnil
    go_wp2_with fail
    go_roundw
    case rel => exact ⟨k + 1, s / 256, zs ++ [s % 256], HK3.out.1, HK3.out.2, HR2.out, by go_num, by go_num, HZL2.out, HZD2.out, HV2.out, HOWN'.out, HBEL'.out, HOV2.out⟩
    case measure =>
     have h3 := HK3.out
     simp [intOf]; omega
   ·have hbb' : ¬ (k : Int) < ((dig b).length : Int) := by omega
    obtain ⟨b1, o1, rfl, hb1, hcell⟩ := HA.out.at_ (by omega)
    have hx := (hbel.cell (p := ⟨b1, o1 + k, none⟩) hb1).trans (hcell k ha1)
    have hxd := dg_lt (dig_digs a) k
    have hva := val_take_dg (dig a) k
    have hvb := val_take_dg (dig b) k
    obtain ⟨x, hxe⟩ : ∃ x, dg (dig a) k = x := ⟨_, rfl⟩
    rewrite [hxe] at hx hxd hva
    rw [B64_eq] at hxd
    rewrite [dg_of_ge (xs := dig b) (by omega)] at hvb
    obtain ⟨s, hs⟩ : ∃ s : Nat, r + x = s := ⟨_, rfl⟩
    have ww1 : IntKind.i64.wrap ((r : Int) + (x : Int)) = (s : Int) := by
     have h := IntWalk.i64_in ((r : Int) + (x : Int)) (by omega)
     rw [h]; omega
    have hs512 : s ≤ 511 := by omega
    have HV2 : Hid (val (zs ++ [s % 256]) + 256 ^ (k + 1) * (s / 256) = val ((dig a).take (k + 1)) + val ((dig b).take (k + 1))) := by
     show _ = _
     rw [hva, hvb, val_snoc, hzl, Nat.pow_succ, B64_eq]
     have h := add_digit (x := x) (y := 0) hv.out (show s = r + x + 0 by omega)
     omega
    have HZD2 : Hid (Digs (zs ++ [s % 256])) := hzd.snoc (by rw [B64_eq]; exact Nat.mod_lt _ (by omega))
    have HZL2 : Hid ((zs ++ [s % 256]).length = k + 1) := by show _ = _; simp [hzl]
    have HR2 : Hid (s / 256 ≤ 1) := by show _ ≤ _; omega
    have HOV2 : Hid (max (dig a).length (dig b).length < k + 1 → s / 256 = 0) := by
     intro h
     omega
    have HSTEP : Hid (zs.map dcell ++ [.int .i64 ((s : Int) % 256)] = (zs ++ [s % 256]).map dcell) := by
     show _ = _
     rw [List.map_append]
     rfl
    have hk3 : k + 1 ≤ 3200001 ∧ k + 1 ≤ max (dig a).length (dig b).length + 1 := by omega
    have HK3 := lh hk3
    have hsz := lR w2.heap.size
    have hsz2 := hbel.size
    have HOWN := lh hown
    have HBEL := lh hbel
    clear hown hbel hzl hzd hv hover hva hvb hcell hxe hxd
    have hrr := lh hr
    clear hr hs hk3 hk2
    go_wp2_with ((at_builtin; refine wpList_append_own _ rfl (.tmp 52) (.tmp 55) 61 rfl w2.heap.size 3 i0 (.int .i64 0) 1 8 under_u64s hi0 hz0 hz1 hz2 rfl (by decide) _ _ _ rfl (HOWN.out.alloc _) ⟨wr.heap.size, 0, none⟩ 1 1 [.int .i64 ((s : Int) % 256)] rfl rfl (app_cell _ _ _) (app_one _ _) (by unfold maxLen; omega) (by omega) (by simp; omega) ?_); intro v' w3 hown' hgrow hnil)
    have HOWN' := lh hown'
    rw [HSTEP.out] at HOWN'
    have HBEL' := lh (below_app HBEL.out hsz2 hsz HOWN.out hgrow)
    clear hown' hgrow hnil
    go_wp2_with fail
    go_roundw
    case rel => exact ⟨k + 1, s / 256, zs ++ [s % 256], HK3.out.1, HK3.out.2, HR2.out, by go_num, by go_num, HZL2.out, HZD2.out, HV2.out, HOWN'.out, HBEL'.out, HOV2.out⟩
    case measure =>
     have h3 := HK3.out
     simp [intOf]; omega
  ·have ha1' : ¬ (k : Int) < ((dig a).length : Int) := by omega
   have da1 : decide ((k : Int) < ((dig a).length : Int)) = false := decide_eq_false ha1'
   by_cases hbb : k < (dig b).length
   ·have hbb' : (k : Int) < ((dig b).length : Int) := by omega
    have db1 : decide ((k : Int) < ((dig b).length : Int)) = true := decide_eq_true hbb'
    obtain ⟨b2, o2, rfl, hb2, hcell2⟩ := HBB.out.at_ (by omega)
    have hy := (hbel.cell (p := ⟨b2, o2 + k, none⟩) hb2).trans (hcell2 k hbb)
    have hyd := dg_lt (dig_digs b) k
    have hva := val_take_dg (dig a) k
    have hvb := val_take_dg (dig b) k
    rewrite [dg_of_ge (xs := dig a) (by omega)] at hva
    obtain ⟨y, hye⟩ : ∃ y, dg (dig b) k = y := ⟨_, rfl⟩
    rewrite [hye] at hy hyd hvb
    rw [B64_eq] at hyd
    obtain ⟨s, hs⟩ : ∃ s : Nat, r + y = s := ⟨_, rfl⟩
    have ww1 : IntKind.i64.wrap ((r : Int) + (y : Int)) = (s : Int) := by
     have h := IntWalk.i64_in ((r : Int) + (y : Int)) (by omega)
     rw [h]; omega
    have hs512 : s ≤ 511 := by omega
    have HV2 : Hid (val (zs ++ [s % 256]) + 256 ^ (k + 1) * (s / 256) = val ((dig a).take (k + 1)) + val ((dig b).take (k + 1))) := by
     show _ = _
     rw [hva, hvb, val_snoc, hzl, Nat.pow_succ, B64_eq]
     have h := add_digit (x := 0) (y := y) hv.out (show s = r + 0 + y by omega)
     omega
    have HZD2 : Hid (Digs (zs ++ [s % 256])) := hzd.snoc (by rw [B64_eq]; exact Nat.mod_lt _ (by omega))
    have HZL2 : Hid ((zs ++ [s % 256]).length = k + 1) := by show _ = _; simp [hzl]
    have HR2 : Hid (s / 256 ≤ 1) := by show _ ≤ _; omega
    have HOV2 : Hid (max (dig a).length (dig b).length < k + 1 → s / 256 = 0) := by
     intro h
     omega
    have HSTEP : Hid (zs.map dcell ++ [.int .i64 ((s : Int) % 256)] = (zs ++ [s % 256]).map dcell) := by
     show _ = _
     rw [List.map_append]
     rfl
    have hk3 : k + 1 ≤ 3200001 ∧ k + 1 ≤ max (dig a).length (dig b).length + 1 := by omega
    have HK3 := lh hk3
    have hsz := lR w2.heap.size
    have hsz2 := hbel.size
    have HOWN := lh hown
    have HBEL := lh hbel
    clear hown hbel hzl hzd hv hover hva hvb hcell2 hye hyd
    have hrr := lh hr
    clear hr hs hk3 hk2
    go_wp2_with ((at_builtin; refine wpList_append_own _ rfl (.tmp 52) (.tmp 55) 61 rfl w2.heap.size 3 i0 (.int .i64 0) 1 8 under_u64s hi0 hz0 hz1 hz2 rfl (by decide) _ _ _ rfl (HOWN.out.alloc _) ⟨wr.heap.size, 0, none⟩ 1 1 [.int .i64 ((s : Int) % 256)] rfl rfl (app_cell _ _ _) (app_one _ _) (by unfold maxLen; omega) (by omega) (by simp; omega) ?_); intro v' w3 hown' hgrow hnil)
    have HOWN' := lh hown'
    rw [HSTEP.out] at HOWN'
    have HBEL' := lh (below_app HBEL.out hsz2 hsz HOWN.out hgrow)
    clear hown' hgrow hnil
    go_wp2_with fail
    go_roundw
    case rel => exact ⟨k + 1, s / 256, zs ++ [s % 256], HK3.out.1, HK3.out.2, HR2.out, by go_num, by go_num, HZL2.out, HZD2.out, HV2.out, HOWN'.out, HBEL'.out, HOV2.out⟩
    case measure =>
     have h3 := HK3.out
     simp [intOf]; omega
   ·have hbb' : ¬ (k : Int) < ((dig b).length : Int) := by omega
    have db1 : decide ((k : Int) < ((dig b).length : Int)) = false := decide_eq_false hbb'
    by_cases hr0 : 0 < r
    ·have hr0' : (0 : Int) < (r : Int) := by omega
     have dr1 : decide ((0 : Int) < (r : Int)) = true := decide_eq_true hr0'
     have hva := val_take_dg (dig a) k
     have hvb := val_take_dg (dig b) k
     rewrite [dg_of_ge (xs := dig a) (by omega)] at hva
     rewrite [dg_of_ge (xs := dig b) (by omega)] at hvb
     obtain ⟨s, hs⟩ : ∃ s : Nat, r = s := ⟨_, rfl⟩
     have hs512 : s ≤ 511 := by omega
     have HV2 : Hid (val (zs ++ [s % 256]) + 256 ^ (k + 1) * (s / 256) = val ((dig a).take (k + 1)) + val ((dig b).take (k + 1))) := by
      show _ = _
      rw [hva, hvb, val_snoc, hzl, Nat.pow_succ, B64_eq]
      have h := add_digit (x := 0) (y := 0) hv.out (show s = r + 0 + 0 by omega)
      omega
     have HZD2 : Hid (Digs (zs ++ [s % 256])) := hzd.snoc (by rw [B64_eq]; exact Nat.mod_lt _ (by omega))
     have HZL2 : Hid ((zs ++ [s % 256]).length = k + 1) := by show _ = _; simp [hzl]
     have HR2 : Hid (s / 256 ≤ 1) := by show _ ≤ _; omega
     have HOV2 : Hid (max (dig a).length (dig b).length < k + 1 → s / 256 = 0) := by
      intro h
      omega
     have HSTEP : Hid (zs.map dcell ++ [.int .i64 ((s : Int) % 256)] = (zs ++ [s % 256]).map dcell) := by
      show _ = _
      rw [List.map_append]
      rfl
     have hk3 : k + 1 ≤ 3200001 ∧ k + 1 ≤ max (dig a).length (dig b).length + 1 := by omega
     have HK3 := lh hk3
     have hsz := lR w2.heap.size
     have hsz2 := hbel.size
     have HOWN := lh hown
     have HBEL := lh hbel
     clear hown hbel hzl hzd hv hover hva hvb 
     subst hs
     clear hk3 hk2
     go_wp2_with ((at_builtin; refine wpList_append_own _ rfl (.tmp 52) (.tmp 55) 61 rfl w2.heap.size 3 i0 (.int .i64 0) 1 8 under_u64s hi0 hz0 hz1 hz2 rfl (by decide) _ _ _ rfl (HOWN.out.alloc _) ⟨wr.heap.size, 0, none⟩ 1 1 [.int .i64 ((r : Int) % 256)] rfl rfl (app_cell _ _ _) (app_one _ _) (by unfold maxLen; omega) (by omega) (by simp; omega) ?_); intro v' w3 hown' hgrow hnil)
     have HOWN' := lh hown'
     rw [HSTEP.out] at HOWN'
     have HBEL' := lh (below_app HBEL.out hsz2 hsz HOWN.out hgrow)
     clear hown' hgrow hnil
     go_wp2_with fail
     go_roundw
     case rel => exact ⟨k + 1, r / 256, zs ++ [r % 256], HK3.out.1, HK3.out.2, HR2.out, by go_num, by go_num, HZL2.out, HZD2.out, HV2.out, HOWN'.out, HBEL'.out, HOV2.out⟩
     case measure =>
      have h3 := HK3.out
      simp [intOf]; omega
    ·have hr0' : ¬ (0 : Int) < (r : Int) := by omega
     have dr1 : decide ((0 : Int) < (r : Int)) = false := decide_eq_false hr0'
     have hval := add_stop ha1 hbb (by omega) hv.out
     have hzl' : zs.length ≤ 16000000 := by omega
     obtain ⟨A3, c3, rfl, hc3, hnum⟩ := num_of_own hzd hown
     have hT := large_any wr A3 c3 zs hnum (by omega) hc3
     rw [hval] at hT
     have HT := lh hT
     have HBEL := lh (HB2.out.trans (hbel.mono HB2.out.size))
     clear hown hbel hnum hval hv hzl' hT hzl hover
     go_wp2_with fail
     refine HT.out.mono ?_
     rintro e w4 ⟨A4, c4, rfl, hc4, ha4, hb4⟩
     have HA4 := lh ha4
     have HB4 := lh (HBEL.out.trans (hb4.mono HBEL.out.size))
     clear ha4 hb4
     go_wp2_with fail
     go_ret
     exact ⟨A4, c4, rfl, hc4, HA4.out, HB4.out⟩
end E

namespace E
open Go.RowKit
theorem twice_digit {va vz p x r s t : Nat} (hv : vz + p * r = 2 * va + t) (hs : s = 2 * x + r) : vz + p * (s % 256) + p * 256 * (s / 256) = 2 * (va + p * x) + t := by
 have e : s % 256 + 256 * (s / 256) = s := Nat.mod_add_div s 256
 have e2 : p * (s % 256) + p * 256 * (s / 256) = p * s := by rw [mS, ← mA, e]
 rw [hs, mA, Nat.mul_left_comm] at e2
 rw [hs] at *
 omega
set_option maxRecDepth 100000 in
set_option maxHeartbeats 4000000 in
theorem twice_any (w : World) (A : Option Addr) (c a t : Nat) (ha : Num w A (dig a)) (ht : t ≤ 1) (hn : (dig a).length ≤ 16000000) :
  Calls tz 226 #[.slice A (dig a).length c, .int .i64 t] w (RetN w (2 * a + t)) := by
 have HA := lh ha
 have HTT := lh ht
 clear ha ht
 obtain ⟨i0, hi0, hz0, hz1, hz2⟩ := info_parts info_u64
 go_enter Tryz.func226, Tryz.ntmps226
 go_wp2_with fail
 go_loopw [1, 5, 6] (fun bv v i wr => ∃ (k r : Nat) (zs : List Nat), k ≤ (dig a).length ∧ r ≤ 1 ∧ i = .int .i64 k ∧ bv = .int .i64 r ∧ zs.length = k ∧ Digs zs ∧ Hid (val zs + 256 ^ k * r = 2 * val ((dig a).take k) + t) ∧
   wr.ownsRow w.heap.size 3 1 v k (zs.map dcell) ∧ Below w.heap.size w wr) (fun _ _ i _ => (dig a).length - (intOf i).toNat)
 case atStart => exact ⟨0, t, [], Nat.zero_le _, HTT.out, rfl, rfl, rfl, Digs.nil, by show _ = _; simp [val_nil], World.ownsRow_nil _ _ _ _, Below.refl _ _⟩
 case round =>
  obtain ⟨k, r, zs, hk, hr, rfl, rfl, hzl, hzd, hv, hown, hbel⟩ := hrel
  by_cases hlt : k < (dig a).length
  ·have hlt' : (k : Int) < ((dig a).length : Int) := by omega
   obtain ⟨b1, o1, rfl, hb1, hcell⟩ := HA.out.at_ (by omega)
   have hx := (hbel.cell (p := ⟨b1, o1 + k, none⟩) hb1).trans (hcell k hlt)
   have hxd := dg_lt (dig_digs a) k
   have hva := val_take_dg (dig a) k
   obtain ⟨x, hxe⟩ : ∃ x, dg (dig a) k = x := ⟨_, rfl⟩
   rewrite [hxe] at hx hxd hva
   rw [B64_eq] at hxd
   obtain ⟨s, hs⟩ : ∃ s : Nat, 2 * x + r = s := ⟨_, rfl⟩
   obtain ⟨s1, hs1⟩ : ∃ s1 : Nat, 2 * x = s1 := ⟨_, rfl⟩
   have ww1 : IntKind.i64.wrap (2 * (x : Int)) = (s1 : Int) := by
    have h := IntWalk.i64_in (2 * (x : Int)) (by omega)
    rw [h]; omega
   have ww2 : IntKind.i64.wrap ((s1 : Int) + (r : Int)) = (s : Int) := by
    have h := IntWalk.i64_in ((s1 : Int) + (r : Int)) (by omega)
    rw [h]; omega
   have hs512 : s ≤ 511 := by omega
   have HV2 : Hid (val (zs ++ [s % 256]) + 256 ^ (k + 1) * (s / 256) = 2 * val ((dig a).take (k + 1)) + t) := by
    show _ = _
    rw [hva, val_snoc, hzl, Nat.pow_succ, B64_eq]
    exact twice_digit (x := x) hv.out hs.symm
   have HZD2 : Hid (Digs (zs ++ [s % 256])) := hzd.snoc (by rw [B64_eq]; exact Nat.mod_lt _ (by omega))
   have HZL2 : Hid ((zs ++ [s % 256]).length = k + 1) := by show _ = _; simp [hzl]
   have HR2 : Hid (s / 256 ≤ 1) := by show _ ≤ _; omega
   have HSTEP : Hid (zs.map dcell ++ [.int .i64 ((s : Int) % 256)] = (zs ++ [s % 256]).map dcell) := by
    show _ = _
    rw [List.map_append]
    rfl
   have hsz := hbel.size
   have HOWN := lh hown
   have HBEL := lh hbel
   have hrr := lh hr
   clear hown hbel hzl hzd hv hva hcell hxe hxd hs hs1 hr
   go_wp2_with ((at_builtin; refine wpList_append_own _ rfl (.tmp 21) (.tmp 24) 61 rfl w.heap.size 3 i0 (.int .i64 0) 1 8 under_u64s hi0 hz0 hz1 hz2 rfl (by decide) _ _ _ rfl (HOWN.out.alloc _) ⟨wr.heap.size, 0, none⟩ 1 1 [.int .i64 ((s : Int) % 256)] rfl rfl (app_cell _ _ _) (app_one _ _) (by unfold maxLen; omega) (by omega) (by simp; omega) ?_); intro v' w3 hown' hgrow hnil)
   have HOWN' := lh hown'
   rw [HSTEP.out] at HOWN'
   have HBEL' := lh (below_app HBEL.out hsz (lR _) HOWN.out hgrow)
   clear hown' hgrow hnil
   go_wp2_with fail
   go_roundw
   case rel => exact ⟨k + 1, s / 256, zs ++ [s % 256], by omega, HR2.out, by go_num, by go_num, HZL2.out, HZD2.out, HV2.out, HOWN'.out, HBEL'.out⟩
   case measure => simp [intOf]; omega
  ·have hlt' : ¬ (k : Int) < ((dig a).length : Int) := by omega
   have hval : Hid (val (zs ++ [r]) = 2 * a + t) := by
    show _ = _
    have h := hv.out
    rw [List.take_of_length_le (by omega), val_dig] at h
    rw [val_snoc, hzl, B64_eq]; exact h
   have HZD2 : Hid (Digs (zs ++ [r])) := hzd.snoc (by rw [B64_eq]; omega)
   have hzl2 : Hid ((zs ++ [r]).length ≤ 16000001) := by show _ ≤ _; simp [hzl]; omega
   have HSTEP : Hid (zs.map dcell ++ [.int .i64 (r : Int)] = (zs ++ [r]).map dcell) := by
    show _ = _
    rw [List.map_append]
    rfl
   have hsz := hbel.size
   have HOWN := lh hown
   have HBEL := lh hbel
   clear hown hbel hzl hzd hv
   go_wp2_with ((at_builtin; refine wpList_append_own _ rfl (.tmp 28) (.tmp 30) 61 rfl w.heap.size 3 i0 (.int .i64 0) 1 8 under_u64s hi0 hz0 hz1 hz2 rfl (by decide) _ _ _ rfl (HOWN.out.alloc _) ⟨wr.heap.size, 0, none⟩ 1 1 [.int .i64 (r : Int)] rfl rfl (app_cell _ _ _) (app_one _ _) (by unfold maxLen; omega) (by omega) (by simp; omega) ?_); intro v' w3 hown' hgrow hnil)
   rw [HSTEP.out] at hown'
   obtain ⟨A3, c3, rfl, hc3, hnum⟩ := num_of_own HZD2.out hown'
   have hT := trim_any w3 A3 c3 (zs ++ [r]) hnum (by have := hzl2.out; omega) hc3
   rw [hval.out] at hT
   have HT := lh hT
   have HBEL' := lh (below_app HBEL.out hsz (lR _) HOWN.out hgrow)
   clear hown' hgrow hnil hnum hT
   refine HT.out.mono ?_
   rintro e w4 ⟨A4, c4, rfl, hc4, ha4, rfl⟩
   have HA4 := lh ha4
   clear ha4
   go_wp2_with fail
   go_ret
   exact ⟨A4, c4, rfl, hc4, HA4.out, HBEL'.out⟩
end E

namespace E
open Go.RowKit
theorem blen_pos8 {m : Nat} (h : m ≠ 0) : 0 < blen m := by unfold blen; rw [if_neg h]; omega
theorem blen_half {d : Nat} (h : d ≠ 0) : blen d = blen (d / 2) + 1 := by
 unfold blen
 rw [if_neg h]
 by_cases h2 : d / 2 = 0
 ·rw [if_pos h2]
  have h3 : d = 1 := by omega
  rw [h3]; decide
 ·rw [if_neg h2]
  have h3 : 2 ≤ d := by omega
  rw [Nat.log2_def, if_pos h3]
theorem blen_mono_lt {n k : Nat} (h : 2 ^ k ≤ n) : k < blen n := by
 rcases Nat.lt_or_ge k (blen n) with h1 | h1
 ·exact h1
 ·have h2 := blen_lt n
  have h3 : 2 ^ blen n ≤ 2 ^ k := Nat.pow_le_pow_right (by omega) h1
  omega
theorem pow256_2 (k : Nat) : 256 ^ k = 2 ^ (8 * k) := by rw [Nat.pow_mul]
theorem blen_top8 {a : Nat} (h : (dig a).length ≠ 0) : blen a = ((dig a).length - 1) * 8 + blen (dg (dig a) ((dig a).length - 1)) := by
 obtain ⟨l, hl⟩ : ∃ l, (dig a).length = l + 1 := ⟨(dig a).length - 1, by omega⟩
 have htop : dg (dig a) l ≠ 0 := by
  intro h0
  have h1 := dig_top a
  rw [List.getLast?_eq_getElem?, List.getElem?_eq_getElem (by omega)] at h1
  rw [dg_of_lt (by omega)] at h0
  simp only [hl, Nat.add_sub_cancel] at h1
  exact h1 (by rw [h0])
 have hv := val_take_dg (dig a) l
 rw [List.take_of_length_le (by omega), val_dig, B64_eq] at hv
 have hlo := val_lt ((dig_digs a).take l)
 rw [List.length_take, Nat.min_eq_left (by omega), B64_eq] at hlo
 rw [hl, Nat.add_sub_cancel]
 obtain ⟨d, hd⟩ : ∃ d, dg (dig a) l = d := ⟨_, rfl⟩
 rw [hd] at htop hv ⊢
 have hd1 := blen_lt d
 have hd2 : 2 ^ (blen d - 1) ≤ d := blen_le (by have := blen_pos8 htop; omega)
 have hbp := blen_pos8 htop
 rw [pow256_2] at hv hlo
 have e1 : 2 ^ (8 * l) * d < 2 ^ (8 * l) * 2 ^ blen d := Nat.mul_lt_mul_of_pos_left hd1 (Nat.pow_pos (by omega))
 have hub : a < 2 ^ (l * 8 + blen d) := by
  rw [Nat.pow_add, mC l 8]
  have e3 : 2 ^ (8 * l) * (d + 1) ≤ 2 ^ (8 * l) * 2 ^ blen d := Nat.mul_le_mul_left _ hd1
  rw [mA, Nat.mul_one] at e3
  omega
 have hlb : 2 ^ (l * 8 + blen d - 1) ≤ a := by
  rw [show l * 8 + blen d - 1 = 8 * l + (blen d - 1) by omega, Nat.pow_add]
  have e4 := Nat.mul_le_mul_left (2 ^ (8 * l)) hd2
  omega
 have h1 := blen_mono_lt hlb
 have h2 := blen_le_of_lt hub
 omega
set_option maxHeartbeats 2000000 in
theorem Bits_any (w : World) (A : Option Addr) (c : Nat) (xs : List Nat) (ha : YthjiacmhhpfokaaGreat.Num w A xs) (hn : xs.length ≤ 1000000) :
  Calls tz 195 #[.slice A xs.length c] w (YthjiacmhhpfokaaGreat.RetI w ((blen (YthjiacmhhpfokaaGreat.val xs) : Nat) : Int)) := by
 have hl1 := dl_small ha.1
 have H1 := Lib.hid (small_any w A c xs ha (by omega))
 obtain ⟨a, hva⟩ : ∃ a, YthjiacmhhpfokaaGreat.val xs = a := ⟨_, rfl⟩
 rw [hva] at hl1 H1
 rw [hva]
 clear ha hva
 by_cases h0 : (dig a).length = 0
 ·have hz : (((dig a).length : Int) == 0) = true := by rw [h0]; rfl
  have HA0 : Hid (blen a = 0) := by show _ = _; rw [dig_nil_iff.1 h0]; exact YthjiacmhhpfokaaGreat.blen_zero
  clear h0
  go_enter Tryz.func195, Tryz.ntmps195
  go_wp2_with fail
  refine H1.out.mono ?_
  rintro e w1 ⟨A1, c1, rfl, hc1, h1, hb1⟩
  have HB1 := Lib.hid hb1
  clear h1 hb1
  go_wp2_with fail
  go_ret
  rw [HA0.out]
  exact ⟨rfl, HB1.out⟩
 ·have hz : (((dig a).length : Int) == 0) = false := by rw [beq_eq_false_iff_ne]; omega
  have HTOP := Lib.hid (blen_top8 h0)
  go_enter Tryz.func195, Tryz.ntmps195
  go_wp2_with fail
  refine H1.out.mono ?_
  rintro e w1 ⟨A1, c1, rfl, hc1, h1, hb1⟩
  have HB1 := Lib.hid hb1
  obtain ⟨b1, o1, rfl, hb1', hcell⟩ := h1.at_ (by omega)
  have hx := hcell ((dig a).length - 1) (by omega)
  have hxd := dg_lt (dig_digs a) ((dig a).length - 1)
  obtain ⟨x, hxe⟩ : ∃ x, dg (dig a) ((dig a).length - 1) = x := ⟨_, rfl⟩
  obtain ⟨l, hl⟩ : ∃ l, (dig a).length - 1 = l := ⟨_, rfl⟩
  rw [hxe] at hx hxd HTOP
  rw [hl] at hx HTOP
  have hll : (dig a).length = l + 1 := by omega
  have ww1 : IntKind.i64.wrap (((dig a).length : Int) - 1) = (l : Int) := by
   have h := IntWalk.i64_in (((dig a).length : Int) - 1) (by omega)
   rw [h]; omega
  have hlt : (l : Int) < ((dig a).length : Int) := by omega
  have hl8 : l ≤ 8000000 := by omega
  rw [B64_eq] at hxd
  clear h1 hb1 hcell hxe hl hll h0 hl1
  go_wp2_with fail
  go_loop [4, 5] (fun n d => ∃ m e : Nat, n = .int .i64 m ∧ d = .int .i64 e ∧ e < 256 ∧ m + blen e ≤ 64000300 ∧ Hid (m + blen e = blen a)) (fun _ d => (intOf d).toNat)
  case atStart =>
   have hbx : blen x ≤ 8 := blen_le_of_lt (by omega)
   exact ⟨8 * l, x, by go_num, rfl, hxd, by omega, by show _ = _; rw [HTOP.out]; omega⟩
  case round =>
   obtain ⟨m, e, rfl, rfl, he, hm, hv⟩ := hrel
   by_cases he0 : e = 0
   ·subst he0
    have HM : Hid (blen a = m) := by show _ = _; rw [← hv.out, YthjiacmhhpfokaaGreat.blen_zero]; rfl
    clear hv
    go_wp2_with fail
    go_ret
    rw [HM.out]
    exact ⟨rfl, HB1.out⟩
   ·have hbe := blen_half he0
    have t1 : (0 : Int) < (e : Int) := by omega
    have hm1 : m < 64000300 := by omega
    have HV2 : Hid ((m + 1) + blen (e / 2) = blen a) := by show _ = _; rw [← hv.out]; omega
    have HM2 : Hid ((m + 1) + blen (e / 2) ≤ 64000300) := by show _ ≤ _; omega
    clear hbe hv hm
    go_wp2_with fail
    go_round
    case rel => exact ⟨m + 1, e / 2, by go_num, by go_num, by omega, HM2.out, HV2.out⟩
    case measure => simp [intOf]; omega
end E

namespace E
open Go.RowKit
theorem shr_digit (x y r s : Nat) (hs : s < 8) : (x + 256 * y + 65536 * r) / 2 ^ s % 256 = (x + 256 * y) / 2 ^ s % 256 := by
 have h : s = 0 ∨ s = 1 ∨ s = 2 ∨ s = 3 ∨ s = 4 ∨ s = 5 ∨ s = 6 ∨ s = 7 := by omega
 rcases h with h | h | h | h | h | h | h | h <;> subst h <;> simp only [Nat.pow_zero, Nat.reducePow] <;> omega
theorem val_drop_dg (xs : List Nat) (k : Nat) : val (xs.drop k) = dg xs k + 256 * val (xs.drop (k + 1)) := by
 by_cases h : k < xs.length
 ·rw [drop_pred h, val_cons, B64_eq]
 ·rw [List.drop_eq_nil_of_le (by omega), List.drop_eq_nil_of_le (by omega), dg_of_ge (by omega), val_nil]
theorem val_div_pow {xs : List Nat} (h : Digs xs) (k : Nat) : val xs / 256 ^ k = val (xs.drop k) := by
 by_cases hk : k ≤ xs.length
 ·have h1 := val_take_add xs k
  have h2 := val_lt (h.take k)
  rw [Nat.min_eq_left hk, B64_eq] at h1
  rw [List.length_take, Nat.min_eq_left hk, B64_eq] at h2
  rw [h1, Nat.add_mul_div_left _ _ (Nat.pow_pos (by omega)), Nat.div_eq_of_lt h2, Nat.zero_add]
 ·have h2 := val_lt h
  rw [B64_eq] at h2
  have h3 : 256 ^ xs.length ≤ 256 ^ k := Nat.pow_le_pow_right (by omega) (by omega)
  rw [List.drop_eq_nil_of_le (by omega), val_nil]
  exact Nat.div_eq_of_lt (by omega)
theorem shr_step {xs zs : List Nat} (h : Digs xs) {s : Nat} (hs : s < 8) (hv : val zs = val xs / 2 ^ s % 256 ^ zs.length) :
  val (zs ++ [(dg xs zs.length + 256 * dg xs (zs.length + 1)) / 2 ^ s % 256]) = val xs / 2 ^ s % 256 ^ (zs.length + 1) := by
 rw [val_snoc, hv, B64_eq, Nat.pow_succ, Nat.mod_mul]
 congr 2
 have h1 : val xs / 2 ^ s / 256 ^ zs.length = val (xs.drop zs.length) / 2 ^ s := by
  rw [Nat.div_div_eq_div_mul, mC, ← Nat.div_div_eq_div_mul, val_div_pow h]
 rw [h1, val_drop_dg, val_drop_dg xs (zs.length + 1), mA, ← mS, ← Nat.add_assoc, shr_digit _ _ _ _ hs]
theorem shr_end {xs zs : List Nat} (h : Digs xs) {s : Nat} (hl : zs.length = xs.length) (hv : val zs = val xs / 2 ^ s % 256 ^ zs.length) : val zs = val xs / 2 ^ s := by
 have h1 := val_lt h
 rw [B64_eq, ← hl] at h1
 rw [hv]
 exact Nat.mod_eq_of_lt (Nat.lt_of_le_of_lt (Nat.div_le_self _ _) h1)
theorem shr_drop (a n : Nat) : val ((dig a).drop (n / 8)) / 2 ^ (n % 8) = a / 2 ^ n := by
 have h := val_div_pow (dig_digs a) (n / 8)
 rw [val_dig] at h
 rw [← h, Nat.div_div_eq_div_mul, pow256_2, ← Nat.pow_add]
 congr 2; omega
theorem shr_all {a n : Nat} (h : 8 * (dig a).length ≤ n) : a / 2 ^ n = 0 := by
 have h1 := val_lt (dig_digs a)
 rw [val_dig, B64_eq, pow256_2] at h1
 exact Nat.div_eq_of_lt (Nat.lt_of_lt_of_le h1 (Nat.pow_le_pow_right (by omega) h))
theorem shr_cast (u s : Nat) : ((u : Int) / 2 ^ s).tmod 256 = ((u / 2 ^ s % 256 : Nat) : Int) := by
 have h : (u : Int) / 2 ^ s = ((u / 2 ^ s : Nat) : Int) := by norm_cast
 rw [h]
 generalize u / 2 ^ s = v
 rw [Int.tmod_eq_emod_of_nonneg (by omega)]
 omega
theorem shr_cast2 (x y s : Nat) : (((x : Int) + 256 * (y : Int)) / 2 ^ s).tmod 256 = (((x + 256 * y) / 2 ^ s % 256 : Nat) : Int) := by
 have h := shr_cast (x + 256 * y) s
 rw [show ((x + 256 * y : Nat) : Int) = (x : Int) + 256 * (y : Int) by omega] at h
 exact h
set_option maxRecDepth 100000 in
set_option maxHeartbeats 4000000 in
theorem Shr_any (w : World) (A : Option Addr) (c : Nat) (xs : List Nat) (n : Int) (ha : YthjiacmhhpfokaaGreat.Num w A xs) (hn : xs.length ≤ 1000000) :
  Calls tz 224 #[.slice A xs.length c, .int .i64 n] w (YthjiacmhhpfokaaGreat.RetN w (YthjiacmhhpfokaaGreat.val xs / 2 ^ n.toNat)) := by
 have hl1 := dl_small ha.1
 have H1 := lh (small_any w A c xs ha (by omega))
 obtain ⟨a, hva⟩ : ∃ a, YthjiacmhhpfokaaGreat.val xs = a := ⟨_, rfl⟩
 rw [hva] at hl1 H1
 rw [hva]
 clear ha hva
 have ww0 : IntKind.i64.wrap (8 * ((dig a).length : Int)) = 8 * ((dig a).length : Int) := IntWalk.i64_in _ (by omega)
 by_cases h0 : 8 * ((dig a).length : Int) ≤ n
 ·have HA0 : Hid (a / 2 ^ n.toNat = 0) := by show _ = _; exact shr_all (by omega)
  go_enter Tryz.func224, Tryz.ntmps224
  go_wp2_with fail
  refine H1.out.mono ?_
  rintro e w1 ⟨A1, c1, rfl, hc1, h1, hb1⟩
  have HB1 := lh hb1
  clear h1 hb1
  go_wp2_with fail
  go_ret
  rw [HA0.out]
  refine ⟨none, 0, ?_, ?_, ?_, HB1.out⟩
  ·rw [YthjiacmhhpfokaaGreat.dig_zero]; rfl
  ·rw [YthjiacmhhpfokaaGreat.dig_zero]; simp
  ·rw [YthjiacmhhpfokaaGreat.dig_zero]; exact YthjiacmhhpfokaaGreat.Num.nil _ _
 ·by_cases h1n : n < 1
  ·have HA0 : Hid (a / 2 ^ n.toNat = a) := by show _ = _; rw [show n.toNat = 0 by omega]; simp
   go_enter Tryz.func224, Tryz.ntmps224
   go_wp2_with fail
   refine H1.out.mono ?_
   rintro e w1 ⟨A1, c1, rfl, hc1, h1, hb1⟩
   have HB1 := lh hb1
   have HL := lh (large_any w1 A1 c1 (dig a) h1 (by omega) hc1)
   clear h1 hb1
   go_wp2_with fail
   rw [val_dig] at HL
   refine HL.out.mono ?_
   rintro e w2 ⟨A2, c2, rfl, hc2, h2, hb2⟩
   have HC2 := lh hc2
   have HN2 := lh h2
   have HB2 := lh (HB1.out.trans (hb2.mono HB1.out.size))
   clear hc2 h2 hb2
   go_wp2_with fail
   go_ret
   rw [HA0.out]
   exact ⟨A2, c2, rfl, HC2.out, HN2.out, HB2.out⟩
  ·obtain ⟨m, rfl⟩ : ∃ m : Nat, n = m := ⟨n.toNat, by omega⟩
   rw [Int.toNat_natCast]
   obtain ⟨q, hq⟩ : ∃ q, m / 8 = q := ⟨_, rfl⟩
   obtain ⟨s, hs⟩ : ∃ s, m % 8 = s := ⟨_, rfl⟩
   have hsd := shr_drop a m
   rw [hq, hs] at hsd
   have HSD := lh hsd
   have hqn : q < (dig a).length := by omega
   go_enter Tryz.func224, Tryz.ntmps224
   go_wp2_with fail
   refine H1.out.mono ?_
   rintro e w1 ⟨A1, c1, rfl, hc1, h1, hb1⟩
   have HB1 := lh hb1
   have HN1 := lh h1
   obtain ⟨b1, o1, rfl, hb1', hcell⟩ := h1.at_ (by omega)
   obtain ⟨i0, hi0, hz0, hz1, hz2⟩ := info_parts info_u64
   have hdd : Digs ((dig a).drop (m / 8)) := (dig_digs a).drop _
   have HDD := lh hdd
   have hxl : ((dig a).drop (m / 8)).length = (dig a).length - m / 8 := by rw [List.length_drop]
   have HCELL : Hid (∀ k, k < (dig a).length - m / 8 → w1.cell? ⟨b1, o1 + m / 8 + k, none⟩ = some (.int .i64 ((dg ((dig a).drop (m / 8)) k : Nat) : Int))) := by
    intro k hk
    have h := hcell (m / 8 + k) (by omega)
    rw [dg_drop, Nat.add_assoc]
    exact h
   have hdgs : ∀ k, dg ((dig a).drop (m / 8)) k < 256 := fun k => by have h := dg_lt hdd k; rw [B64_eq] at h; exact h
   have HDGS := lh hdgs
   rw [← hq, ← hs] at HSD
   have hs8 : m % 8 < 8 := Nat.mod_lt _ (by omega)
   obtain ⟨ds, hds⟩ : ∃ ds, (dig a).drop (m / 8) = ds := ⟨_, rfl⟩
   rw [hds] at HCELL hxl HDD HDGS HSD
   clear h1 hb1 hcell hsd hdd hdgs hds hs hq hqn
   go_wp2_with fail
   go_loopw [6, 7] (fun v i wr => ∃ (k : Nat) (zs : List Nat), k ≤ (dig a).length - m / 8 ∧ i = .int .i64 k ∧ zs.length = k ∧ Digs zs ∧ Hid (val zs = val ds / 2 ^ (m % 8) % 256 ^ zs.length) ∧
     wr.ownsRow w1.heap.size 3 1 v k (zs.map dcell) ∧ Below w1.heap.size w1 wr) (fun _ i _ => (dig a).length - m / 8 - (intOf i).toNat)
   case atStart => exact ⟨0, [], Nat.zero_le _, rfl, rfl, Digs.nil, by show _ = _; simp [val_nil, Nat.mod_one], World.ownsRow_nil _ _ _ _, Below.refl _ _⟩
   case round =>
    obtain ⟨k, zs, hk, rfl, hzl, hzd, hv, hown, hbel⟩ := hrel
    by_cases hlt : k < (dig a).length - m / 8
    ·have hlt' : (k : Int) < (((dig a).length - m / 8 : Nat) : Int) := by omega
     have hx := (hbel.cell (p := ⟨b1, o1 + m / 8 + k, none⟩) hb1').trans (HCELL.out k hlt)
     have hxd := HDGS.out k
     have hstep := shr_step HDD.out hs8 hv.out
     rw [hzl] at hstep
     obtain ⟨x, hxe⟩ : ∃ x, dg ds k = x := ⟨_, rfl⟩
     rw [hxe] at hx hxd hstep
     by_cases hlt2 : k + 1 < (dig a).length - m / 8
     ·have hlt2' : (k : Int) + 1 < (((dig a).length - m / 8 : Nat) : Int) := by omega
      have hy := (hbel.cell (p := ⟨b1, o1 + m / 8 + (k + 1), none⟩) hb1').trans (HCELL.out (k + 1) hlt2)
      have hyd := HDGS.out (k + 1)
      obtain ⟨y, hye⟩ : ∃ y, dg ds (k + 1) = y := ⟨_, rfl⟩
      rw [hye] at hy hyd hstep
      have HV2 := lh hstep
      have HZD2 : Hid (Digs (zs ++ [(x + 256 * y) / 2 ^ (m % 8) % 256])) := hzd.snoc (by rw [B64_eq]; exact Nat.mod_lt _ (by omega))
      have HZL2 : Hid ((zs ++ [(x + 256 * y) / 2 ^ (m % 8) % 256]).length = k + 1) := by show _ = _; simp [hzl]
      have HSTEP : Hid (zs.map dcell ++ [.int .i64 ((((x : Int) + 256 * (y : Int)) / 2 ^ (m % 8)).tmod 256)] = (zs ++ [(x + 256 * y) / 2 ^ (m % 8) % 256]).map dcell) := by
       show _ = _
       rw [List.map_append, shr_cast2]
       rfl
      have hsz := hbel.size
      have HOWN := lh hown
      have HBEL := lh hbel
      clear hown hbel hzl hzd hv hstep hxe hye
      go_wp2_with ((at_builtin; refine wpList_append_own _ rfl (.tmp 47) (.tmp 54) 61 rfl w1.heap.size 3 i0 (.int .i64 0) 1 8 under_u64s hi0 hz0 hz1 hz2 rfl (by decide) _ _ _ rfl (HOWN.out.alloc _) ⟨wr.heap.size, 0, none⟩ 1 1 [.int .i64 ((((x : Int) + 256 * (y : Int)) / 2 ^ (m % 8)).tmod 256)] rfl rfl (app_cell _ _ _) (app_one _ _) (by unfold maxLen; omega) (by omega) (by simp; omega) ?_); intro v' w3 hown' hgrow hnil)
      have HOWN' := lh hown'
      rw [HSTEP.out] at HOWN'
      have HBEL' := lh (below_app HBEL.out hsz (lR _) HOWN.out hgrow)
      clear hown' hgrow hnil
      go_wp2_with fail
      go_roundw
      case rel => exact ⟨k + 1, zs ++ [(x + 256 * y) / 2 ^ (m % 8) % 256], by omega, by go_num, HZL2.out, HZD2.out, by rw [HZL2.out]; exact HV2.out, HOWN'.out, HBEL'.out⟩
      case measure => simp [intOf]; omega
     ·have hlt2' : ¬ (k : Int) + 1 < (((dig a).length - m / 8 : Nat) : Int) := by omega
      rw [dg_of_ge (xs := ds) (i := k + 1) (by omega), Nat.mul_zero, Nat.add_zero] at hstep
      have HV2 := lh hstep
      have HZD2 : Hid (Digs (zs ++ [x / 2 ^ (m % 8) % 256])) := hzd.snoc (by rw [B64_eq]; exact Nat.mod_lt _ (by omega))
      have HZL2 : Hid ((zs ++ [x / 2 ^ (m % 8) % 256]).length = k + 1) := by show _ = _; simp [hzl]
      have HSTEP : Hid (zs.map dcell ++ [.int .i64 (((x : Int) / 2 ^ (m % 8)).tmod 256)] = (zs ++ [x / 2 ^ (m % 8) % 256]).map dcell) := by
       show _ = _
       rw [List.map_append, shr_cast]
       rfl
      have hsz := hbel.size
      have HOWN := lh hown
      have HBEL := lh hbel
      clear hown hbel hzl hzd hv hstep hxe
      go_wp2_with ((at_builtin; refine wpList_append_own _ rfl (.tmp 47) (.tmp 54) 61 rfl w1.heap.size 3 i0 (.int .i64 0) 1 8 under_u64s hi0 hz0 hz1 hz2 rfl (by decide) _ _ _ rfl (HOWN.out.alloc _) ⟨wr.heap.size, 0, none⟩ 1 1 [.int .i64 (((x : Int) / 2 ^ (m % 8)).tmod 256)] rfl rfl (app_cell _ _ _) (app_one _ _) (by unfold maxLen; omega) (by omega) (by simp; omega) ?_); intro v' w3 hown' hgrow hnil)
      have HOWN' := lh hown'
      rw [HSTEP.out] at HOWN'
      have HBEL' := lh (below_app HBEL.out hsz (lR _) HOWN.out hgrow)
      clear hown' hgrow hnil
      go_wp2_with fail
      go_roundw
      case rel => exact ⟨k + 1, zs ++ [x / 2 ^ (m % 8) % 256], by omega, by go_num, HZL2.out, HZD2.out, by rw [HZL2.out]; exact HV2.out, HOWN'.out, HBEL'.out⟩
      case measure => simp [intOf]; omega
    ·have hlt' : ¬ (k : Int) < (((dig a).length - m / 8 : Nat) : Int) := by omega
     have hval := shr_end HDD.out (by omega) hv.out
     rw [HSD.out] at hval
     obtain ⟨A3, c3, rfl, hc3, hnum⟩ := num_of_own hzd hown
     have hT := large_any wr A3 c3 zs hnum (by omega) hc3
     rw [hval] at hT
     have HT := lh hT
     have HBEL := lh (HB1.out.trans (hbel.mono HB1.out.size))
     clear hown hbel hnum hval hv hT hzl hzd
     go_wp2_with fail
     refine HT.out.mono ?_
     rintro e w4 ⟨A4, c4, rfl, hc4, ha4, hb4⟩
     have HA4 := lh ha4
     have HB4 := lh (HBEL.out.trans (hb4.mono HBEL.out.size))
     clear ha4 hb4
     go_wp2_with fail
     go_ret
     exact ⟨A4, c4, rfl, hc4, HA4.out, HB4.out⟩
end E

namespace E
open YthjiacmhhpfokaaGreat renaming dig → digN
open Go.RowKit
theorem cop2 {y : Nat} (h : y % 2 = 1) : Nat.Coprime 2 y := by
 show Nat.gcd 2 y = 1
 rw [Nat.gcd_rec, h]; decide
theorem gcd_both {x y : Nat} (hx : x % 2 = 0) (hy : y % 2 = 0) : Nat.gcd x y = 2 * Nat.gcd (x / 2) (y / 2) := by
 have e1 : x = 2 * (x / 2) := by omega
 have e2 : y = 2 * (y / 2) := by omega
 rw [← Nat.gcd_mul_left, ← e1, ← e2]
theorem gcd_left {x y : Nat} (hx : x % 2 = 0) (hy : y % 2 = 1) : Nat.gcd (x / 2) y = Nat.gcd x y := by
 have e1 : x = 2 * (x / 2) := by omega
 have h := (cop2 hy).gcd_mul_left_cancel (x / 2)
 rw [← e1] at h
 exact h.symm
theorem gcd_right {x y : Nat} (hx : x % 2 = 1) (hy : y % 2 = 0) : Nat.gcd x (y / 2) = Nat.gcd x y := by
 rw [Nat.gcd_comm, gcd_left hy hx, Nat.gcd_comm]
theorem gcd_less {x y : Nat} (h : y ≤ x) : Nat.gcd (x - y) y = Nat.gcd x y := by
 have e : x = y + (x - y) := by omega
 have h1 : Nat.gcd (y + (x - y)) y = Nat.gcd (x - y) y := by simp
 rw [← e] at h1
 exact h1.symm
theorem gcd_more {x y : Nat} (h : x ≤ y) : Nat.gcd x (y - x) = Nat.gcd x y := by
 rw [Nat.gcd_comm, gcd_less h, Nat.gcd_comm]
theorem gcd_end {x y : Nat} (h : x = 0 ∨ y = 0) : x + y = Nat.gcd x y := by
 rcases h with h | h <;> subst h <;> simp
theorem dig64_even (a : Nat) : YthjiacmhhpfokaaGreat.dg (digN a) 0 % 2 = a % 2 := by
 have h := YthjiacmhhpfokaaGreat.val_take_dg (digN a) 0
 have h2 := YthjiacmhhpfokaaGreat.val_take_add (digN a) 1
 rw [YthjiacmhhpfokaaGreat.val_dig] at h2
 by_cases h0 : (digN a).length = 0
 ·rw [YthjiacmhhpfokaaGreat.dg_of_ge (by omega), YthjiacmhhpfokaaGreat.dig_nil_iff.1 h0]
 ·rw [Nat.min_eq_left (by omega)] at h2
  simp only [List.take_zero, YthjiacmhhpfokaaGreat.val_nil, Nat.pow_zero, Nat.one_mul, Nat.zero_add] at h
  rw [h, YthjiacmhhpfokaaGreat.B64_eq] at h2
  omega
end E

namespace E
open Go.RowKit
theorem val_set {cs : List Nat} {j : Nat} (v : Nat) (h : j < cs.length) : val (cs.set j v) + 256 ^ j * dg cs j = val cs + 256 ^ j * v := by
 have h1 := val_take_add cs j
 rw [Nat.min_eq_left (by omega), drop_pred h, val_cons, B64_eq] at h1
 have h2 := val_take_add (cs.set j v) j
 rw [Nat.min_eq_left (by simp; omega), drop_pred (by simp; omega), val_cons, B64_eq, List.take_set_of_le (lR j), List.drop_set_of_lt (by omega)] at h2
 have h3 : dg (cs.set j v) j = v := by rw [dg_of_lt (by simp; omega)]; simp
 rw [h3] at h2
 rw [h1, h2, mA, mA]
 omega
theorem Digs.set_ {cs : List Nat} (h : Digs cs) (j v : Nat) (hv : v < 256) : Digs (cs.set j v) := by
 intro y hy
 rcases List.mem_or_eq_of_mem_set hy with h1 | h1
 ·exact h y h1
 ·rw [h1, B64_eq]; exact hv
theorem mul_digit {V W B p o x y cy s : Nat} (hv : V + p * cy = B) (hs : s = o + cy + x * y) (hW : W + p * o = V + p * (s % 256)) :
  W + p * 256 * (s / 256) = B + p * (x * y) := by
 have h1 : p * s = p * (s % 256) + p * 256 * (s / 256) := by
  rw [mS, ← mA]; congr 1; omega
 have h2 : p * s = p * o + p * cy + p * (x * y) := by rw [hs, mA, mA]
 omega
theorem mul_carry {V p cy T N i k l : Nat} (hp : p = 256 ^ (i + k)) (hv : V + p * cy = T) (hT : T < 256 ^ (i + 1 + l)) (hc : 0 < cy) (hN : N = l) : k ≤ N := by
 subst hN hp
 rcases Nat.lt_or_ge N k with h | h
 ·exfalso
  have h1 : 256 ^ (i + 1 + N) ≤ 256 ^ (i + k) := Nat.pow_le_pow_right (by omega) (by omega)
  have h2 : 256 ^ (i + k) * 1 ≤ 256 ^ (i + k) * cy := Nat.mul_le_mul_left _ hc
  omega
 ·exact h
end E

namespace E
open Go.RowKit
theorem dig_nought {v : Nat} (h : v ≠ 0) : dig (256 * v) = 0 :: dig v := by
 rw [dig_pos (by omega), B64_eq]
 congr 1
 ·omega
 ·congr 1; omega
theorem dig_ne {v : Nat} (h : (dig v).length ≠ 0) : v ≠ 0 := fun h0 => h (dig_nil_iff.2 h0)
theorem shl_eight {v n T : Nat} (h : v * 2 ^ n = T) (hn : 8 ≤ n) : 256 * v * 2 ^ (n - 8) = T := by
 rw [← h, show n = 8 + (n - 8) by omega, Nat.pow_add, Nat.add_sub_cancel_left, mC 256 v, mS]
theorem shl_one {v n T : Nat} (h : v * 2 ^ n = T) (hn : 0 < n) : (2 * v + 0) * 2 ^ (n - 1) = T := by
 rw [← h, show n = 1 + (n - 1) by omega, Nat.pow_add, Nat.add_sub_cancel_left, Nat.add_zero, mC 2 v, mS]
theorem shl_none {v n T : Nat} (h : v * 2 ^ n = T) (hn : n = 0 ∨ v = 0) : v = T := by
 rcases hn with h0 | h0 <;> subst h0 <;> simp at h <;> exact h
theorem shl_len {v n T : Nat} (h : v * 2 ^ n = T) : (dig v).length ≤ (dig T).length := by
 apply dig_length_mono
 rw [← h]
 exact Nat.le_mul_of_pos_right _ (Nat.pow_pos (by omega))
theorem shl_top {v n : Nat} : (dig (v * 2 ^ n)).length ≤ (dig v).length + (n / 8 + 1) := by
 apply dig_length_le
 have h1 := val_lt (dig_digs v)
 rw [val_dig] at h1
 rw [Nat.pow_add]
 have h2 : 2 ^ n ≤ B64 ^ (n / 8 + 1) := by
  rw [B64_eq, pow256_2]
  exact Nat.pow_le_pow_right (by omega) (by omega)
 have h3 : 0 < 2 ^ n := Nat.pow_pos (by omega)
 exact Nat.lt_of_lt_of_le (Nat.mul_lt_mul_of_pos_right h1 h3) (Nat.mul_le_mul_left _ h2)
