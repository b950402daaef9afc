/- Part 3 of the proof: Read, Sums. -/
import Derived.Test.YthjiacmhhpfokaaGreatL2
import Derived.Deep.RegionWith
namespace Go.Proofs.YthjiacmhhpfokaaGreat
open Lib renaming hid → lh
open Go.Proofs.Tryz renaming prog → tz
open Nat renaming le_refl → lR
open Go.RowKit.Below renaming refl → bR
section
set_option maxHeartbeats 800000
open Go.RowKit
theorem digit_in (w : World) (p : Nat) (A : Option Addr) (c i : Nat) (xs : List Nat) (h : Num w A xs) (hn : xs.length ≤ 1099511627776)
  (hp : w.cell? ⟨p, 0, none⟩ = some (.slice A xs.length c)) (hi : i < xs.length) :
  Calls tz 221 #[.int .i64 i, .pointer (some ⟨p, 0, none⟩)] w fun e w' => e = .returned (.int .u64 ((dg xs i : Nat) : Int)) ∧ w = w' := by
 obtain ⟨b, off, rfl, _, hc⟩ := h.at_ (by omega)
 have hcell := hc i hi
 have hlt : (i : Int) < (xs.length : Int) := by omega
 clear hc h
 go_enter Tryz.func221, Tryz.ntmps221
 go_wp2
 go_ret
 exact ⟨rfl, rfl⟩
theorem digit_out (w : World) (p : Nat) (A : Option Addr) (n c i : Nat)
  (hp : w.cell? ⟨p, 0, none⟩ = some (.slice A n c)) (hi : n ≤ i) :
  Calls tz 221 #[.int .i64 i, .pointer (some ⟨p, 0, none⟩)] w fun e w' => e = .returned (.int .u64 0) ∧ w = w' := by
 have hlt : ¬ ((i : Int) < (n : Int)) := by omega
 go_enter Tryz.func221, Tryz.ntmps221
 go_wp2
 go_ret
 exact ⟨rfl, rfl⟩
theorem digit_neg (w : World) (p : Nat) (i : Int) (hi : i < 0) :
  Calls tz 221 #[.int .i64 i, .pointer (some ⟨p, 0, none⟩)] w fun e w' => e = .returned (.int .u64 0) ∧ w = w' := by
 go_enter Tryz.func221, Tryz.ntmps221
 go_wp2
 go_ret
 exact ⟨rfl, rfl⟩
theorem digit_any (w : World) (p : Nat) (A : Option Addr) (c i : Nat) (xs : List Nat) (h : Num w A xs) (hn : xs.length ≤ 1099511627776)
  (hp : w.cell? ⟨p, 0, none⟩ = some (.slice A xs.length c)) :
  Calls tz 221 #[.int .i64 i, .pointer (some ⟨p, 0, none⟩)] w fun e w' => e = .returned (.int .u64 ((dg xs i : Nat) : Int)) ∧ w = w' := by
 by_cases hi : i < xs.length
 ·exact digit_in w p A c i xs h hn hp hi
 ·refine (digit_out w p A xs.length c i hp (by omega)).mono ?_
  rintro e w' ⟨rfl, rfl⟩
  rw [dg_of_ge (by omega)]
  exact ⟨rfl, rfl⟩
theorem digitOf_any (w : World) (A : Option Addr) (n c : Nat) :
  Calls tz 203 #[.slice A n c] w fun e w' => e = .returned (.func (.func 221) #[] #[.pointer (some ⟨w.heap.size, 0, none⟩)]) ∧ w' = w.alloc (.cells #[.slice A n c] 23) := by
 go_enter Tryz.func203, Tryz.ntmps203
 go_wp2
 go_ret
 exact ⟨rfl, rfl⟩
theorem same_yes (w : World) (A B : Option Addr) (c d : Nat) (xs : List Nat) (ha : Num w A xs) (hb : Num w B xs) (hn : xs.length ≤ 1099511627776) :
  Calls tz 146 #[.slice A xs.length c, .slice B xs.length d] w (RetB w true) := by
 have HA := lh ha
 have HB := lh hb
 clear ha hb
 go_enter Tryz.func146, Tryz.ntmps146
 go_wp2
 go_loopw [5] (fun i wr => ∃ k : Nat, k ≤ xs.length ∧ i = .int .i64 k ∧ Below w.heap.size w wr) (fun i _ => xs.length - (intOf i).toNat)
 case atStart => exact ⟨0, Nat.zero_le _, rfl, bR _ _⟩
 case round =>
  obtain ⟨k, hk, rfl, hbw⟩ := hrel
  by_cases hlt : k < xs.length
  ·obtain ⟨b, off, rfl, hbl, hc1⟩ := HA.out.at_ (by omega)
   obtain ⟨b', off', rfl, hbl', hc2⟩ := HB.out.at_ (by omega)
   have h1 := (hbw.cell (p := ⟨b, off + k, none⟩) hbl).trans (hc1 k hlt)
   have h2 := (hbw.cell (p := ⟨b', off' + k, none⟩) hbl').trans (hc2 k hlt)
   have hlt' : (k : Int) < (xs.length : Int) := by omega
   clear hc1 hc2
   have HBW := lh hbw
   clear hbw
   go_wp2
   go_quiet (fail)
   go_wp2
   go_roundw
   case rel => exact ⟨k + 1, by omega, by go_num, below_drewN HBW.out _⟩
   case measure => simp [intOf]; omega
  ·go_wp2
   go_ret
   exact ⟨rfl, hbw⟩
def cmpv (a b : Nat) : Int := if a < b then -1 else if a = b then 0 else 1
theorem cmpv_lt {a b : Nat} (h : a < b) : cmpv a b = -1 := by unfold cmpv; rw [if_pos h]
theorem cmpv_eq {a b : Nat} (h : a = b) : cmpv a b = 0 := by unfold cmpv; rw [if_neg (by omega), if_pos h]
theorem cmpv_gt {a b : Nat} (h : b < a) : cmpv a b = 1 := by unfold cmpv; rw [if_neg (by omega), if_neg (by omega)]
theorem quiet_add_left {P : Program} {f : FuncId} {args : Array Value} {w : World} {a n : Nat} {v : Value}
  (h : Calls P f args (w.drewN (a + n)) fun e w' => e = .returned v ∧ w.drewN (a + n) = w') :
  Calls P f args (w.drewN (a + n)) fun e w'' => e = .returned v ∧ ∃ m, w'' = w.drewN (a + m) :=
 h.mono fun _ _ ⟨he, hm⟩ => ⟨he, n, hm.symm⟩
def RetQ (w : World) (n : Int) (e : Ending) (w' : World) : Prop := e = .returned (.int .i64 n) ∧ ∃ k, w' = w.drewN k
theorem RetQ.below {w : World} {n : Int} {e : Ending} {w' : World} (h : RetQ w n e w') : RetI w n e w' := by
 obtain ⟨he, k, rfl⟩ := h
 exact ⟨he, below_drewN (bR _ _) k⟩
theorem cmp_any (w : World) (A B : Option Addr) (c d : Nat) (xs ys : List Nat) (ha : Num w A xs) (hb : Num w B ys) (hn : xs.length ≤ 1099511627776) (hm : ys.length ≤ 1099511627776)
  (hc : xs.length ≤ c) (hd : ys.length ≤ d) :
  Calls tz 174 #[.slice A xs.length c, .slice B ys.length d] w (RetQ w (cmpv (val xs) (val ys))) := by
 have C1 := lh (cut_any w A c xs ha hn hc)
 have C2 := lh (cut_any w B d ys hb hm hd)
 have hl1 := dig_length_val ha.1
 have hl2 := dig_length_val hb.1
 clear ha hb hc hd
 generalize val xs = a at *
 generalize val ys = b at *
 go_enter Tryz.func174, Tryz.ntmps174
 go_wp2_with fail
 refine C1.out.mono ?_
 rintro e w' ⟨A', c', rfl, hc', ha', rfl⟩
 go_wp2_with fail
 refine C2.out.mono ?_
 rintro e w' ⟨B', d', rfl, hd', hb', rfl⟩
 have HA := lh ha'
 have HB := lh hb'
 clear ha' hb' C1 C2
 by_cases hle : (dig a).length = (dig b).length
 ·have HL := lh hle
  have hbe : (((dig a).length : Int) != ((dig b).length : Int)) = false := by rw [hle]; simp
  clear hle
  go_wp2_with fail
  go_loopw [24] (fun i wr => ∃ k : Nat, k ≤ (dig a).length ∧ i = .int .i64 k ∧ (∃ q, wr = w.drewN q) ∧ Hid ((dig a).drop ((dig a).length - k) = (dig b).drop ((dig a).length - k))) (fun i _ => (dig a).length - (intOf i).toNat)
  case atStart => exact ⟨0, Nat.zero_le _, rfl, ⟨0, rfl⟩, by show _ = _; rw [Nat.sub_zero, List.drop_length, HL.out, List.drop_length]⟩
  case round =>
   obtain ⟨k, hk, rfl, ⟨q, rfl⟩, heq⟩ := hrel
   by_cases hlt : k < (dig a).length
   ·obtain ⟨b1, o1, rfl, _, hc1⟩ := HA.out.at_ (by omega)
    obtain ⟨b2, o2, rfl, _, hc2⟩ := HB.out.at_ (by rw [← HL.out]; omega)
    have h1 := hc1 ((dig a).length - 1 - k) (by omega)
    have h2 := hc2 ((dig a).length - 1 - k) (by rw [← HL.out]; omega)
    have hlt' : (k : Int) < ((dig a).length : Int) := by omega
    have hb2 : ((dig a).length : Int) - 1 - (k : Int) < ((dig b).length : Int) := by rw [← HL.out]; omega
    clear hc1 hc2
    have heq2 : Hid ((dig a).drop ((dig a).length - 1 - k + 1) = (dig b).drop ((dig a).length - 1 - k + 1)) := by
     have h := heq.out
     rwa [show (dig a).length - k = (dig a).length - 1 - k + 1 by omega] at h
    rcases Nat.lt_trichotomy (dg (dig a) ((dig a).length - 1 - k)) (dg (dig b) ((dig a).length - 1 - k)) with hd | hd | hd
    ·have HV : Hid (a < b) := by
      have := val_lt_of_part (dig_digs a) HL.out (i := (dig a).length - 1 - k) (by omega) heq2.out hd
      rwa [val_dig, val_dig] at this
     have hne : (((dg (dig a) ((dig a).length - 1 - k) : Nat) : Int) != ((dg (dig b) ((dig a).length - 1 - k) : Nat) : Int)) = true := by rw [bne_iff_ne]; omega
     have hdl : decide (((dg (dig a) ((dig a).length - 1 - k) : Nat) : Int) < ((dg (dig b) ((dig a).length - 1 - k) : Nat) : Int)) = true := by simpa using hd
     have hdn : decide (dg (dig a) ((dig a).length - 1 - k) < dg (dig b) ((dig a).length - 1 - k)) = true := by simpa using hd
     clear heq heq2 hd
     go_wp2_with fail
     go_quiet (fail)
     go_wp2_with fail
     go_quiet ((go_at_call 205; exact quiet_add_left (order_t _)))
     go_wp2
     go_ret
     exact ⟨by rw [cmpv_lt HV.out]; rfl, _, by rw [World.drewN_drewN, World.drewN_drewN]⟩
    ·have HE : Hid ((dig a).drop ((dig a).length - (k + 1)) = (dig b).drop ((dig a).length - (k + 1))) := by
      show _ = _
      rw [show (dig a).length - (k + 1) = (dig a).length - 1 - k by omega, drop_pred (xs := dig a) (by omega), drop_pred (xs := dig b) (by rw [← HL.out]; omega), hd, heq2.out]
     have hne : (((dg (dig a) ((dig a).length - 1 - k) : Nat) : Int) != ((dg (dig b) ((dig a).length - 1 - k) : Nat) : Int)) = false := by rw [hd]; simp
     clear heq heq2 hd
     go_wp2_with fail
     go_quiet (fail)
     go_wp2_with fail
     go_roundw
     case rel => exact ⟨k + 1, by omega, by go_num, ⟨_, rfl⟩, HE⟩
     case measure => simp [intOf]; omega
    ·have HV : Hid (b < a) := by
      have := val_lt_of_part (dig_digs b) HL.out.symm (i := (dig a).length - 1 - k) (by rw [← HL.out]; omega) heq2.out.symm hd
      rwa [val_dig, val_dig] at this
     have hne : (((dg (dig a) ((dig a).length - 1 - k) : Nat) : Int) != ((dg (dig b) ((dig a).length - 1 - k) : Nat) : Int)) = true := by rw [bne_iff_ne]; omega
     have hdl : decide (((dg (dig a) ((dig a).length - 1 - k) : Nat) : Int) < ((dg (dig b) ((dig a).length - 1 - k) : Nat) : Int)) = false := by rw [decide_eq_false_iff_not]; omega
     have hdn : decide (dg (dig a) ((dig a).length - 1 - k) < dg (dig b) ((dig a).length - 1 - k)) = false := by rw [decide_eq_false_iff_not]; omega
     clear heq heq2 hd
     go_wp2_with fail
     go_quiet (fail)
     go_wp2_with fail
     go_quiet ((go_at_call 205; exact quiet_add_left (order_f _)))
     go_wp2
     go_ret
     exact ⟨by rw [cmpv_gt HV.out]; rfl, _, by rw [World.drewN_drewN, World.drewN_drewN]⟩
   ·have hv : Hid (a = b) := by
     show a = b
     have : k = (dig a).length := by omega
     subst this
     have h := heq.out
     rw [Nat.sub_self, List.drop_zero, List.drop_zero] at h
     exact dig_inj h
    clear heq
    go_wp2
    go_ret
    exact ⟨by rw [cmpv_eq hv.out]; rfl, _, rfl⟩
 ·by_cases hlt : (dig a).length < (dig b).length
  ·have HV := lh (cmpv_lt (lt_of_dig_length_lt hlt))
   go_wp2_with fail
   refine (order_t _).mono ?_
   rintro e w' ⟨rfl, rfl⟩
   go_wp2
   go_ret
   exact ⟨by rw [HV.out]; rfl, 0, rfl⟩
  ·have HV := lh (cmpv_gt (lt_of_dig_length_lt (show (dig b).length < (dig a).length by omega)))
   go_wp2_with fail
   refine (order_f _).mono ?_
   rintro e w' ⟨rfl, rfl⟩
   go_wp2
   go_ret
   exact ⟨by rw [HV.out]; rfl, 0, rfl⟩
theorem addr_add (b off j : Nat) : (⟨b, off, none⟩ : Addr).add j = ⟨b, off + j, none⟩ := by
 unfold Addr.add
 by_cases h : j = 0 <;> simp [h]
theorem splice_all {α : Type} (L M : List α) (h : L.length = M.length) : splice L 0 M = M := by
 unfold splice
 rw [List.take_zero, List.nil_append, Nat.zero_add, List.drop_of_length_le (by omega), List.append_nil]
theorem dcells_one (xs : List Nat) : ∀ v ∈ xs.map dcell, v.oneCell' = true := by
 intro v hv
 obtain ⟨x, _, rfl⟩ := List.mem_map.1 hv
 rfl
theorem trim_any (w : World) (A : Option Addr) (c : Nat) (xs : List Nat) (h : Num w A xs) (hn : xs.length ≤ 1099511627776) (hc : xs.length ≤ c) :
  Calls tz 168 #[.slice A xs.length c] w (RetN w (val xs)) := by
 have C1 := lh (cut_any w A c xs h hn hc)
 have hl := dig_length_val h.1
 have hmk := run_make_u64 (dig (val xs)).length (by omega)
 have HT := lh (dig_take_self h.1)
 have HN := lh h
 clear h
 go_enter Tryz.func168, Tryz.ntmps168
 go_wp2_with fail
 refine C1.out.mono ?_
 rintro e w' ⟨A', c', rfl, hc', -, rfl⟩
 clear C1
 have K1 : ((dig (val xs)).map dcell).length = Nat.min xs.length (dig (val xs)).length := by
  rw [List.length_map]; exact (Nat.min_eq_right hl).symm
 have K2 : 0 < ((dig (val xs)).map dcell).length → ∃ ad, A = some ad ∧ ∀ j v, ((dig (val xs)).map dcell)[j]? = some v → (w.alloc (.cells (madeCells #[.int .u64 0] (dig (val xs)).length) 164)).cell? (ad.add j) = some v := by
  intro hp
  rw [List.length_map] at hp
  obtain ⟨b, off, rfl, hlt, hcell⟩ := (HN.out.alloc (.cells (madeCells #[.int .u64 0] (dig (val xs)).length) 164)).at_ (by omega)
  refine ⟨_, rfl, fun j v hj => ?_⟩
  rw [List.getElem?_map] at hj
  have hjl : j < (dig (val xs)).length := by
   rcases Nat.lt_or_ge j (dig (val xs)).length with h1 | h1
   ·exact h1
   ·rw [List.getElem?_eq_none h1] at hj; cases hj
  have hj2 : v = dcell (dg (dig (val xs)) j) := by
   rw [List.getElem?_eq_getElem hjl] at hj
   rw [dg_of_lt hjl]
   exact (Option.some.inj hj).symm
  have hj3 : dg (dig (val xs)) j = dg xs j := by
   conv => lhs; rw [HT.out]
   exact dg_take hjl
  rw [hj2, hj3, addr_add]
  exact hcell j (by omega)
 have HK1 := lh K1
 have HK2 := lh K2
 clear K1 K2
 go_wp2_with ((refine wpList_copy_splice rfl (.tmp 8) (.tmp 9) _ _ rfl 164 under_u64s (by kernel_rfl) (some ⟨w.heap.size, 0, none⟩) A (dig (val xs)).length (dig (val xs)).length xs.length c rfl rfl w.heap.size 0 ((List.replicate (dig (val xs)).length 0).map dcell) 164 (Blk.made w _) ((dig (val xs)).map dcell) HK1.out (fun hp => ⟨rfl, HK2.out hp⟩) (by simp) (dcells_one _) w.heap.size w ((bR _ _).alloc (lR _) _) (lR _) ?_); intro w2 hb2 hbw2)
 have hblk : Blk w2 w.heap.size (dig (val xs)) := by
  have h1 := hb2.out
  rw [splice_all _ _ (by simp)] at h1
  exact h1
 have hnum := hblk.num (dig_digs _)
 refine (cut_any w2 _ _ _ hnum (by omega) (lR _)).mono ?_
 rw [val_dig]
 rintro e w' ⟨A2, c2, rfl, hc2, ha2, rfl⟩
 go_wp2
 go_ret
 exact ⟨A2, c2, rfl, hc2, ha2, hbw2⟩
end

section
set_option maxHeartbeats 2000000
open Go.RowKit
structure AddRel (w wr : World) (B : Option Addr) (d : Nat) (X Y : List Nat) (cy i : Value) : Prop where
 ex : ∃ (k c0 : Nat) (ys : List Nat), k ≤ X.length ∧ i = .int .i64 k ∧ cy = .int .u64 c0 ∧ c0 ≤ 1 ∧ ys.length = k ∧ Digs ys ∧ val ys + B64 ^ k * c0 = val (X.take k) + val (Y.take k) ∧ Blk wr (w.heap.size + 1) (fill ys (X.length + 1))
 cap : wr.cell? ⟨w.heap.size, 0, none⟩ = some (.slice B Y.length d)
 below : Below w.heap.size w wr
 size : wr.heap.size = w.heap.size + 2
theorem add_rel_step {w wr : World} {B : Option Addr} {d k c0 : Nat} {X Y ys : List Nat} (hlt : k < X.length) (hX : Digs X) (hY : Digs Y) (hc0 : c0 ≤ 1) (hyl : ys.length = k) (hyd : Digs ys)
  (hv : val ys + B64 ^ k * c0 = val (X.take k) + val (Y.take k)) (hblk : Blk wr (w.heap.size + 1) (fill ys (X.length + 1))) (hcap : wr.cell? ⟨w.heap.size, 0, none⟩ = some (.slice B Y.length d))
  (hbw : Below w.heap.size w wr) (hsz : wr.heap.size = w.heap.size + 2) (n : Nat) :
  AddRel w ((wr.setCell ⟨w.heap.size + 1, k, none⟩ (.int .u64 ((lo (dg X k + dg Y k + c0) : Nat) : Int))).drewN n) B d X Y (.int .u64 ((hi (dg X k + dg Y k + c0) : Nat) : Int)) (.int .i64 ((k : Int) + 1)) := by
 refine ⟨⟨k + 1, hi (dg X k + dg Y k + c0), ys ++ [lo (dg X k + dg Y k + c0)], by omega, by simp, rfl, hi_le_one (dg_lt hX k) (dg_lt hY k) hc0, by simp [hyl], hyd.snoc (lo_lt _), ?_, ?_⟩, ?_, ?_, ?_⟩
 ·rw [val_take_dg, val_take_dg, val_snoc, Nat.pow_succ, hyl]
  have := add_round (p := B64 ^ k) hv (lo_hi (dg X k + dg Y k + c0))
  omega
 ·have h := hblk.set_ k (lo (dg X k + dg Y k + c0))
  have hs := fill_set (n := X.length + 1) (lo (dg X k + dg Y k + c0)) (show ys.length < X.length + 1 by omega)
  rw [hyl] at hs
  rw [hs] at h
  exact h.drewN n
 ·exact (World.cell?_setCell_other wr _ _ _ (by intro e; injection e with e1; omega)).trans hcap
 ·exact below_drewN (hbw.setCell (by simp) _) n
 ·simpa [World.setCell] using hsz
theorem add_end {w wr : World} {k c0 : Nat} {X Y ys : List Nat} (hk : k = X.length) (hc0 : c0 ≤ 1) (hyl : ys.length = k) (hyd : Digs ys)
  (hv : val ys + B64 ^ k * c0 = val (X.take k) + val (Y.take k)) (hblk : Blk wr (w.heap.size + 1) (fill ys (X.length + 1))) (hle : Y.length ≤ X.length) :
  ∃ zs, zs.length = X.length + 1 ∧ Digs zs ∧ val zs = val X + val Y ∧ Blk (wr.setCell ⟨w.heap.size + 1, X.length, none⟩ (.int .u64 (c0 : Int))) (w.heap.size + 1) zs := by
 subst hk
 refine ⟨ys ++ [c0], by simp [hyl], hyd.snoc (by rw [B64_eq]; omega), ?_, ?_⟩
 ·rw [val_snoc, hyl, hv, List.take_of_length_le (lR _), List.take_of_length_le hle]
 ·have h := hblk.set_ X.length c0
  have hs := fill_set (n := X.length + 1) c0 (show ys.length < X.length + 1 by omega)
  rw [hyl, fill_full (ys := ys ++ [c0]) (by simp [hyl])] at hs
  rw [hs] at h
  exact h
theorem add_any (w : World) (A B : Option Addr) (c d : Nat) (xs ys : List Nat) (ha : Num w A xs) (hb : Num w B ys) (hn : xs.length ≤ 4294967296) (hm : ys.length ≤ 4294967296)
  (hc : xs.length ≤ c) (hd : ys.length ≤ d) :
  Calls tz 173 #[.slice A xs.length c, .slice B ys.length d] w (RetN w (val xs + val ys)) := by
 have C1 := lh (cut_any w A c _ ha (by omega) hc)
 have C2 := lh (cut_any w B d _ hb (by omega) hd)
 have hl1 := dig_length_val ha.1
 have hl2 := dig_length_val hb.1
 clear ha hb
 rcases Nat.lt_or_ge (dig (val xs)).length (dig (val ys)).length with h | hle
 case' inl =>
  rw [Nat.add_comm (val xs) (val ys)]
  have hle : (dig (val xs)).length ≤ (dig (val ys)).length := by omega
  generalize val xs = b at *
  generalize val ys = a at *
  have hmk := run_make_u64' (((dig a).length : Int) + 1) ((dig a).length + 1) (by omega) (by omega)
  go_enter Tryz.func173, Tryz.ntmps173
  go_wp2_with fail
  refine C1.out.mono ?_
  rintro e w' ⟨B', d', rfl, hd', hb', rfl⟩
  go_wp2_with fail
  refine C2.out.mono ?_
  rintro e w' ⟨A', c', rfl, hc', ha', rfl⟩
 case' inr =>
  generalize val xs = a at *
  generalize val ys = b at *
  have hle' : ¬ (dig a).length < (dig b).length := by omega
  have hmk := run_make_u64' (((dig a).length : Int) + 1) ((dig a).length + 1) (by omega) (by omega)
  go_enter Tryz.func173, Tryz.ntmps173
  go_wp2_with fail
  refine C1.out.mono ?_
  rintro e w' ⟨A', c', rfl, hc', ha', rfl⟩
  go_wp2_with fail
  refine C2.out.mono ?_
  rintro e w' ⟨B', d', rfl, hd', hb', rfl⟩
 all_goals
  have HA := lh ha'
  have HB := lh hb'
  clear ha' hb' C1 C2
  go_wp2_with fail
  refine (digitOf_any _ _ _ _).mono ?_
  rintro e w' ⟨rfl, rfl⟩
  go_wp2_with fail
  go_loopw [7, 28] (fun cy i wr => AddRel w wr B' d' (dig a) (dig b) cy i) (fun _ i _ => (dig a).length - (intOf i).toNat)
  case atStart =>
   exact ⟨⟨0, 0, [], Nat.zero_le _, rfl, rfl, Nat.zero_le _, rfl, Digs.nil, by simp [val_nil], by rw [fill_nil]; exact Blk.made2 _ _ _⟩, cell_made2 _ _ _,
    ((bR _ _).alloc (lR _) _).alloc (by simp) _, by simp⟩
  case round =>
   obtain ⟨⟨k, c0, ys, hk, rfl, rfl, hc0, hyl, hyd, hv, hblk⟩, hcap, hbw, hsz⟩ := hrel
   by_cases hlt : k < (dig a).length
   ·obtain ⟨b1, o1, rfl, hb1, hc1⟩ := HA.out.at_ (by omega)
    have h1 := (hbw.cell (p := ⟨b1, o1 + k, none⟩) hb1).trans (hc1 k hlt)
    have hlt' : (k : Int) < ((dig a).length : Int) := by omega
    have ho : (wr.cell? ⟨w.heap.size + 1, k, none⟩) = some (.int .u64 ((dg (fill ys ((dig a).length + 1)) k : Nat) : Int)) := hblk.cell (by rw [fill_length (by omega)]; omega)
    have hf : wr.frozen? ⟨w.heap.size + 1, k, none⟩ = false := hblk.frozen k
    have hadd := run_add (dg (dig a) k) (dg (dig b) k) c0 hc0
    have HD := lh (digit_any wr.drew w.heap.size B' d' k (dig b) (HB.out.below hbw).drew (by omega) hcap)
    have HBLK := lh hblk
    have HBW := lh hbw
    have HV := lh hv
    have HYL := lh hyl
    clear hc1 hblk hbw hv hyl
    go_wp2_with fail
    go_region_with (first | (go_at_call 221; refine HD.out.mono ?_; rintro e w' ⟨rfl, rfl⟩))
    all_goals
     go_wp2
     go_roundw
     case rel => exact add_rel_step hlt (dig_digs a) (dig_digs b) hc0 HYL.out hyd HV.out HBLK.out hcap HBW.out hsz 1
     case measure => simp [intOf]; omega
   ·have hkn : k = (dig a).length := by omega
    have ho : (wr.cell? ⟨w.heap.size + 1, (dig a).length, none⟩) = some (.int .u64 ((dg (fill ys ((dig a).length + 1)) (dig a).length : Nat) : Int)) := hblk.cell (by rw [fill_length (by omega)]; omega)
    have hf : wr.frozen? ⟨w.heap.size + 1, (dig a).length, none⟩ = false := hblk.frozen _
    have hlt' : ((dig a).length : Int) < ((dig a).length : Int) + 1 := by omega
    have H2 := add_end hkn hc0 hyl hyd hv hblk hle
    have HE := lh H2
    have HBW := lh hbw
    clear H2 hblk hbw hv hyl
    go_wp2_with fail
    obtain ⟨zs, hz1, hz2, hz3, hz4⟩ := HE.out
    have hcut := cut_any _ _ ((dig a).length + 1) zs (hz4.num hz2) (by omega) (by omega)
    rw [hz1, hz3, val_dig, val_dig] at hcut
    refine hcut.mono ?_
    rintro e w' ⟨A2, c2, rfl, hc2, ha2, rfl⟩
    go_wp2
    go_ret
    exact ⟨A2, c2, rfl, hc2, ha2, HBW.out.setCell (by simp) _⟩
structure SubRel (w wr : World) (X Y : List Nat) (B : Option Addr) (d : Nat) (bo i : Value) : Prop where
 ex : ∃ (k b0 : Nat) (zs : List Nat), k ≤ X.length ∧ i = .int .i64 k ∧ bo = .int .u64 b0 ∧ b0 ≤ 1 ∧ zs.length = k ∧ Digs zs ∧ val zs + val (Y.take k) = val (X.take k) + B64 ^ k * b0 ∧ Blk wr (w.heap.size + 1) (fill zs X.length)
 cap : wr.cell? ⟨w.heap.size, 0, none⟩ = some (.slice B Y.length d)
 below : Below w.heap.size w wr
theorem sub_rel_step {w wr : World} {B : Option Addr} {d k b0 : Nat} {X Y zs : List Nat} (hlt : k < X.length) (hX : Digs X) (hY : Digs Y) (hb0 : b0 ≤ 1) (hzl : zs.length = k) (hzd : Digs zs)
  (hv : val zs + val (Y.take k) = val (X.take k) + B64 ^ k * b0) (hblk : Blk wr (w.heap.size + 1) (fill zs X.length)) (hcap : wr.cell? ⟨w.heap.size, 0, none⟩ = some (.slice B Y.length d))
  (hbw : Below w.heap.size w wr) (n : Nat) :
  SubRel w ((wr.setCell ⟨w.heap.size + 1, k, none⟩ (.int .u64 ((slo (dg X k) (dg Y k) b0 : Nat) : Int))).drewN n) X Y B d (.int .u64 ((sbo (dg X k) (dg Y k) b0 : Nat) : Int)) (.int .i64 ((k : Int) + 1)) := by
 refine ⟨⟨k + 1, sbo (dg X k) (dg Y k) b0, zs ++ [slo (dg X k) (dg Y k) b0], by omega, by simp, rfl, sbo_le _ _ _, by simp [hzl], hzd.snoc (slo_lt _ _ _), ?_, ?_⟩, ?_, ?_⟩
 ·rw [val_take_dg, val_take_dg, val_snoc, Nat.pow_succ, hzl]
  have := sub_round (p := B64 ^ k) hv (slo_sbo (dg_lt hX k) (dg_lt hY k) hb0)
  omega
 ·have h := hblk.set_ k (slo (dg X k) (dg Y k) b0)
  have hs := fill_set (n := X.length) (slo (dg X k) (dg Y k) b0) (show zs.length < X.length by omega)
  rw [hzl] at hs
  rw [hs] at h
  exact h.drewN n
 ·exact (World.cell?_setCell_other wr _ _ _ (by intro e; injection e with e1; omega)).trans hcap
 ·exact below_drewN (hbw.setCell (by simp) _) n
theorem retn_zero (w w' : World) (h : Below w.heap.size w w') : RetN w 0 (.returned (.slice none 0 0)) w' :=
 ⟨none, 0, by rw [dig_zero]; rfl, by rw [dig_zero]; simp, by rw [dig_zero]; exact Num.nil _ _, h⟩
theorem sub_any (w : World) (A B : Option Addr) (c d : Nat) (xs ys : List Nat) (ha : Num w A xs) (hb : Num w B ys) (hn : xs.length ≤ 8589934592) (hm : ys.length ≤ 8589934592)
  (hc : xs.length ≤ c) (hd : ys.length ≤ d) :
  Calls tz 175 #[.slice A xs.length c, .slice B ys.length d] w (RetN w (val xs - val ys)) := by
 have C0 := lh (cmp_any w A B c d xs ys ha hb (by omega) (by omega) hc hd)
 rcases Nat.lt_or_ge (val xs) (val ys) with hlt | hge
 ·rw [show val xs - val ys = 0 by omega]
  rw [cmpv_lt hlt] at C0
  clear ha hb hlt
  go_enter Tryz.func175, Tryz.ntmps175
  go_wp2_with fail
  refine C0.out.mono ?_
  rintro e w' ⟨rfl, q, rfl⟩
  go_wp2
  go_ret
  exact retn_zero _ _ (below_drewN (bR _ _) q)
 ·have HG := lh hge
  have hcv : ∃ z : Int, cmpv (val xs) (val ys) = z ∧ 0 ≤ z := by
   rcases Nat.lt_or_ge (val ys) (val xs) with h | h
   ·exact ⟨1, cmpv_gt h, by omega⟩
   ·exact ⟨0, cmpv_eq (by omega), by omega⟩
  obtain ⟨z, hz, hz0⟩ := hcv
  rw [hz] at C0
  clear hz hge
  have hz0' : ¬ z < 0 := by omega
  have HA := lh ha
  have HB := lh hb
  have hmk := run_make_u64 xs.length (by omega)
  clear ha hb
  go_enter Tryz.func175, Tryz.ntmps175
  go_wp2_with fail
  refine C0.out.mono ?_
  rintro e w' ⟨rfl, q, rfl⟩
  clear C0
  go_wp2_with fail
  refine (digitOf_any _ _ _ _).mono ?_
  rintro e w' ⟨rfl, rfl⟩
  go_wp2_with fail
  go_loopw [7, 20] (fun bo i wr => SubRel w wr xs ys B d bo i) (fun _ i _ => xs.length - (intOf i).toNat)
  case atStart =>
   exact ⟨⟨0, 0, [], Nat.zero_le _, rfl, rfl, Nat.zero_le _, rfl, Digs.nil, by simp [val_nil], by rw [fill_nil]; exact (Blk.made2 _ _ _).drewN q⟩, cell_made2 _ _ _,
    below_drewN (((bR _ _).alloc (lR _) _).alloc (by simp) _) q⟩
  case round =>
   obtain ⟨⟨k, b0, zs, hk, rfl, rfl, hb0, hzl, hzd, hv, hblk⟩, hcap, hbw⟩ := hrel
   by_cases hlt : k < xs.length
   ·obtain ⟨b1, o1, rfl, hb1, hc1⟩ := HA.out.at_ (by omega)
    have h1 := (hbw.cell (p := ⟨b1, o1 + k, none⟩) hb1).trans (hc1 k hlt)
    have hlt' : (k : Int) < (xs.length : Int) := by omega
    have ho : (wr.cell? ⟨w.heap.size + 1, k, none⟩) = some (.int .u64 ((dg (fill zs xs.length) k : Nat) : Int)) := hblk.cell (by rw [fill_length (by omega)]; omega)
    have hf : wr.frozen? ⟨w.heap.size + 1, k, none⟩ = false := hblk.frozen k
    have hsub := run_sub (dg xs k) (dg ys k) b0 hb0
    have HD := lh (digit_any wr.drew w.heap.size B d k ys (HB.out.below hbw).drew (by omega) hcap)
    have HBLK := lh hblk
    have HBW := lh hbw
    have HV := lh hv
    have HZL := lh hzl
    have HXD := lh HA.out.1
    clear hc1 hblk hbw hv hzl
    go_wp2_with fail
    go_region_with (first | (go_at_call 221; refine HD.out.mono ?_; rintro e w' ⟨rfl, rfl⟩))
    all_goals
     go_wp2
     go_roundw
     case rel => exact sub_rel_step hlt HXD.out HB.out.1 hb0 HZL.out hzd HV.out HBLK.out hcap HBW.out 1
     case measure => simp [intOf]; omega
   ·have hkn : k = xs.length := by omega
    have hval : val zs = val xs - val ys := by
     have h1 := val_lt HA.out.1
     have h2 := val_take_of_le HG.out h1
     rw [hkn, h2, List.take_length] at hv
     refine sub_end ?_ HG.out hv
     have := val_lt hzd
     rwa [hzl, hkn] at this
    have hb2 : Blk wr (w.heap.size + 1) zs := by
     rw [fill_full (by omega)] at hblk
     exact hblk
    have hcut := cut_any wr _ xs.length zs (hb2.num hzd) (by omega) (by omega)
    rw [hzl, hkn, hval] at hcut
    have HCUT := lh hcut
    have HBW := lh hbw
    clear hcut hval hb2 hblk hbw hv hzl hkn
    go_wp2_with fail
    refine HCUT.out.mono ?_
    rintro e w' ⟨A2, c2, rfl, hc2, ha2, rfl⟩
    go_wp2
    go_ret
    exact ⟨A2, c2, rfl, hc2, ha2, HBW.out⟩
