/- More calls of limbs that only read, and those of the law's own helpers. -/
import Derived.Test.YtmbnlhedbedcdaaGreatDoorLeaf
namespace Go.Proofs.YtmbnlhedbedcdaaGreatDoor
open Go.RowKit

set_option maxHeartbeats 400000 in
theorem digit_in (w : World) (p : Nat) (A : Option Addr) (c i : Nat) (xs : List Nat) (h : Num w A xs) (hn : xs.length ≤ 1099511627776)
    (hp : w.cell? ⟨p, 0, none⟩ = some (.slice A xs.length c)) (hi : i < xs.length) :
    Calls Tryz.prog 153 #[.int .i64 i, .pointer (some ⟨p, 0, none⟩)] w fun e w' => e = .returned (.int .u64 ((dg xs i : Nat) : Int)) ∧ w = w' := by
  obtain ⟨b, off, rfl, _, hc⟩ := h.at_ (by omega)
  have hcell := hc i hi
  have hlt : (i : Int) < (xs.length : Int) := by omega
  clear hc h
  go_enter Tryz.func153, Tryz.ntmps153
  go_wp2
  go_ret
  exact ⟨rfl, rfl⟩
set_option maxHeartbeats 400000 in
theorem digit_out (w : World) (p : Nat) (A : Option Addr) (n c i : Nat)
    (hp : w.cell? ⟨p, 0, none⟩ = some (.slice A n c)) (hi : n ≤ i) :
    Calls Tryz.prog 153 #[.int .i64 i, .pointer (some ⟨p, 0, none⟩)] w fun e w' => e = .returned (.int .u64 0) ∧ w = w' := by
  have hlt : ¬ ((i : Int) < (n : Int)) := by omega
  go_enter Tryz.func153, Tryz.ntmps153
  go_wp2
  go_ret
  exact ⟨rfl, rfl⟩
set_option maxHeartbeats 400000 in
theorem digit_neg (w : World) (p : Nat) (i : Int) (hi : i < 0) :
    Calls Tryz.prog 153 #[.int .i64 i, .pointer (some ⟨p, 0, none⟩)] w fun e w' => e = .returned (.int .u64 0) ∧ w = w' := by
  go_enter Tryz.func153, Tryz.ntmps153
  go_wp2
  go_ret
  exact ⟨rfl, rfl⟩
/-- The digit at i, whatever i from 0 on. -/
theorem digit_any (w : World) (p : Nat) (A : Option Addr) (c i : Nat) (xs : List Nat) (h : Num w A xs) (hn : xs.length ≤ 1099511627776)
    (hp : w.cell? ⟨p, 0, none⟩ = some (.slice A xs.length c)) :
    Calls Tryz.prog 153 #[.int .i64 i, .pointer (some ⟨p, 0, none⟩)] w fun e w' => e = .returned (.int .u64 ((dg xs i : Nat) : Int)) ∧ w = w' := by
  by_cases hi : i < xs.length
  · exact digit_in w p A c i xs h hn hp hi
  · refine (digit_out w p A xs.length c i hp (by omega)).mono ?_
    rintro e w' ⟨rfl, rfl⟩
    rw [dg_of_ge (by omega)]
    exact ⟨rfl, rfl⟩

set_option maxHeartbeats 400000 in
theorem digitOf_any (w : World) (A : Option Addr) (n c : Nat) :
    Calls Tryz.prog 122 #[.slice A n c] w fun e w' => e = .returned (.func (.func 153) #[] #[.pointer (some ⟨w.heap.size, 0, none⟩)]) ∧ w' = w.alloc (.cells #[.slice A n c] 22) := by
  go_enter Tryz.func122, Tryz.ntmps122
  go_wp2
  go_ret
  exact ⟨rfl, rfl⟩
set_option maxHeartbeats 400000 in
theorem same_yes (w : World) (A B : Option Addr) (c d : Nat) (xs : List Nat) (ha : Num w A xs) (hb : Num w B xs) (hn : xs.length ≤ 1099511627776) :
    Calls Tryz.prog 84 #[.slice A xs.length c, .slice B xs.length d] w (RetB w true) := by
  have HA := Lib.hid ha
  have HB := Lib.hid hb
  clear ha hb
  go_enter Tryz.func84, Tryz.ntmps84
  go_wp2
  go_loopw [5] (fun i wr => ∃ k : Nat, k ≤ xs.length ∧ i = .int .i64 k ∧ Below w.heap.size w wr) (fun i _ => xs.length - (intOf i).toNat)
  case atStart => exact ⟨0, Nat.zero_le _, rfl, Below.refl _ _⟩
  case round =>
    obtain ⟨k, hk, rfl, hbw⟩ := hrel
    by_cases hlt : k < xs.length
    · obtain ⟨b, off, rfl, hbl, hc1⟩ := HA.out.at_ (by omega)
      obtain ⟨b', off', rfl, hbl', hc2⟩ := HB.out.at_ (by omega)
      have h1 := (hbw.cell (p := ⟨b, off + k, none⟩) hbl).trans (hc1 k hlt)
      have h2 := (hbw.cell (p := ⟨b', off' + k, none⟩) hbl').trans (hc2 k hlt)
      have hlt' : (k : Int) < (xs.length : Int) := by omega
      clear hc1 hc2
      have HBW := Lib.hid hbw
      clear hbw
      go_wp2
      go_quiet (fail)
      go_wp2
      go_roundw
      case rel => exact ⟨k + 1, by omega, by go_num, below_drewN HBW.out _⟩
      case measure => simp [intOf]; omega
    · go_wp2
      go_ret
      exact ⟨rfl, hbw⟩
/-- The sum of two lists' order, by the highest place at which they part. -/
def cmpv (a b : Nat) : Int := if a < b then -1 else if a = b then 0 else 1
theorem cmpv_lt {a b : Nat} (h : a < b) : cmpv a b = -1 := by unfold cmpv; rw [if_pos h]
theorem cmpv_eq {a b : Nat} (h : a = b) : cmpv a b = 0 := by unfold cmpv; rw [if_neg (by omega), if_pos h]
theorem cmpv_gt {a b : Nat} (h : b < a) : cmpv a b = 1 := by unfold cmpv; rw [if_neg (by omega), if_neg (by omega)]

theorem quiet_add_left {P : Program} {f : FuncId} {args : Array Value} {w : World} {a n : Nat} {v : Value}
    (h : Calls P f args (w.drewN (a + n)) fun e w' => e = .returned v ∧ w.drewN (a + n) = w') :
    Calls P f args (w.drewN (a + n)) fun e w'' => e = .returned v ∧ ∃ m, w'' = w.drewN (a + m) :=
  h.mono fun _ _ ⟨he, hm⟩ => ⟨he, n, hm.symm⟩

/-- What Cmp tells: quietly. -/
def RetQ (w : World) (n : Int) (e : Ending) (w' : World) : Prop := e = .returned (.int .i64 n) ∧ ∃ k, w' = w.drewN k
theorem RetQ.below {w : World} {n : Int} {e : Ending} {w' : World} (h : RetQ w n e w') : RetI w n e w' := by
  obtain ⟨he, k, rfl⟩ := h
  exact ⟨he, below_drewN (Below.refl _ _) k⟩

set_option maxHeartbeats 800000 in
theorem cmp_any (w : World) (A B : Option Addr) (c d : Nat) (xs ys : List Nat) (ha : Num w A xs) (hb : Num w B ys) (hn : xs.length ≤ 1099511627776) (hm : ys.length ≤ 1099511627776)
    (hc : xs.length ≤ c) (hd : ys.length ≤ d) :
    Calls Tryz.prog 93 #[.slice A xs.length c, .slice B ys.length d] w (RetQ w (cmpv (val xs) (val ys))) := by
  have C1 := Lib.hid (cut_any w A c xs ha hn hc)
  have C2 := Lib.hid (cut_any w B d ys hb hm hd)
  have hl1 := dig_length_val ha.1
  have hl2 := dig_length_val hb.1
  clear ha hb hc hd
  generalize val xs = a at *
  generalize val ys = b at *
  go_enter Tryz.func93, Tryz.ntmps93
  go_wp2_with fail
  refine C1.out.mono ?_
  rintro e w' ⟨A', c', rfl, hc', ha', rfl⟩
  go_wp2_with fail
  refine C2.out.mono ?_
  rintro e w' ⟨B', d', rfl, hd', hb', rfl⟩
  have HA := Lib.hid ha'
  have HB := Lib.hid hb'
  clear ha' hb' C1 C2
  by_cases hle : (dig a).length = (dig b).length
  · have HL := Lib.hid hle
    have hbe : (((dig a).length : Int) != ((dig b).length : Int)) = false := by rw [hle]; simp
    clear hle
    go_wp2_with fail
    go_loopw [24] (fun i wr => ∃ k : Nat, k ≤ (dig a).length ∧ i = .int .i64 k ∧ (∃ q, wr = w.drewN q) ∧ Hid ((dig a).drop ((dig a).length - k) = (dig b).drop ((dig a).length - k))) (fun i _ => (dig a).length - (intOf i).toNat)
    case atStart => exact ⟨0, Nat.zero_le _, rfl, ⟨0, rfl⟩, by show _ = _; rw [Nat.sub_zero, List.drop_length, HL.out, List.drop_length]⟩
    case round =>
      obtain ⟨k, hk, rfl, ⟨q, rfl⟩, heq⟩ := hrel
      by_cases hlt : k < (dig a).length
      · obtain ⟨b1, o1, rfl, _, hc1⟩ := HA.out.at_ (by omega)
        obtain ⟨b2, o2, rfl, _, hc2⟩ := HB.out.at_ (by rw [← HL.out]; omega)
        have h1 := hc1 ((dig a).length - 1 - k) (by omega)
        have h2 := hc2 ((dig a).length - 1 - k) (by rw [← HL.out]; omega)
        have hlt' : (k : Int) < ((dig a).length : Int) := by omega
        have hb2 : ((dig a).length : Int) - 1 - (k : Int) < ((dig b).length : Int) := by rw [← HL.out]; omega
        clear hc1 hc2
        have heq2 : Hid ((dig a).drop ((dig a).length - 1 - k + 1) = (dig b).drop ((dig a).length - 1 - k + 1)) := by
          have h := heq.out
          rwa [show (dig a).length - k = (dig a).length - 1 - k + 1 by omega] at h
        rcases Nat.lt_trichotomy (dg (dig a) ((dig a).length - 1 - k)) (dg (dig b) ((dig a).length - 1 - k)) with hd | hd | hd
        · have HV : Hid (a < b) := by
            have := val_lt_of_part (dig_digs a) HL.out (i := (dig a).length - 1 - k) (by omega) heq2.out hd
            rwa [val_dig, val_dig] at this
          have hne : (((dg (dig a) ((dig a).length - 1 - k) : Nat) : Int) != ((dg (dig b) ((dig a).length - 1 - k) : Nat) : Int)) = true := by rw [bne_iff_ne]; omega
          have hdl : decide (((dg (dig a) ((dig a).length - 1 - k) : Nat) : Int) < ((dg (dig b) ((dig a).length - 1 - k) : Nat) : Int)) = true := by simpa using hd
          have hdn : decide (dg (dig a) ((dig a).length - 1 - k) < dg (dig b) ((dig a).length - 1 - k)) = true := by simpa using hd
          clear heq heq2 hd
          go_wp2_with fail
          go_quiet (fail)
          go_wp2_with fail
          go_quiet ((go_at_call 114; exact quiet_add_left (order_t _)))
          go_wp2
          go_ret
          exact ⟨by rw [cmpv_lt HV.out]; rfl, _, by rw [World.drewN_drewN, World.drewN_drewN]⟩
        · have HE : Hid ((dig a).drop ((dig a).length - (k + 1)) = (dig b).drop ((dig a).length - (k + 1))) := by
            show _ = _
            rw [show (dig a).length - (k + 1) = (dig a).length - 1 - k by omega, drop_pred (xs := dig a) (by omega), drop_pred (xs := dig b) (by rw [← HL.out]; omega), hd, heq2.out]
          have hne : (((dg (dig a) ((dig a).length - 1 - k) : Nat) : Int) != ((dg (dig b) ((dig a).length - 1 - k) : Nat) : Int)) = false := by rw [hd]; simp
          clear heq heq2 hd
          go_wp2_with fail
          go_quiet (fail)
          go_wp2_with fail
          go_roundw
          case rel => exact ⟨k + 1, by omega, by go_num, ⟨_, rfl⟩, HE⟩
          case measure => simp [intOf]; omega
        · have HV : Hid (b < a) := by
            have := val_lt_of_part (dig_digs b) HL.out.symm (i := (dig a).length - 1 - k) (by rw [← HL.out]; omega) heq2.out.symm hd
            rwa [val_dig, val_dig] at this
          have hne : (((dg (dig a) ((dig a).length - 1 - k) : Nat) : Int) != ((dg (dig b) ((dig a).length - 1 - k) : Nat) : Int)) = true := by rw [bne_iff_ne]; omega
          have hdl : decide (((dg (dig a) ((dig a).length - 1 - k) : Nat) : Int) < ((dg (dig b) ((dig a).length - 1 - k) : Nat) : Int)) = false := by rw [decide_eq_false_iff_not]; omega
          have hdn : decide (dg (dig a) ((dig a).length - 1 - k) < dg (dig b) ((dig a).length - 1 - k)) = false := by rw [decide_eq_false_iff_not]; omega
          clear heq heq2 hd
          go_wp2_with fail
          go_quiet (fail)
          go_wp2_with fail
          go_quiet ((go_at_call 114; exact quiet_add_left (order_f _)))
          go_wp2
          go_ret
          exact ⟨by rw [cmpv_gt HV.out]; rfl, _, by rw [World.drewN_drewN, World.drewN_drewN]⟩
      · have hv : Hid (a = b) := by
          show a = b
          have : k = (dig a).length := by omega
          subst this
          have h := heq.out
          rw [Nat.sub_self, List.drop_zero, List.drop_zero] at h
          exact dig_inj h
        clear heq
        go_wp2
        go_ret
        exact ⟨by rw [cmpv_eq hv.out]; rfl, _, rfl⟩
  · by_cases hlt : (dig a).length < (dig b).length
    · have HV := Lib.hid (cmpv_lt (lt_of_dig_length_lt hlt))
      go_wp2_with fail
      refine (order_t _).mono ?_
      rintro e w' ⟨rfl, rfl⟩
      go_wp2
      go_ret
      exact ⟨by rw [HV.out]; rfl, 0, rfl⟩
    · have HV := Lib.hid (cmpv_gt (lt_of_dig_length_lt (show (dig b).length < (dig a).length by omega)))
      go_wp2_with fail
      refine (order_f _).mono ?_
      rintro e w' ⟨rfl, rfl⟩
      go_wp2
      go_ret
      exact ⟨by rw [HV.out]; rfl, 0, rfl⟩
/-- The sum of what the digits of a list weigh in bits. -/
theorem trim_cells {xs : List Nat} {n : Nat} (h : dig n = xs) : val xs = n := by rw [← h, val_dig]

theorem addr_add (b off j : Nat) : (⟨b, off, none⟩ : Addr).add j = ⟨b, off + j, none⟩ := by
  unfold Addr.add
  by_cases h : j = 0 <;> simp [h]
theorem splice_all {α : Type} (L M : List α) (h : L.length = M.length) : splice L 0 M = M := by
  unfold splice
  rw [List.take_zero, List.nil_append, Nat.zero_add, List.drop_of_length_le (by omega), List.append_nil]
theorem dcells_one (xs : List Nat) : ∀ v ∈ xs.map dcell, v.oneCell' = true := by
  intro v hv
  obtain ⟨x, _, rfl⟩ := List.mem_map.1 hv
  rfl

set_option maxHeartbeats 800000 in
theorem trim_any (w : World) (A : Option Addr) (c : Nat) (xs : List Nat) (h : Num w A xs) (hn : xs.length ≤ 1099511627776) (hc : xs.length ≤ c) :
    Calls Tryz.prog 52 #[.slice A xs.length c] w (RetN w (val xs)) := by
  have C1 := Lib.hid (cut_any w A c xs h hn hc)
  have hl := dig_length_val h.1
  have hmk := run_make_u64 (dig (val xs)).length (by omega)
  have HT := Lib.hid (dig_take_self h.1)
  have HN := Lib.hid h
  clear h
  go_enter Tryz.func52, Tryz.ntmps52
  go_wp2_with fail
  refine C1.out.mono ?_
  rintro e w' ⟨A', c', rfl, hc', -, rfl⟩
  clear C1
  have K1 : ((dig (val xs)).map dcell).length = Nat.min xs.length (dig (val xs)).length := by
    rw [List.length_map]; exact (Nat.min_eq_right hl).symm
  have K2 : 0 < ((dig (val xs)).map dcell).length → ∃ ad, A = some ad ∧ ∀ j v, ((dig (val xs)).map dcell)[j]? = some v → (w.alloc (.cells (madeCells #[.int .u64 0] (dig (val xs)).length) 36)).cell? (ad.add j) = some v := by
    intro hp
    rw [List.length_map] at hp
    obtain ⟨b, off, rfl, hlt, hcell⟩ := (HN.out.alloc (.cells (madeCells #[.int .u64 0] (dig (val xs)).length) 36)).at_ (by omega)
    refine ⟨_, rfl, fun j v hj => ?_⟩
    rw [List.getElem?_map] at hj
    have hjl : j < (dig (val xs)).length := by
      rcases Nat.lt_or_ge j (dig (val xs)).length with h1 | h1
      · exact h1
      · rw [List.getElem?_eq_none h1] at hj; cases hj
    have hj2 : v = dcell (dg (dig (val xs)) j) := by
      rw [List.getElem?_eq_getElem hjl] at hj
      rw [dg_of_lt hjl]
      exact (Option.some.inj hj).symm
    have hj3 : dg (dig (val xs)) j = dg xs j := by
      conv => lhs; rw [HT.out]
      exact dg_take hjl
    rw [hj2, hj3, addr_add]
    exact hcell j (by omega)
  have HK1 := Lib.hid K1
  have HK2 := Lib.hid K2
  clear K1 K2
  go_wp2_with ((refine wpList_copy_splice rfl (.tmp 8) (.tmp 9) _ _ rfl 36 under_u64s (by kernel_rfl) (some ⟨w.heap.size, 0, none⟩) A (dig (val xs)).length (dig (val xs)).length xs.length c rfl rfl w.heap.size 0 ((List.replicate (dig (val xs)).length 0).map dcell) 36 (Blk.made w _) ((dig (val xs)).map dcell) HK1.out (fun hp => ⟨rfl, HK2.out hp⟩) (by simp) (dcells_one _) w.heap.size w ((Below.refl _ _).alloc (Nat.le_refl _) _) (Nat.le_refl _) ?_); intro w2 hb2 hbw2)
  have hblk : Blk w2 w.heap.size (dig (val xs)) := by
    have h1 := hb2.out
    rw [splice_all _ _ (by simp)] at h1
    exact h1
  have hnum := hblk.num (dig_digs _)
  refine (cut_any w2 _ _ _ hnum (by omega) (Nat.le_refl _)).mono ?_
  rw [val_dig]
  rintro e w' ⟨A2, c2, rfl, hc2, ha2, rfl⟩
  go_wp2
  go_ret
  exact ⟨A2, c2, rfl, hc2, ha2, hbw2⟩
end Go.Proofs.YtmbnlhedbedcdaaGreatDoor