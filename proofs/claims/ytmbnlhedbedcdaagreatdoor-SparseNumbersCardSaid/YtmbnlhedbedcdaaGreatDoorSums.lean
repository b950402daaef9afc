/- Sums of limbs. -/
import Derived.Test.YtmbnlhedbedcdaaGreatDoorRead
import Derived.Deep.RegionWith
namespace Go.Proofs.YtmbnlhedbedcdaaGreatDoor
open Go.RowKit

/-- What holds at each round's head of Add. -/
structure AddRel (w wr : World) (B : Option Addr) (d : Nat) (X Y : List Nat) (cy i : Value) : Prop where
  ex : ∃ (k c0 : Nat) (ys : List Nat), k ≤ X.length ∧ i = .int .i64 k ∧ cy = .int .u64 c0 ∧ c0 ≤ 1 ∧ ys.length = k ∧ Digs ys ∧ val ys + B64 ^ k * c0 = val (X.take k) + val (Y.take k) ∧ Blk wr (w.heap.size + 1) (fill ys (X.length + 1))
  cap : wr.cell? ⟨w.heap.size, 0, none⟩ = some (.slice B Y.length d)
  below : Below w.heap.size w wr
  size : wr.heap.size = w.heap.size + 2

theorem add_rel_step {w wr : World} {B : Option Addr} {d k c0 : Nat} {X Y ys : List Nat} (hlt : k < X.length) (hX : Digs X) (hY : Digs Y) (hc0 : c0 ≤ 1) (hyl : ys.length = k) (hyd : Digs ys)
    (hv : val ys + B64 ^ k * c0 = val (X.take k) + val (Y.take k)) (hblk : Blk wr (w.heap.size + 1) (fill ys (X.length + 1))) (hcap : wr.cell? ⟨w.heap.size, 0, none⟩ = some (.slice B Y.length d))
    (hbw : Below w.heap.size w wr) (hsz : wr.heap.size = w.heap.size + 2) (n : Nat) :
    AddRel w ((wr.setCell ⟨w.heap.size + 1, k, none⟩ (.int .u64 ((lo (dg X k + dg Y k + c0) : Nat) : Int))).drewN n) B d X Y (.int .u64 ((hi (dg X k + dg Y k + c0) : Nat) : Int)) (.int .i64 ((k : Int) + 1)) := by
  refine ⟨⟨k + 1, hi (dg X k + dg Y k + c0), ys ++ [lo (dg X k + dg Y k + c0)], by omega, by simp, rfl, hi_le_one (dg_lt hX k) (dg_lt hY k) hc0, by simp [hyl], hyd.snoc (lo_lt _), ?_, ?_⟩, ?_, ?_, ?_⟩
  · rw [val_take_dg, val_take_dg, val_snoc, Nat.pow_succ, hyl]
    have := add_round (p := B64 ^ k) hv (lo_hi (dg X k + dg Y k + c0))
    omega
  · have h := hblk.set_ k (lo (dg X k + dg Y k + c0))
    have hs := fill_set (n := X.length + 1) (lo (dg X k + dg Y k + c0)) (show ys.length < X.length + 1 by omega)
    rw [hyl] at hs
    rw [hs] at h
    exact h.drewN n
  · exact (World.cell?_setCell_other wr _ _ _ (by intro e; injection e with e1; omega)).trans hcap
  · exact below_drewN (hbw.setCell (by simp) _) n
  · simpa [World.setCell] using hsz

theorem add_end {w wr : World} {k c0 : Nat} {X Y ys : List Nat} (hk : k = X.length) (hc0 : c0 ≤ 1) (hyl : ys.length = k) (hyd : Digs ys)
    (hv : val ys + B64 ^ k * c0 = val (X.take k) + val (Y.take k)) (hblk : Blk wr (w.heap.size + 1) (fill ys (X.length + 1))) (hle : Y.length ≤ X.length) :
    ∃ zs, zs.length = X.length + 1 ∧ Digs zs ∧ val zs = val X + val Y ∧ Blk (wr.setCell ⟨w.heap.size + 1, X.length, none⟩ (.int .u64 (c0 : Int))) (w.heap.size + 1) zs := by
  subst hk
  refine ⟨ys ++ [c0], by simp [hyl], hyd.snoc (by rw [B64_eq]; omega), ?_, ?_⟩
  · rw [val_snoc, hyl, hv, List.take_of_length_le (Nat.le_refl _), List.take_of_length_le hle]
  · have h := hblk.set_ X.length c0
    have hs := fill_set (n := X.length + 1) c0 (show ys.length < X.length + 1 by omega)
    rw [hyl, fill_full (ys := ys ++ [c0]) (by simp [hyl])] at hs
    rw [hs] at h
    exact h

set_option maxHeartbeats 2000000 in
theorem add_any (w : World) (A B : Option Addr) (c d : Nat) (xs ys : List Nat) (ha : Num w A xs) (hb : Num w B ys) (hn : xs.length ≤ 4294967296) (hm : ys.length ≤ 4294967296)
    (hc : xs.length ≤ c) (hd : ys.length ≤ d) :
    Calls Tryz.prog 98 #[.slice A xs.length c, .slice B ys.length d] w (RetN w (val xs + val ys)) := by
  have C1 := Lib.hid (cut_any w A c _ ha (by omega) hc)
  have C2 := Lib.hid (cut_any w B d _ hb (by omega) hd)
  have hl1 := dig_length_val ha.1
  have hl2 := dig_length_val hb.1
  clear ha hb
  rcases Nat.lt_or_ge (dig (val xs)).length (dig (val ys)).length with h | hle
  case' inl =>
    rw [Nat.add_comm (val xs) (val ys)]
    have hle : (dig (val xs)).length ≤ (dig (val ys)).length := by omega
    generalize val xs = b at *
    generalize val ys = a at *
    have hmk := run_make_u64' (((dig a).length : Int) + 1) ((dig a).length + 1) (by omega) (by omega)
    go_enter Tryz.func98, Tryz.ntmps98
    go_wp2_with fail
    refine C1.out.mono ?_
    rintro e w' ⟨B', d', rfl, hd', hb', rfl⟩
    go_wp2_with fail
    refine C2.out.mono ?_
    rintro e w' ⟨A', c', rfl, hc', ha', rfl⟩
  case' inr =>
    generalize val xs = a at *
    generalize val ys = b at *
    have hle' : ¬ (dig a).length < (dig b).length := by omega
    have hmk := run_make_u64' (((dig a).length : Int) + 1) ((dig a).length + 1) (by omega) (by omega)
    go_enter Tryz.func98, Tryz.ntmps98
    go_wp2_with fail
    refine C1.out.mono ?_
    rintro e w' ⟨A', c', rfl, hc', ha', rfl⟩
    go_wp2_with fail
    refine C2.out.mono ?_
    rintro e w' ⟨B', d', rfl, hd', hb', rfl⟩
  all_goals
    have HA := Lib.hid ha'
    have HB := Lib.hid hb'
    clear ha' hb' C1 C2
    go_wp2_with fail
    refine (digitOf_any _ _ _ _).mono ?_
    rintro e w' ⟨rfl, rfl⟩
    go_wp2_with fail
    go_loopw [7, 28] (fun cy i wr => AddRel w wr B' d' (dig a) (dig b) cy i) (fun _ i _ => (dig a).length - (intOf i).toNat)
    case atStart =>
      exact ⟨⟨0, 0, [], Nat.zero_le _, rfl, rfl, Nat.zero_le _, rfl, Digs.nil, by simp [val_nil], by rw [fill_nil]; exact Blk.made2 _ _ _⟩, cell_made2 _ _ _,
        ((Below.refl _ _).alloc (Nat.le_refl _) _).alloc (by simp) _, by simp⟩
    case round =>
      obtain ⟨⟨k, c0, ys, hk, rfl, rfl, hc0, hyl, hyd, hv, hblk⟩, hcap, hbw, hsz⟩ := hrel
      by_cases hlt : k < (dig a).length
      · obtain ⟨b1, o1, rfl, hb1, hc1⟩ := HA.out.at_ (by omega)
        have h1 := (hbw.cell (p := ⟨b1, o1 + k, none⟩) hb1).trans (hc1 k hlt)
        have hlt' : (k : Int) < ((dig a).length : Int) := by omega
        have ho : (wr.cell? ⟨w.heap.size + 1, k, none⟩) = some (.int .u64 ((dg (fill ys ((dig a).length + 1)) k : Nat) : Int)) := hblk.cell (by rw [fill_length (by omega)]; omega)
        have hf : wr.frozen? ⟨w.heap.size + 1, k, none⟩ = false := hblk.frozen k
        have hadd := run_add (dg (dig a) k) (dg (dig b) k) c0 hc0
        have HD := Lib.hid (digit_any wr.drew w.heap.size B' d' k (dig b) (HB.out.below hbw).drew (by omega) hcap)
        have HBLK := Lib.hid hblk
        have HBW := Lib.hid hbw
        have HV := Lib.hid hv
        have HYL := Lib.hid hyl
        clear hc1 hblk hbw hv hyl
        go_wp2_with fail
        go_region_with (first | (go_at_call 153; refine HD.out.mono ?_; rintro e w' ⟨rfl, rfl⟩))
        all_goals
          go_wp2
          go_roundw
          case rel => exact add_rel_step hlt (dig_digs a) (dig_digs b) hc0 HYL.out hyd HV.out HBLK.out hcap HBW.out hsz 1
          case measure => simp [intOf]; omega
      · have hkn : k = (dig a).length := by omega
        have ho : (wr.cell? ⟨w.heap.size + 1, (dig a).length, none⟩) = some (.int .u64 ((dg (fill ys ((dig a).length + 1)) (dig a).length : Nat) : Int)) := hblk.cell (by rw [fill_length (by omega)]; omega)
        have hf : wr.frozen? ⟨w.heap.size + 1, (dig a).length, none⟩ = false := hblk.frozen _
        have hlt' : ((dig a).length : Int) < ((dig a).length : Int) + 1 := by omega
        have H2 := add_end hkn hc0 hyl hyd hv hblk hle
        have HE := Lib.hid H2
        have HBW := Lib.hid hbw
        clear H2 hblk hbw hv hyl
        go_wp2_with fail
        obtain ⟨zs, hz1, hz2, hz3, hz4⟩ := HE.out
        have hcut := cut_any _ _ ((dig a).length + 1) zs (hz4.num hz2) (by omega) (by omega)
        rw [hz1, hz3, val_dig, val_dig] at hcut
        refine hcut.mono ?_
        rintro e w' ⟨A2, c2, rfl, hc2, ha2, rfl⟩
        go_wp2
        go_ret
        exact ⟨A2, c2, rfl, hc2, ha2, HBW.out.setCell (by simp) _⟩
/-- What holds at each round's head of Sub. -/
structure SubRel (w wr : World) (X Y : List Nat) (B : Option Addr) (d : Nat) (bo i : Value) : Prop where
  ex : ∃ (k b0 : Nat) (zs : List Nat), k ≤ X.length ∧ i = .int .i64 k ∧ bo = .int .u64 b0 ∧ b0 ≤ 1 ∧ zs.length = k ∧ Digs zs ∧ val zs + val (Y.take k) = val (X.take k) + B64 ^ k * b0 ∧ Blk wr (w.heap.size + 1) (fill zs X.length)
  cap : wr.cell? ⟨w.heap.size, 0, none⟩ = some (.slice B Y.length d)
  below : Below w.heap.size w wr

theorem sub_rel_step {w wr : World} {B : Option Addr} {d k b0 : Nat} {X Y zs : List Nat} (hlt : k < X.length) (hX : Digs X) (hY : Digs Y) (hb0 : b0 ≤ 1) (hzl : zs.length = k) (hzd : Digs zs)
    (hv : val zs + val (Y.take k) = val (X.take k) + B64 ^ k * b0) (hblk : Blk wr (w.heap.size + 1) (fill zs X.length)) (hcap : wr.cell? ⟨w.heap.size, 0, none⟩ = some (.slice B Y.length d))
    (hbw : Below w.heap.size w wr) (n : Nat) :
    SubRel w ((wr.setCell ⟨w.heap.size + 1, k, none⟩ (.int .u64 ((slo (dg X k) (dg Y k) b0 : Nat) : Int))).drewN n) X Y B d (.int .u64 ((sbo (dg X k) (dg Y k) b0 : Nat) : Int)) (.int .i64 ((k : Int) + 1)) := by
  refine ⟨⟨k + 1, sbo (dg X k) (dg Y k) b0, zs ++ [slo (dg X k) (dg Y k) b0], by omega, by simp, rfl, sbo_le _ _ _, by simp [hzl], hzd.snoc (slo_lt _ _ _), ?_, ?_⟩, ?_, ?_⟩
  · rw [val_take_dg, val_take_dg, val_snoc, Nat.pow_succ, hzl]
    have := sub_round (p := B64 ^ k) hv (slo_sbo (dg_lt hX k) (dg_lt hY k) hb0)
    omega
  · have h := hblk.set_ k (slo (dg X k) (dg Y k) b0)
    have hs := fill_set (n := X.length) (slo (dg X k) (dg Y k) b0) (show zs.length < X.length by omega)
    rw [hzl] at hs
    rw [hs] at h
    exact h.drewN n
  · exact (World.cell?_setCell_other wr _ _ _ (by intro e; injection e with e1; omega)).trans hcap
  · exact below_drewN (hbw.setCell (by simp) _) n

theorem retn_zero (w w' : World) (h : Below w.heap.size w w') : RetN w 0 (.returned (.slice none 0 0)) w' :=
  ⟨none, 0, by rw [dig_zero]; rfl, by rw [dig_zero]; simp, by rw [dig_zero]; exact Num.nil _ _, h⟩

set_option maxHeartbeats 2000000 in
theorem sub_any (w : World) (A B : Option Addr) (c d : Nat) (xs ys : List Nat) (ha : Num w A xs) (hb : Num w B ys) (hn : xs.length ≤ 8589934592) (hm : ys.length ≤ 8589934592)
    (hc : xs.length ≤ c) (hd : ys.length ≤ d) :
    Calls Tryz.prog 99 #[.slice A xs.length c, .slice B ys.length d] w (RetN w (val xs - val ys)) := by
  have C0 := Lib.hid (cmp_any w A B c d xs ys ha hb (by omega) (by omega) hc hd)
  rcases Nat.lt_or_ge (val xs) (val ys) with hlt | hge
  · rw [show val xs - val ys = 0 by omega]
    rw [cmpv_lt hlt] at C0
    clear ha hb hlt
    go_enter Tryz.func99, Tryz.ntmps99
    go_wp2_with fail
    refine C0.out.mono ?_
    rintro e w' ⟨rfl, q, rfl⟩
    go_wp2
    go_ret
    exact retn_zero _ _ (below_drewN (Below.refl _ _) q)
  · have HG := Lib.hid hge
    have hcv : ∃ z : Int, cmpv (val xs) (val ys) = z ∧ 0 ≤ z := by
      rcases Nat.lt_or_ge (val ys) (val xs) with h | h
      · exact ⟨1, cmpv_gt h, by omega⟩
      · exact ⟨0, cmpv_eq (by omega), by omega⟩
    obtain ⟨z, hz, hz0⟩ := hcv
    rw [hz] at C0
    clear hz hge
    have hz0' : ¬ z < 0 := by omega
    have HA := Lib.hid ha
    have HB := Lib.hid hb
    have hmk := run_make_u64 xs.length (by omega)
    clear ha hb
    go_enter Tryz.func99, Tryz.ntmps99
    go_wp2_with fail
    refine C0.out.mono ?_
    rintro e w' ⟨rfl, q, rfl⟩
    clear C0
    go_wp2_with fail
    refine (digitOf_any _ _ _ _).mono ?_
    rintro e w' ⟨rfl, rfl⟩
    go_wp2_with fail
    go_loopw [7, 20] (fun bo i wr => SubRel w wr xs ys B d bo i) (fun _ i _ => xs.length - (intOf i).toNat)
    case atStart =>
      exact ⟨⟨0, 0, [], Nat.zero_le _, rfl, rfl, Nat.zero_le _, rfl, Digs.nil, by simp [val_nil], by rw [fill_nil]; exact (Blk.made2 _ _ _).drewN q⟩, cell_made2 _ _ _,
        below_drewN (((Below.refl _ _).alloc (Nat.le_refl _) _).alloc (by simp) _) q⟩
    case round =>
      obtain ⟨⟨k, b0, zs, hk, rfl, rfl, hb0, hzl, hzd, hv, hblk⟩, hcap, hbw⟩ := hrel
      by_cases hlt : k < xs.length
      · obtain ⟨b1, o1, rfl, hb1, hc1⟩ := HA.out.at_ (by omega)
        have h1 := (hbw.cell (p := ⟨b1, o1 + k, none⟩) hb1).trans (hc1 k hlt)
        have hlt' : (k : Int) < (xs.length : Int) := by omega
        have ho : (wr.cell? ⟨w.heap.size + 1, k, none⟩) = some (.int .u64 ((dg (fill zs xs.length) k : Nat) : Int)) := hblk.cell (by rw [fill_length (by omega)]; omega)
        have hf : wr.frozen? ⟨w.heap.size + 1, k, none⟩ = false := hblk.frozen k
        have hsub := run_sub (dg xs k) (dg ys k) b0 hb0
        have HD := Lib.hid (digit_any wr.drew w.heap.size B d k ys (HB.out.below hbw).drew (by omega) hcap)
        have HBLK := Lib.hid hblk
        have HBW := Lib.hid hbw
        have HV := Lib.hid hv
        have HZL := Lib.hid hzl
        have HXD := Lib.hid HA.out.1
        clear hc1 hblk hbw hv hzl
        go_wp2_with fail
        go_region_with (first | (go_at_call 153; refine HD.out.mono ?_; rintro e w' ⟨rfl, rfl⟩))
        all_goals
          go_wp2
          go_roundw
          case rel => exact sub_rel_step hlt HXD.out HB.out.1 hb0 HZL.out hzd HV.out HBLK.out hcap HBW.out 1
          case measure => simp [intOf]; omega
      · have hkn : k = xs.length := by omega
        have hval : val zs = val xs - val ys := by
          have h1 := val_lt HA.out.1
          have h2 := val_take_of_le HG.out h1
          rw [hkn, h2, List.take_length] at hv
          refine sub_end ?_ HG.out hv
          have := val_lt hzd
          rwa [hzl, hkn] at this
        have hb2 : Blk wr (w.heap.size + 1) zs := by
          rw [fill_full (by omega)] at hblk
          exact hblk
        have hcut := cut_any wr _ xs.length zs (hb2.num hzd) (by omega) (by omega)
        rw [hzl, hkn, hval] at hcut
        have HCUT := Lib.hid hcut
        have HBW := Lib.hid hbw
        clear hcut hval hb2 hblk hbw hv hzl hkn
        go_wp2_with fail
        refine HCUT.out.mono ?_
        rintro e w' ⟨A2, c2, rfl, hc2, ha2, rfl⟩
        go_wp2
        go_ret
        exact ⟨A2, c2, rfl, hc2, ha2, HBW.out⟩

end Go.Proofs.YtmbnlhedbedcdaaGreatDoor
