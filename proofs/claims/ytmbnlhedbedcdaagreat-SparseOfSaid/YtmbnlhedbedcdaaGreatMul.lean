/- Products of limbs. -/
import Derived.Test.YtmbnlhedbedcdaaGreatSums
namespace Go.Proofs.YtmbnlhedbedcdaaGreat
open Go.RowKit

/-- What addProduct leaves. -/
structure AddpPost (w : World) (g off : Nat) (cs ys : List Nat) (x : Nat) (e : Ending) (w' : World) : Prop where
  ex : ∃ (zs : List Nat) (c1 : Nat), e = .returned (.int .u64 c1) ∧ c1 < B64 ∧ zs.length = ys.length ∧ Digs zs ∧ val zs + B64 ^ ys.length * c1 = val ((cs.drop off).take ys.length) + val ys * x ∧ Blk w' g (mid cs off zs)
  only : Only g w w'

structure AddpRel (w wr : World) (g off : Nat) (cs ys : List Nat) (x : Nat) (cy i : Value) : Prop where
  ex : ∃ (k c0 : Nat) (zs : List Nat), k ≤ ys.length ∧ i = .int .i64 k ∧ cy = .int .u64 c0 ∧ c0 < B64 ∧ zs.length = k ∧ Digs zs ∧ val zs + B64 ^ k * c0 = val ((cs.drop off).take k) + val (ys.take k) * x ∧ Blk wr g (mid cs off zs)
  only : Only g w wr

theorem addp_step {w wr : World} {g off : Nat} {cs ys : List Nat} {x k c0 : Nat} {zs : List Nat} (hlt : k < ys.length) (hoff : off + ys.length ≤ cs.length) (hcs : Digs cs) (hys : Digs ys) (hx : x < B64)
    (hc0 : c0 < B64) (hzl : zs.length = k) (hzd : Digs zs) (hv : val zs + B64 ^ k * c0 = val ((cs.drop off).take k) + val (ys.take k) * x) (hblk : Blk wr g (mid cs off zs)) (ho : Only g w wr) :
    AddpRel w (wr.setCell ⟨g, off + k, none⟩ (.int .u64 ((lo (dg cs (off + k) + lo (dg ys k * x + c0)) : Nat) : Int))) g off cs ys x
      (.int .u64 ((hi (dg ys k * x + c0) + hi (dg cs (off + k) + lo (dg ys k * x + c0)) : Nat) : Int)) (.int .i64 ((k : Int) + 1)) := by
  refine ⟨⟨k + 1, _, zs ++ [lo (dg cs (off + k) + lo (dg ys k * x + c0))], by omega, by simp, rfl, mul_carry_lt (dg_lt hys k) hx hc0 (dg_lt hcs _), by simp [hzl], hzd.snoc (lo_lt _), ?_, ?_⟩, ho.set _ _⟩
  · rw [val_take_dg, val_take_dg, val_snoc, Nat.pow_succ, hzl, dg_drop]
    exact mul_round hv (lo_hi _) (lo_hi _)
  · have h := hblk.set_ (off + k) (lo (dg cs (off + k) + lo (dg ys k * x + c0)))
    have hs := mid_set (cs := cs) (zs := zs) (off := off) (by omega) (lo (dg cs (off + k) + lo (dg ys k * x + c0)))
    rw [hzl] at hs
    rwa [hs] at h

set_option maxHeartbeats 1000000 in
theorem addp_any (w : World) (g off capS d : Nat) (cs ys : List Nat) (B : Option Addr) (x : Nat) (hblk : Blk w g cs) (hcs : Digs cs) (hoff : off + ys.length ≤ cs.length) (hB : Num w B ys)
    (hne : 0 < ys.length → ∀ p, B = some p → p.block ≠ g) (hx : x < B64) (hn : ys.length ≤ 1099511627776) :
    Calls Tryz.prog 160 #[.slice (some ⟨g, off, none⟩) ys.length capS, .slice B ys.length d, .int .u64 x] w (AddpPost w g off cs ys x) := by
  have HB := Lib.hid hB
  have HBLK0 := Lib.hid hblk
  have HNE := Lib.hid hne
  have HX := Lib.hid hx
  clear hB hblk hne hx
  go_enter Tryz.func160, Tryz.ntmps160
  go_wp2_with fail
  go_loopw [7, 13] (fun cy i wr => AddpRel w wr g off cs ys x cy i) (fun _ i _ => ys.length - (intOf i).toNat)
  case atStart =>
    exact ⟨⟨0, 0, [], Nat.zero_le _, rfl, rfl, B64_pos, rfl, Digs.nil, by simp [val_nil], by rw [mid_nil]; exact HBLK0.out⟩, Only.refl _ _⟩
  case round =>
    obtain ⟨⟨k, c0, zs, hk, rfl, rfl, hc0, hzl, hzd, hv, hblk⟩, hO⟩ := hrel
    by_cases hlt : k < ys.length
    · obtain ⟨b1, o1, rfl, hb1, hc1⟩ := HB.out.at_ (by omega)
      have h1 := (hO.cell (p := ⟨b1, o1 + k, none⟩) (show b1 ≠ g from HNE.out (by omega) ⟨b1, o1, none⟩ rfl)).trans (hc1 k hlt)
      have hlt' : (k : Int) < (ys.length : Int) := by omega
      have ho : (wr.cell? ⟨g, off + k, none⟩) = some (.int .u64 ((dg cs (off + k) : Nat) : Int)) := by
        rw [hblk.cell (by rw [mid_length (by omega)]; omega), dg_mid_above (by omega) (by omega)]
      have hf : wr.frozen? ⟨g, off + k, none⟩ = false := hblk.frozen _
      have hadd := run_add0 (dg cs (off + k)) (lo (dg ys k * x + c0))
      have HP := Lib.hid (product_any (dg ys k) x c0 (dg_lt HB.out.1 k) HX.out hc0 wr)
      have HU : Hid (IntKind.u64.wrap (((hi (dg ys k * x + c0) : Nat) : Int) + ((hi (dg cs (off + k) + lo (dg ys k * x + c0)) : Nat) : Int)) = ((hi (dg ys k * x + c0) + hi (dg cs (off + k) + lo (dg ys k * x + c0)) : Nat) : Int)) := by
        have h := u64_small (mul_carry_lt (dg_lt HB.out.1 k) HX.out hc0 (dg_lt hcs (off + k)))
        rw [Int.natCast_add] at h ⊢
        exact h
      have HS := Lib.hid (addp_step hlt hoff hcs HB.out.1 HX.out hc0 hzl hzd hv hblk hO)
      clear hc1 hblk hv hzl
      go_wp2_with fail
      refine HP.out.mono ?_
      rintro e w' ⟨rfl, rfl⟩
      go_wp2_with fail
      go_roundw
      case rel => rw [HU.out]; exact HS.out
      case measure => simp [intOf]; omega
    · have hkn : k = ys.length := by omega
      have HE : Hid (AddpPost w g off cs ys x (.returned (.int .u64 c0)) wr) := by
        refine ⟨⟨zs, c0, rfl, hc0, by omega, hzd, ?_, hblk⟩, hO⟩
        rw [hkn, List.take_length] at hv
        exact hv
      clear hblk hv hzl hkn
      go_wp2
      go_ret
      exact HE.out

/-- What holds at each round's head of Mul. -/
structure MulRel (w wr : World) (X Y : List Nat) (i : Value) : Prop where
  ex : ∃ (k : Nat) (ps : List Nat), k ≤ X.length ∧ i = .int .i64 k ∧ ps.length = k + Y.length ∧ Digs ps ∧ val ps = val (X.take k) * val Y ∧ Blk wr w.heap.size (fill ps (X.length + Y.length))
  below : Below w.heap.size w wr

theorem fill_drop_take {ps : List Nat} {k m n : Nat} (h : ps.length = k + m) : ((fill ps n).drop k).take m = ps.drop k := by
  unfold fill
  rw [List.drop_append_of_le_length (by omega), List.take_append_of_le_length (by rw [List.length_drop]; omega), List.take_of_length_le (by rw [List.length_drop]; omega)]

theorem mid_fill {ps zs : List Nat} {k m n : Nat} (h : ps.length = k + m) (hz : zs.length = m) : mid (fill ps n) k zs = fill (ps.take k ++ zs) n := by
  unfold mid fill
  rw [List.take_append_of_le_length (by omega), hz, ← h, List.drop_left, List.append_assoc]
  congr 3
  simp; omega

theorem mul_step {w wr w1 : World} {X Y ps zs : List Nat} {k c1 : Nat} (hlt : k < X.length) (hpl : ps.length = k + Y.length) (hpd : Digs ps) (hv : val ps = val (X.take k) * val Y)
    (hbw : Below w.heap.size w wr) (hc1 : c1 < B64) (hzl : zs.length = Y.length) (hzd : Digs zs)
    (hz : val zs + B64 ^ Y.length * c1 = val (((fill ps (X.length + Y.length)).drop k).take Y.length) + val Y * dg X k) (hblk : Blk w1 w.heap.size (mid (fill ps (X.length + Y.length)) k zs)) (hO : Only w.heap.size wr.drew w1) :
    MulRel w (w1.setCell ⟨w.heap.size, k + Y.length, none⟩ (.int .u64 (c1 : Int))) X Y (.int .i64 ((k : Int) + 1)) := by
  rw [fill_drop_take hpl] at hz
  rw [mid_fill hpl hzl] at hblk
  have hl : (ps.take k ++ zs).length = k + Y.length := by rw [List.length_append, List.length_take]; omega
  refine ⟨⟨k + 1, ps.take k ++ zs ++ [c1], by omega, by simp, by rw [List.length_append, hl]; simp; omega, ((hpd.take k).append hzd).snoc hc1, ?_, ?_⟩, ?_⟩
  · rw [val_snoc, hl, val_append, List.length_take, Nat.min_eq_left (by omega), val_take_dg, Nat.add_mul, ← hv, val_take_add ps k, Nat.min_eq_left (by omega), Nat.pow_add, Nat.mul_assoc, Nat.add_assoc,
      ← Nat.mul_add, hz, Nat.mul_add, Nat.mul_assoc, Nat.mul_comm (dg X k) (val Y), Nat.add_assoc]
  · have h := hblk.set_ (k + Y.length) c1
    have hs := fill_set (ys := ps.take k ++ zs) (n := X.length + Y.length) c1 (by omega)
    rw [hl] at hs
    rwa [hs] at h
  · exact (((hbw.drew).trans (hO.below (Nat.le_refl _))).setCell (Nat.le_refl _) _)

set_option maxHeartbeats 2000000 in
theorem mul_any (w : World) (A B : Option Addr) (c d : Nat) (xs ys : List Nat) (ha : Num w A xs) (hb : Num w B ys) (hn : xs.length ≤ 8589934592) (hm : ys.length ≤ 8589934592)
    (hc : xs.length ≤ c) (hd : ys.length ≤ d) :
    Calls Tryz.prog 132 #[.slice A xs.length c, .slice B ys.length d] w (RetN w (val xs * val ys)) := by
  have C1 := Lib.hid (cut_any w A c xs ha (by omega) hc)
  have C2 := Lib.hid (cut_any w B d ys hb (by omega) hd)
  have hl1 := dig_length_val ha.1
  have hl2 := dig_length_val hb.1
  clear ha hb
  generalize val xs = a at *
  generalize val ys = b at *
  have hmk := run_make_u64' (((dig a).length : Int) + ((dig b).length : Int)) ((dig a).length + (dig b).length) (by omega) (by omega)
  go_enter Tryz.func132, Tryz.ntmps132
  go_wp2_with fail
  refine C1.out.mono ?_
  rintro e w' ⟨A', c', rfl, hc', ha', rfl⟩
  go_wp2_with fail
  refine C2.out.mono ?_
  rintro e w' ⟨B', d', rfl, hd', hb', rfl⟩
  have HA := Lib.hid ha'
  have HB := Lib.hid hb'
  clear ha' hb' C1 C2
  go_wp2_with fail
  go_loopw [19] (fun i wr => MulRel w wr (dig a) (dig b) i) (fun i _ => (dig a).length - (intOf i).toNat)
  case atStart =>
    refine ⟨⟨0, List.replicate (dig b).length 0, Nat.zero_le _, rfl, by simp, Digs.rep _, by simp [val_rep, val_nil], ?_⟩, (Below.refl _ _).alloc (Nat.le_refl _) _⟩
    have h := Blk.made w ((dig a).length + (dig b).length)
    rwa [show List.replicate ((dig a).length + (dig b).length) 0 = fill (List.replicate (dig b).length 0) ((dig a).length + (dig b).length) by unfold fill; rw [List.replicate_append_replicate]; congr 1; simp; omega] at h
  case round =>
    obtain ⟨⟨k, ps, hk, rfl, hpl, hpd, hv, hblk⟩, hbw⟩ := hrel
    by_cases hlt : k < (dig a).length
    · obtain ⟨b1, o1, rfl, hb1, hc1⟩ := HA.out.at_ (by omega)
      have h1 := (hbw.cell (p := ⟨b1, o1 + k, none⟩) hb1).trans (hc1 k hlt)
      have hlt' : (k : Int) < ((dig a).length : Int) := by omega
      have hfl : (fill ps ((dig a).length + (dig b).length)).length = (dig a).length + (dig b).length := fill_length (by omega)
      have HNB : Hid (0 < (dig b).length → ∀ p, B' = some p → p.block ≠ w.heap.size) := by
        intro hz p hp
        obtain ⟨b2, o2, e2, hb2, _⟩ := HB.out.at_ hz
        rw [e2] at hp
        injection hp with hp
        rw [← hp]
        exact Nat.ne_of_lt hb2
      have hcapne : ¬ ((dig a).length + (dig b).length = k) := by omega
      have hka : k ≤ (dig a).length := by omega
      have hkb : (0 : Int) ≤ (k : Int) + ((dig b).length : Int) := by omega
      have htn : ((k : Int) + ((dig b).length : Int)).toNat = k + (dig b).length := by omega
      have HP := Lib.hid (addp_any wr.drew w.heap.size k ((dig a).length + (dig b).length - k) d' (fill ps ((dig a).length + (dig b).length)) (dig b) B' (dg (dig a) k) hblk.drew (hpd.fill _) (by omega) (HB.out.below hbw).drew HNB.out (dg_lt (dig_digs a) k) (by omega))
      have HBW := Lib.hid hbw
      have HV := Lib.hid hv
      have HPL := Lib.hid hpl
      have HFL := Lib.hid hfl
      clear hc1 hblk hbw hv hpl hfl
      go_wp2_with fail
      have hwr : IntKind.i64.wrap ((k : Int) + ((dig b).length : Int)) = (k : Int) + ((dig b).length : Int) := IntWalk.i64_in _ (by omega)
      go_region_with (first
        | (go_at_call 160
           refine HP.out.mono ?_
           rintro e w1 ⟨⟨zs, c1, rfl, hc1, hzl, hzd, hz, hblk1⟩, hO⟩
           have ho : (w1.cell? ⟨w.heap.size, k + (dig b).length, none⟩) = some (.int .u64 ((dg (mid (fill ps ((dig a).length + (dig b).length)) k zs) (k + (dig b).length) : Nat) : Int)) := hblk1.cell (by rw [mid_length (by rw [HFL.out]; omega), HFL.out]; omega)
           have hf : w1.frozen? ⟨w.heap.size, k + (dig b).length, none⟩ = false := hblk1.frozen _
           have HS := Lib.hid (mul_step hlt HPL.out hpd HV.out HBW.out hc1 hzl hzd hz hblk1 hO)
           clear hz hblk1 hzl))
      all_goals
        go_wp2
        go_roundw
        case rel => exact HS.out
        case measure => simp [intOf]; omega
    · have hkn : k = (dig a).length := by omega
      have hval : val ps = a * b := by rw [hv, hkn, List.take_length, val_dig, val_dig]
      have hblk2 : Blk wr w.heap.size ps := by
        rw [fill_full (by omega)] at hblk
        exact hblk
      have hcut := cut_any wr _ ((dig a).length + (dig b).length) ps (hblk2.num hpd) (by omega) (by omega)
      rw [hpl, hkn, hval] at hcut
      have HCUT := Lib.hid hcut
      have HBW := Lib.hid hbw
      clear hcut hval hblk2 hblk hbw hv hpl hkn
      go_wp2_with fail
      refine HCUT.out.mono ?_
      rintro e w' ⟨A2, c2, rfl, hc2, ha2, rfl⟩
      go_wp2
      go_ret
      exact ⟨A2, c2, rfl, hc2, ha2, HBW.out⟩
end Go.Proofs.YtmbnlhedbedcdaaGreat
