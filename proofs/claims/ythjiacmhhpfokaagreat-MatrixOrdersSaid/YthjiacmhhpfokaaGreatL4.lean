/- Part 4 of the proof: Mul, Shift. -/
import Derived.Test.YthjiacmhhpfokaaGreatL3
import Derived.Laws.BitsAllLaws
namespace Go.Proofs.YthjiacmhhpfokaaGreat
open Lib renaming hid → lh
open Nat renaming mul_assoc → mS
section
set_option maxHeartbeats 2000000
open Go.RowKit
structure AddpPost (w : World) (g off : Nat) (cs ys : List Nat) (x : Nat) (e : Ending) (w' : World) : Prop where
 ex : ∃ (zs : List Nat) (c1 : Nat), e = .returned (.int .u64 c1) ∧ c1 < B64 ∧ zs.length = ys.length ∧ Digs zs ∧ val zs + B64 ^ ys.length * c1 = val ((cs.drop off).take ys.length) + val ys * x ∧ Blk w' g (mid cs off zs)
 only : Only g w w'
structure AddpRel (w wr : World) (g off : Nat) (cs ys : List Nat) (x : Nat) (cy i : Value) : Prop where
 ex : ∃ (k c0 : Nat) (zs : List Nat), k ≤ ys.length ∧ i = .int .i64 k ∧ cy = .int .u64 c0 ∧ c0 < B64 ∧ zs.length = k ∧ Digs zs ∧ val zs + B64 ^ k * c0 = val ((cs.drop off).take k) + val (ys.take k) * x ∧ Blk wr g (mid cs off zs)
 only : Only g w wr
theorem addp_step {w wr : World} {g off : Nat} {cs ys : List Nat} {x k c0 : Nat} {zs : List Nat} (hlt : k < ys.length) (hoff : off + ys.length ≤ cs.length) (hcs : Digs cs) (hys : Digs ys) (hx : x < B64)
  (hc0 : c0 < B64) (hzl : zs.length = k) (hzd : Digs zs) (hv : val zs + B64 ^ k * c0 = val ((cs.drop off).take k) + val (ys.take k) * x) (hblk : Blk wr g (mid cs off zs)) (ho : Only g w wr) :
  AddpRel w (wr.setCell ⟨g, off + k, none⟩ (.int .u64 ((lo (dg cs (off + k) + lo (dg ys k * x + c0)) : Nat) : Int))) g off cs ys x
   (.int .u64 ((hi (dg ys k * x + c0) + hi (dg cs (off + k) + lo (dg ys k * x + c0)) : Nat) : Int)) (.int .i64 ((k : Int) + 1)) := by
 refine ⟨⟨k + 1, _, zs ++ [lo (dg cs (off + k) + lo (dg ys k * x + c0))], by omega, by simp, rfl, mul_carry_lt (dg_lt hys k) hx hc0 (dg_lt hcs _), by simp [hzl], hzd.snoc (lo_lt _), ?_, ?_⟩, ho.set _ _⟩
 ·rw [val_take_dg, val_take_dg, val_snoc, Nat.pow_succ, hzl, dg_drop]
  exact mul_round hv (lo_hi _) (lo_hi _)
 ·have h := hblk.set_ (off + k) (lo (dg cs (off + k) + lo (dg ys k * x + c0)))
  have hs := mid_set (cs := cs) (zs := zs) (off := off) (by omega) (lo (dg cs (off + k) + lo (dg ys k * x + c0)))
  rw [hzl] at hs
  rwa [hs] at h
theorem addp_any (w : World) (g off capS d : Nat) (cs ys : List Nat) (B : Option Addr) (x : Nat) (hblk : Blk w g cs) (hcs : Digs cs) (hoff : off + ys.length ≤ cs.length) (hB : Num w B ys)
  (hne : 0 < ys.length → ∀ p, B = some p → p.block ≠ g) (hx : x < B64) (hn : ys.length ≤ 1099511627776) :
  Calls Tryz.prog 209 #[.slice (some ⟨g, off, none⟩) ys.length capS, .slice B ys.length d, .int .u64 x] w (AddpPost w g off cs ys x) := by
 have HB := lh hB
 have HBLK0 := lh hblk
 have HNE := lh hne
 have HX := lh hx
 clear hB hblk hne hx
 go_enter Tryz.func209, Tryz.ntmps209
 go_wp2_with fail
 go_loopw [7, 13] (fun cy i wr => AddpRel w wr g off cs ys x cy i) (fun _ i _ => ys.length - (intOf i).toNat)
 case atStart =>
  exact ⟨⟨0, 0, [], Nat.zero_le _, rfl, rfl, B64_pos, rfl, Digs.nil, by simp [val_nil], by rw [mid_nil]; exact HBLK0.out⟩, Only.refl _ _⟩
 case round =>
  obtain ⟨⟨k, c0, zs, hk, rfl, rfl, hc0, hzl, hzd, hv, hblk⟩, hO⟩ := hrel
  by_cases hlt : k < ys.length
  ·obtain ⟨b1, o1, rfl, hb1, hc1⟩ := HB.out.at_ (by omega)
   have h1 := (hO.cell (p := ⟨b1, o1 + k, none⟩) (show b1 ≠ g from HNE.out (by omega) ⟨b1, o1, none⟩ rfl)).trans (hc1 k hlt)
   have hlt' : (k : Int) < (ys.length : Int) := by omega
   have ho : (wr.cell? ⟨g, off + k, none⟩) = some (.int .u64 ((dg cs (off + k) : Nat) : Int)) := by
    rw [hblk.cell (by rw [mid_length (by omega)]; omega), dg_mid_above (by omega) (by omega)]
   have hf : wr.frozen? ⟨g, off + k, none⟩ = false := hblk.frozen _
   have hadd := run_add0 (dg cs (off + k)) (lo (dg ys k * x + c0))
   have HP := lh (product_any (dg ys k) x c0 (dg_lt HB.out.1 k) HX.out hc0 wr)
   have HU : Hid (IntKind.u64.wrap (((hi (dg ys k * x + c0) : Nat) : Int) + ((hi (dg cs (off + k) + lo (dg ys k * x + c0)) : Nat) : Int)) = ((hi (dg ys k * x + c0) + hi (dg cs (off + k) + lo (dg ys k * x + c0)) : Nat) : Int)) := by
    have h := u64_small (mul_carry_lt (dg_lt HB.out.1 k) HX.out hc0 (dg_lt hcs (off + k)))
    rw [Int.natCast_add] at h ⊢
    exact h
   have HS := lh (addp_step hlt hoff hcs HB.out.1 HX.out hc0 hzl hzd hv hblk hO)
   clear hc1 hblk hv hzl
   go_wp2_with fail
   refine HP.out.mono ?_
   rintro e w' ⟨rfl, rfl⟩
   go_wp2_with fail
   go_roundw
   case rel => rw [HU.out]; exact HS.out
   case measure => simp [intOf]; omega
  ·have hkn : k = ys.length := by omega
   have HE : Hid (AddpPost w g off cs ys x (.returned (.int .u64 c0)) wr) := by
    refine ⟨⟨zs, c0, rfl, hc0, by omega, hzd, ?_, hblk⟩, hO⟩
    rw [hkn, List.take_length] at hv
    exact hv
   clear hblk hv hzl hkn
   go_wp2
   go_ret
   exact HE.out
structure MulRel (w wr : World) (X Y : List Nat) (i : Value) : Prop where
 ex : ∃ (k : Nat) (ps : List Nat), k ≤ X.length ∧ i = .int .i64 k ∧ ps.length = k + Y.length ∧ Digs ps ∧ val ps = val (X.take k) * val Y ∧ Blk wr w.heap.size (fill ps (X.length + Y.length))
 below : Below w.heap.size w wr
theorem fill_drop_take {ps : List Nat} {k m n : Nat} (h : ps.length = k + m) : ((fill ps n).drop k).take m = ps.drop k := by
 unfold fill
 rw [List.drop_append_of_le_length (by omega), List.take_append_of_le_length (by rw [List.length_drop]; omega), List.take_of_length_le (by rw [List.length_drop]; omega)]
theorem mid_fill {ps zs : List Nat} {k m n : Nat} (h : ps.length = k + m) (hz : zs.length = m) : mid (fill ps n) k zs = fill (ps.take k ++ zs) n := by
 unfold mid fill
 rw [List.take_append_of_le_length (by omega), hz, ← h, List.drop_left, List.append_assoc]
 congr 3
 simp; omega
theorem mul_step {w wr w1 : World} {X Y ps zs : List Nat} {k c1 : Nat} (hlt : k < X.length) (hpl : ps.length = k + Y.length) (hpd : Digs ps) (hv : val ps = val (X.take k) * val Y)
  (hbw : Below w.heap.size w wr) (hc1 : c1 < B64) (hzl : zs.length = Y.length) (hzd : Digs zs)
  (hz : val zs + B64 ^ Y.length * c1 = val (((fill ps (X.length + Y.length)).drop k).take Y.length) + val Y * dg X k) (hblk : Blk w1 w.heap.size (mid (fill ps (X.length + Y.length)) k zs)) (hO : Only w.heap.size wr.drew w1) :
  MulRel w (w1.setCell ⟨w.heap.size, k + Y.length, none⟩ (.int .u64 (c1 : Int))) X Y (.int .i64 ((k : Int) + 1)) := by
 rw [fill_drop_take hpl] at hz
 rw [mid_fill hpl hzl] at hblk
 have hl : (ps.take k ++ zs).length = k + Y.length := by rw [List.length_append, List.length_take]; omega
 refine ⟨⟨k + 1, ps.take k ++ zs ++ [c1], by omega, by simp, by rw [List.length_append, hl]; simp; omega, ((hpd.take k).append hzd).snoc hc1, ?_, ?_⟩, ?_⟩
 ·rw [val_snoc, hl, val_append, List.length_take, Nat.min_eq_left (by omega), val_take_dg, Nat.add_mul, ← hv, val_take_add ps k, Nat.min_eq_left (by omega), Nat.pow_add, mS, Nat.add_assoc,
   ← Nat.mul_add, hz, Nat.mul_add, mS, Nat.mul_comm (dg X k) (val Y), Nat.add_assoc]
 ·have h := hblk.set_ (k + Y.length) c1
  have hs := fill_set (ys := ps.take k ++ zs) (n := X.length + Y.length) c1 (by omega)
  rw [hl] at hs
  rwa [hs] at h
 ·exact (((hbw.drew).trans (hO.below (Nat.le_refl _))).setCell (Nat.le_refl _) _)
theorem mul_any (w : World) (A B : Option Addr) (c d : Nat) (xs ys : List Nat) (ha : Num w A xs) (hb : Num w B ys) (hn : xs.length ≤ 8589934592) (hm : ys.length ≤ 8589934592)
  (hc : xs.length ≤ c) (hd : ys.length ≤ d) :
  Calls Tryz.prog 178 #[.slice A xs.length c, .slice B ys.length d] w (RetN w (val xs * val ys)) := by
 have C1 := lh (cut_any w A c xs ha (by omega) hc)
 have C2 := lh (cut_any w B d ys hb (by omega) hd)
 have hl1 := dig_length_val ha.1
 have hl2 := dig_length_val hb.1
 clear ha hb
 generalize val xs = a at *
 generalize val ys = b at *
 have hmk := run_make_u64' (((dig a).length : Int) + ((dig b).length : Int)) ((dig a).length + (dig b).length) (by omega) (by omega)
 go_enter Tryz.func178, Tryz.ntmps178
 go_wp2_with fail
 refine C1.out.mono ?_
 rintro e w' ⟨A', c', rfl, hc', ha', rfl⟩
 go_wp2_with fail
 refine C2.out.mono ?_
 rintro e w' ⟨B', d', rfl, hd', hb', rfl⟩
 have HA := lh ha'
 have HB := lh hb'
 clear ha' hb' C1 C2
 go_wp2_with fail
 go_loopw [19] (fun i wr => MulRel w wr (dig a) (dig b) i) (fun i _ => (dig a).length - (intOf i).toNat)
 case atStart =>
  refine ⟨⟨0, List.replicate (dig b).length 0, Nat.zero_le _, rfl, by simp, Digs.rep _, by simp [val_rep, val_nil], ?_⟩, (Below.refl _ _).alloc (Nat.le_refl _) _⟩
  have h := Blk.made w ((dig a).length + (dig b).length)
  rwa [show List.replicate ((dig a).length + (dig b).length) 0 = fill (List.replicate (dig b).length 0) ((dig a).length + (dig b).length) by unfold fill; rw [List.replicate_append_replicate]; congr 1; simp; omega] at h
 case round =>
  obtain ⟨⟨k, ps, hk, rfl, hpl, hpd, hv, hblk⟩, hbw⟩ := hrel
  by_cases hlt : k < (dig a).length
  ·obtain ⟨b1, o1, rfl, hb1, hc1⟩ := HA.out.at_ (by omega)
   have h1 := (hbw.cell (p := ⟨b1, o1 + k, none⟩) hb1).trans (hc1 k hlt)
   have hlt' : (k : Int) < ((dig a).length : Int) := by omega
   have hfl : (fill ps ((dig a).length + (dig b).length)).length = (dig a).length + (dig b).length := fill_length (by omega)
   have HNB : Hid (0 < (dig b).length → ∀ p, B' = some p → p.block ≠ w.heap.size) := by
    intro hz p hp
    obtain ⟨b2, o2, e2, hb2, _⟩ := HB.out.at_ hz
    rw [e2] at hp
    injection hp with hp
    rw [← hp]
    exact Nat.ne_of_lt hb2
   have hcapne : ¬ ((dig a).length + (dig b).length = k) := by omega
   have hka : k ≤ (dig a).length := by omega
   have hkb : (0 : Int) ≤ (k : Int) + ((dig b).length : Int) := by omega
   have htn : ((k : Int) + ((dig b).length : Int)).toNat = k + (dig b).length := by omega
   have HP := lh (addp_any wr.drew w.heap.size k ((dig a).length + (dig b).length - k) d' (fill ps ((dig a).length + (dig b).length)) (dig b) B' (dg (dig a) k) hblk.drew (hpd.fill _) (by omega) (HB.out.below hbw).drew HNB.out (dg_lt (dig_digs a) k) (by omega))
   have HBW := lh hbw
   have HV := lh hv
   have HPL := lh hpl
   have HFL := lh hfl
   clear hc1 hblk hbw hv hpl hfl
   go_wp2_with fail
   have hwr : IntKind.i64.wrap ((k : Int) + ((dig b).length : Int)) = (k : Int) + ((dig b).length : Int) := IntWalk.i64_in _ (by omega)
   go_region_with (first
    | (go_at_call 209
       refine HP.out.mono ?_
       rintro e w1 ⟨⟨zs, c1, rfl, hc1, hzl, hzd, hz, hblk1⟩, hO⟩
       have ho : (w1.cell? ⟨w.heap.size, k + (dig b).length, none⟩) = some (.int .u64 ((dg (mid (fill ps ((dig a).length + (dig b).length)) k zs) (k + (dig b).length) : Nat) : Int)) := hblk1.cell (by rw [mid_length (by rw [HFL.out]; omega), HFL.out]; omega)
       have hf : w1.frozen? ⟨w.heap.size, k + (dig b).length, none⟩ = false := hblk1.frozen _
       have HS := lh (mul_step hlt HPL.out hpd HV.out HBW.out hc1 hzl hzd hz hblk1 hO)
       clear hz hblk1 hzl))
   all_goals
    go_wp2
    go_roundw
    case rel => exact HS.out
    case measure => simp [intOf]; omega
  ·have hkn : k = (dig a).length := by omega
   have hval : val ps = a * b := by rw [hv, hkn, List.take_length, val_dig, val_dig]
   have hblk2 : Blk wr w.heap.size ps := by
    rw [fill_full (by omega)] at hblk
    exact hblk
   have hcut := cut_any wr _ ((dig a).length + (dig b).length) ps (hblk2.num hpd) (by omega) (by omega)
   rw [hpl, hkn, hval] at hcut
   have HCUT := lh hcut
   have HBW := lh hbw
   clear hcut hval hblk2 hblk hbw hv hpl hkn
   go_wp2_with fail
   refine HCUT.out.mono ?_
   rintro e w' ⟨A2, c2, rfl, hc2, ha2, rfl⟩
   go_wp2
   go_ret
   exact ⟨A2, c2, rfl, hc2, ha2, HBW.out⟩
end

section
open Go.RowKit
theorem B64_pow : B64 = 2 ^ 64 := by rw [B64_eq]
theorem B64_split {s : Nat} (hs : s ≤ 64) : B64 = 2 ^ (64 - s) * 2 ^ s := by rw [B64_pow, ← Nat.pow_add]; congr 1; omega
theorem lo_shl {x s : Nat} (hs : s ≤ 64) : lo (x * 2 ^ s) = 2 ^ s * (x % 2 ^ (64 - s)) := by
 unfold lo
 rw [B64_split hs, Nat.mul_mod_mul_right, Nat.mul_comm]
theorem hi_shl {x s : Nat} (hs : s ≤ 64) : hi (x * 2 ^ s) = x / 2 ^ (64 - s) := by
 unfold hi
 rw [B64_split hs, Nat.mul_div_mul_right _ _ (Nat.pow_pos (by omega))]
theorem shr_lt {y s : Nat} (hy : y < B64) (hs : s ≤ 64) : y / 2 ^ (64 - s) < 2 ^ s := by
 refine Nat.div_lt_of_lt_mul ?_
 rw [← B64_split hs]; exact hy
theorem u64_wrap_nat (n : Nat) : IntKind.u64.wrap (n : Int) = ((lo n : Nat) : Int) := by
 rw [IntKind.wrap_u64]
 unfold lo
 rw [B64_eq]
 omega
theorem raise_or {x y s : Nat} (hy : y < B64) (hs : s ≤ 64) :
  bits BinOp.or IntKind.u64 (IntKind.u64.wrap ((x : Int) * 2 ^ s)) ((y : Int) / 2 ^ (64 - s)) = ((lo (x * 2 ^ s) + hi (y * 2 ^ s) : Nat) : Int) := by
 have e1 : (x : Int) * 2 ^ s = ((x * 2 ^ s : Nat) : Int) := by push_cast; rfl
 have e2 : (y : Int) / 2 ^ (64 - s) = ((y / 2 ^ (64 - s) : Nat) : Int) := by push_cast; rfl
 have hlt := shr_lt hy hs
 rw [e1, e2, u64_wrap_nat, u64_or_nat _ _ (lo_lt _) (Nat.lt_of_le_of_lt (Nat.div_le_self _ _) hy), hi_shl hs, lo_shl hs, Nat.two_pow_add_eq_or_of_lt hlt]
theorem lower_or {x y s : Nat} (hx : x < B64) (hs : s ≤ 64) :
  bits BinOp.or IntKind.u64 ((x : Int) / 2 ^ s) (IntKind.u64.wrap ((y : Int) * 2 ^ (64 - s))) = ((x / 2 ^ s + lo (y * 2 ^ (64 - s)) : Nat) : Int) := by
 have e1 : (y : Int) * 2 ^ (64 - s) = ((y * 2 ^ (64 - s) : Nat) : Int) := by push_cast; rfl
 have e2 : (x : Int) / 2 ^ s = ((x / 2 ^ s : Nat) : Int) := by push_cast; rfl
 have hlt := shr_lt hx (show 64 - s ≤ 64 by omega)
 rw [show 64 - (64 - s) = s by omega] at hlt
 rw [e1, e2, u64_wrap_nat, u64_or_nat _ _ (Nat.lt_of_le_of_lt (Nat.div_le_self _ _) hx) (lo_lt _), lo_shl (show 64 - s ≤ 64 by omega), Nat.or_comm, ← Nat.two_pow_add_eq_or_of_lt hlt, Nat.add_comm]
def rc (X : List Nat) (s k : Nat) : Nat := if k = 0 then 0 else hi (dg X (k - 1) * 2 ^ s)
theorem rc_zero (X : List Nat) (s : Nat) : rc X s 0 = 0 := rfl
theorem rc_succ (X : List Nat) (s k : Nat) : rc X s (k + 1) = hi (dg X k * 2 ^ s) := by unfold rc; rw [if_neg (by omega)]; rfl
theorem rc_lt {X : List Nat} (hX : Digs X) {s : Nat} (hs : s ≤ 64) (k : Nat) : rc X s k < 2 ^ s := by
 unfold rc
 split
 ·exact Nat.pow_pos (by omega)
 ·rw [hi_shl hs]; exact shr_lt (dg_lt hX _) hs
theorem raise_digit_lt {X : List Nat} (hX : Digs X) {s : Nat} (hs : s ≤ 64) (k : Nat) : lo (dg X k * 2 ^ s) + rc X s k < B64 := by
 have h1 := rc_lt hX hs k
 rw [lo_shl hs, B64_split hs]
 have h2 : dg X k % 2 ^ (64 - s) < 2 ^ (64 - s) := Nat.mod_lt _ (Nat.pow_pos (by omega))
 have h3 : 2 ^ s * (dg X k % 2 ^ (64 - s)) + 2 ^ s ≤ 2 ^ s * 2 ^ (64 - s) := by
  rw [← Nat.mul_succ]; exact Nat.mul_le_mul_left _ h2
 rw [Nat.mul_comm (2 ^ (64 - s))]
 omega
theorem raise_round {v p c s x q l h : Nat} (hv : v + p * c = s * q) (hl : l + B64 * h = x * q) : v + p * (l + c) + p * B64 * h = (s + p * x) * q := by
 have e : p * l + p * (B64 * h) = p * (x * q) := by rw [← Nat.mul_add, hl]
 rw [Nat.mul_add, mS, Nat.add_mul, mS p x q]
 omega
theorem digit_z (w : World) (p : Nat) (A : Option Addr) (c i : Nat) (z : Int) (hz : z = (i : Int)) (xs : List Nat) (h : Num w A xs) (hn : xs.length ≤ 1099511627776)
  (hp : w.cell? ⟨p, 0, none⟩ = some (.slice A xs.length c)) :
  Calls Tryz.prog 221 #[.int .i64 z, .pointer (some ⟨p, 0, none⟩)] w fun e w' => e = .returned (.int .u64 ((dg xs i : Nat) : Int)) ∧ w = w' := by
 subst hz
 exact digit_any w p A c i xs h hn hp
structure RaiseRel (w wr : World) (g off n s : Nat) (cs X : List Nat) (A : Option Addr) (c : Nat) (i : Value) : Prop where
 ex : ∃ (k : Nat) (zs : List Nat), k ≤ n ∧ i = .int .i64 k ∧ zs.length = k ∧ Digs zs ∧ val zs + B64 ^ k * rc X s k = val (X.take k) * 2 ^ s ∧ Blk wr g (mid cs off zs)
 cap : wr.cell? ⟨w.heap.size, 0, none⟩ = some (.slice A X.length c)
 own : w.grownBy wr (some g)
 num : Num wr A X
theorem grown_set {a w : World} {g : Nat} (h : a.grownBy w (some g)) (i : Nat) (u : Value) : a.grownBy (w.setCell ⟨g, i, none⟩ u) (some g) :=
 ⟨h.os, h.tape, h.output, by simpa [World.setCell] using h.size, fun j hj hne => (Below.heap_setCell w _ u j (by rintro rfl; exact hne rfl)).trans (h.block j hj hne)⟩
theorem grown_drewN {a w : World} {row : Option Nat} (h : a.grownBy w row) (n : Nat) : a.grownBy (w.drewN n) row := ⟨h.os, h.tape, h.output, h.size, h.block⟩
theorem Num.set_far {w : World} {A : Option Addr} {xs : List Nat} (h : Num w A xs) {g i : Nat} {u : Value} (hne : 0 < xs.length → ∀ p, A = some p → p.block ≠ g) : Num (w.setCell ⟨g, i, none⟩ u) A xs :=
 ⟨h.1, fun hn => by
  obtain ⟨b, off, e, hlt, hc⟩ := h.2 hn
  have hb : b ≠ g := hne (List.length_pos_iff.2 hn) _ e
  exact ⟨b, off, e, by simpa [World.setCell] using hlt, fun j hj => (World.cell?_setCell_other w _ _ _ (by intro e2; injection e2 with e3; exact hb e3.symm)).trans (hc j hj)⟩⟩
theorem raise_step {w wr : World} {g off n s k c : Nat} {cs X zs : List Nat} {A : Option Addr} (hlt : k < n) (hs : s ≤ 64) (hoff : off + n ≤ cs.length) (hg : g < w.heap.size)
  (hzl : zs.length = k) (hzd : Digs zs) (hv : val zs + B64 ^ k * rc X s k = val (X.take k) * 2 ^ s) (hblk : Blk wr g (mid cs off zs)) (hcap : wr.cell? ⟨w.heap.size, 0, none⟩ = some (.slice A X.length c))
  (hown : w.grownBy wr (some g)) (hnum : Num wr A X) (hne : 0 < X.length → ∀ p, A = some p → p.block ≠ g) :
  RaiseRel w (wr.setCell ⟨g, off + k, none⟩ (.int .u64 ((lo (dg X k * 2 ^ s) + rc X s k : Nat) : Int))) g off n s cs X A c (.int .i64 ((k : Int) + 1)) := by
 refine ⟨⟨k + 1, zs ++ [lo (dg X k * 2 ^ s) + rc X s k], by omega, by simp, by simp [hzl], hzd.snoc (raise_digit_lt hnum.1 hs k), ?_, ?_⟩, ?_, grown_set hown _ _, hnum.set_far hne⟩
 ·rw [val_take_dg, val_snoc, Nat.pow_succ, hzl, rc_succ]
  exact raise_round hv (lo_hi _)
 ·have h := hblk.set_ (off + k) (lo (dg X k * 2 ^ s) + rc X s k)
  have hs := mid_set (cs := cs) (zs := zs) (off := off) (by omega) (lo (dg X k * 2 ^ s) + rc X s k)
  rw [hzl] at hs
  rwa [hs] at h
 ·exact (World.cell?_setCell_other wr _ _ _ (by intro e; injection e with e1; omega)).trans hcap
structure RaisePost (w : World) (g off n s : Nat) (cs X : List Nat) (e : Ending) (w' : World) : Prop where
 ret : e = .returned (.tuple #[])
 ex : ∃ zs : List Nat, zs.length = n ∧ Digs zs ∧ val zs + B64 ^ n * rc X s n = val (X.take n) * 2 ^ s ∧ Blk w' g (mid cs off zs)
 own : w.grownBy w' (some g)
set_option maxHeartbeats 1000000 in
theorem raise_any (w : World) (g off n capO s c : Nat) (cs X : List Nat) (A : Option Addr) (hblk : Blk w g cs) (hoff : off + n ≤ cs.length) (hA : Num w A X)
  (hne : 0 < X.length → ∀ p, A = some p → p.block ≠ g) (hs : s ≤ 63) (hn : n ≤ 1099511627776) (hX : X.length ≤ 1099511627776) :
  Calls Tryz.prog 251 #[.slice (some ⟨g, off, none⟩) n capO, .slice A X.length c, .int .u64 s] w (RaisePost w g off n s cs X) := by
 have HNE := lh hne
 have HNUM := lh hA
 have HBLK0 := lh hblk
 have hg := hblk.lt
 have hw64 : IntKind.u64.wrap (64 - (s : Int)) = 64 - (s : Int) := by rw [IntKind.wrap_u64]; omega
 have hs64 : s ≤ 64 := by omega
 clear hA hblk hne
 go_enter Tryz.func251, Tryz.ntmps251
 go_wp2_with fail
 refine (digitOf_any _ _ _ _).mono ?_
 rintro e w' ⟨rfl, rfl⟩
 go_wp2_with fail
 go_loopw [12] (fun i wr => RaiseRel w wr g off n s cs X A c i) (fun i _ => n - (intOf i).toNat)
 case atStart =>
  exact ⟨⟨0, [], Nat.zero_le _, rfl, rfl, Digs.nil, by simp [val_nil, rc_zero], by rw [mid_nil]; exact HBLK0.out.alloc _⟩, cell_of_one (heap_alloc_new w _), World.grownBy_alloc _ _ _, HNUM.out.alloc _⟩
 case round =>
  obtain ⟨⟨k, zs, hk, rfl, hzl, hzd, hv, hblk⟩, hcap, hown, hnum⟩ := hrel
  by_cases hlt : k < n
  ·have hlt' : (k : Int) < (n : Int) := by omega
   have ho : (wr.cell? ⟨g, off + k, none⟩) = some (.int .u64 ((dg cs (off + k) : Nat) : Int)) := by
    rw [hblk.cell (by rw [mid_length (by omega)]; omega), dg_mid_above (by omega) (by omega)]
   have hf : wr.frozen? ⟨g, off + k, none⟩ = false := hblk.frozen _
   have HS := lh (raise_step hlt hs64 hoff hg hzl hzd hv hblk hcap hown hnum HNE.out)
   have HD1 := lh (digit_any wr w.heap.size A c k X hnum (by omega) hcap)
   have HXD := lh hnum.1
   rcases Nat.lt_or_ge k 1 with hk0 | hk0
   ·have HU : Hid (bits BinOp.or IntKind.u64 (IntKind.u64.wrap (((dg X k : Nat) : Int) * 2 ^ s)) 0 = ((lo (dg X k * 2 ^ s) + rc X s k : Nat) : Int)) := by
     have h := raise_or (x := dg X k) (y := 0) B64_pos hs64
     rw [Nat.zero_mul, hi_of_lt B64_pos, Int.natCast_zero, Int.zero_ediv] at h
     unfold rc
     rw [if_pos (by omega)]
     exact h
    clear hblk hv hzl hcap hown hnum
    go_wp2_with fail
    refine HD1.out.mono ?_
    rintro e w' ⟨rfl, rfl⟩
    go_wp2_with fail
    refine (digit_neg _ _ _ (by omega)).mono ?_
    rintro e w' ⟨rfl, rfl⟩
    go_wp2_with fail
    go_roundw
    case rel => rw [HU.out]; exact HS.out
    case measure => simp [intOf]; omega
   ·have HD2 := lh (digit_z wr w.heap.size A c (k - 1) ((k : Int) - 1) (by omega) X hnum (by omega) hcap)
    have HU : Hid (bits BinOp.or IntKind.u64 (IntKind.u64.wrap (((dg X k : Nat) : Int) * 2 ^ s)) (((dg X (k - 1) : Nat) : Int) / 2 ^ (64 - s)) = ((lo (dg X k * 2 ^ s) + rc X s k : Nat) : Int)) := by
     rw [raise_or (dg_lt hnum.1 _) hs64]
     unfold rc
     rw [if_neg (by omega)]
     exact rfl
    clear hblk hv hzl hcap hown hnum
    go_wp2_with fail
    refine HD1.out.mono ?_
    rintro e w' ⟨rfl, rfl⟩
    go_wp2_with fail
    refine HD2.out.mono ?_
    rintro e w' ⟨rfl, rfl⟩
    go_wp2_with fail
    go_roundw
    case rel => rw [HU.out]; exact HS.out
    case measure => simp [intOf]; omega
  ·have hkn : k = n := by omega
   have HE : Hid (RaisePost w g off n s cs X (.returned (.tuple #[])) wr) := by
    subst hkn
    exact ⟨rfl, ⟨zs, hzl, hzd, hv, hblk⟩, hown⟩
   clear hblk hv hzl hkn hcap hown hnum
   go_wp2
   go_end0
   exact HE.out
