/- Part 5 of the proof: Lower. -/
import Derived.Test.YthjiacmhhpfokaaGreatL4
namespace Go.Proofs.YthjiacmhhpfokaaGreat
open Go.Proofs.Tryz renaming prog → tz
open Nat renaming mul_comm → mC, mul_assoc → mS
section
open Lib renaming hid → lh
set_option maxHeartbeats 1000000
open Go.RowKit
def Src (w : World) (g off : Nat) (cs : List Nat) (A : Option Addr) (X : List Nat) : Prop :=
 Digs X ∧ ∀ wr zs, w.grownBy wr (some g) → Blk wr g (mid cs off zs) → off + zs.length ≤ cs.length → ∀ i, zs.length ≤ i → i < X.length →
  ∃ b o, A = some ⟨b, o, none⟩ ∧ wr.cell? ⟨b, o + i, none⟩ = some (.int .u64 ((dg X i : Nat) : Int))
theorem Src.self {w : World} {g off n : Nat} {cs : List Nat} (hcs : Digs cs) : Src w g off cs (some ⟨g, off, none⟩) ((cs.drop off).take n) :=
 ⟨(hcs.drop _).take _, fun wr zs _ hb hl i h1 h2 => by
  rw [List.length_take, List.length_drop] at h2
  refine ⟨g, off, rfl, ?_⟩
  rw [hb.cell (by rw [mid_length hl]; omega), dg_mid_above (by omega) (by omega), dg_slice (by omega)]⟩
theorem digit_cell (w : World) (p b o n c i : Nat) (x : Nat) (hi : i < n) (hp : w.cell? ⟨p, 0, none⟩ = some (.slice (some ⟨b, o, none⟩) n c))
  (hcell : w.cell? ⟨b, o + i, none⟩ = some (.int .u64 (x : Int))) :
  Calls tz 221 #[.int .i64 i, .pointer (some ⟨p, 0, none⟩)] w fun e w' => e = .returned (.int .u64 (x : Int)) ∧ w = w' := by
 have hlt : (i : Int) < (n : Int) := by omega
 go_enter Tryz.func221, Tryz.ntmps221
 go_wp2
 go_ret
 exact ⟨rfl, rfl⟩
theorem digit_src {w wr : World} {g off p c i : Nat} {z : Int} {cs X zs : List Nat} {A : Option Addr} (hS : Src w g off cs A X) (hO : w.grownBy wr (some g)) (hblk : Blk wr g (mid cs off zs)) (hl : off + zs.length ≤ cs.length)
  (hz : z = (i : Int)) (hi : zs.length ≤ i) (hp : wr.cell? ⟨p, 0, none⟩ = some (.slice A X.length c)) :
  Calls tz 221 #[.int .i64 z, .pointer (some ⟨p, 0, none⟩)] wr fun e w' => e = .returned (.int .u64 ((dg X i : Nat) : Int)) ∧ wr = w' := by
 subst hz
 by_cases h : i < X.length
 ·obtain ⟨b, o, rfl, hc⟩ := hS.2 wr zs hO hblk hl i hi h
  exact digit_cell wr p b o X.length c i _ h hp hc
 ·refine (digit_out wr p A X.length c i hp (by omega)).mono ?_
  rintro e w' ⟨rfl, rfl⟩
  rw [dg_of_ge (by omega)]
  exact ⟨rfl, rfl⟩
theorem lower_digit {x y s : Nat} (hs : s ≤ 64) : (x / 2 ^ s + lo (y * 2 ^ (64 - s))) * 2 ^ s + x % 2 ^ s = x + B64 * (y % 2 ^ s) := by
 rw [lo_shl (show 64 - s ≤ 64 by omega), show 64 - (64 - s) = s by omega, B64_split hs, Nat.add_mul, mS, mS]
 have h1 := Nat.div_add_mod x (2 ^ s)
 rw [mC (2 ^ s) (x / 2 ^ s)] at h1
 rw [mC (2 ^ s) (y % 2 ^ s)]
 omega
theorem lower_digit_lt {x y s : Nat} (hx : x < B64) (hs : s ≤ 64) : x / 2 ^ s + lo (y * 2 ^ (64 - s)) < B64 := by
 have h1 := shr_lt hx (show 64 - s ≤ 64 by omega)
 rw [show 64 - (64 - s) = s by omega] at h1
 have h2 : y % 2 ^ s < 2 ^ s := Nat.mod_lt _ (Nat.pow_pos (by omega))
 rw [lo_shl (show 64 - s ≤ 64 by omega), show 64 - (64 - s) = s by omega, B64_split hs]
 have h3 : 2 ^ (64 - s) * (y % 2 ^ s) + 2 ^ (64 - s) ≤ 2 ^ (64 - s) * 2 ^ s := by
  rw [← Nat.mul_succ]; exact Nat.mul_le_mul_left _ h2
 omega
theorem lower_round {v q r s p x d y t : Nat} (hv : v * q + r = s + p * t) (hd : d * q + t = x + B64 * y) : (v + p * d) * q + r = s + p * x + p * B64 * y := by
 have e : p * (d * q) + p * t = p * x + p * (B64 * y) := by rw [← Nat.mul_add, hd, Nat.mul_add]
 rw [Nat.add_mul, mS p d q, mS p B64 y]
 omega
structure LowerRel (w wr : World) (g off s : Nat) (cs X : List Nat) (A : Option Addr) (c : Nat) (i : Value) : Prop where
 ex : ∃ (k : Nat) (zs : List Nat), k ≤ X.length ∧ i = .int .i64 k ∧ zs.length = k ∧ Digs zs ∧ val zs * 2 ^ s + dg X 0 % 2 ^ s = val (X.take k) + B64 ^ k * (dg X k % 2 ^ s) ∧ Blk wr g (mid cs off zs)
 cap : wr.cell? ⟨w.heap.size, 0, none⟩ = some (.slice A X.length c)
 own : w.grownBy wr (some g)
theorem lower_step {w wr : World} {g off s k c : Nat} {cs X zs : List Nat} {A : Option Addr} (hX : Digs X) (hlt : k < X.length) (hs : s ≤ 64) (hoff : off + X.length ≤ cs.length) (hg : g < w.heap.size)
  (hzl : zs.length = k) (hzd : Digs zs) (hv : val zs * 2 ^ s + dg X 0 % 2 ^ s = val (X.take k) + B64 ^ k * (dg X k % 2 ^ s)) (hblk : Blk wr g (mid cs off zs)) (hcap : wr.cell? ⟨w.heap.size, 0, none⟩ = some (.slice A X.length c))
  (hown : w.grownBy wr (some g)) :
  LowerRel w (wr.setCell ⟨g, off + k, none⟩ (.int .u64 ((dg X k / 2 ^ s + lo (dg X (k + 1) * 2 ^ (64 - s)) : Nat) : Int))) g off s cs X A c (.int .i64 ((k : Int) + 1)) := by
 refine ⟨⟨k + 1, zs ++ [dg X k / 2 ^ s + lo (dg X (k + 1) * 2 ^ (64 - s))], by omega, by simp, by simp [hzl], hzd.snoc (lower_digit_lt (dg_lt hX k) hs), ?_, ?_⟩, ?_, grown_set hown _ _⟩
 ·rw [val_take_dg, val_snoc, Nat.pow_succ, hzl]
  exact lower_round hv (lower_digit hs)
 ·have h := hblk.set_ (off + k) (dg X k / 2 ^ s + lo (dg X (k + 1) * 2 ^ (64 - s)))
  have hs := mid_set (cs := cs) (zs := zs) (off := off) (by omega) (dg X k / 2 ^ s + lo (dg X (k + 1) * 2 ^ (64 - s)))
  rw [hzl] at hs
  rwa [hs] at h
 ·exact (World.cell?_setCell_other wr _ _ _ (by intro e; injection e with e1; omega)).trans hcap
structure LowerPost (w : World) (g off s : Nat) (cs X : List Nat) (e : Ending) (w' : World) : Prop where
 ret : e = .returned (.tuple #[])
 ex : ∃ zs : List Nat, zs.length = X.length ∧ Digs zs ∧ val zs = val X / 2 ^ s ∧ Blk w' g (mid cs off zs)
 own : w.grownBy w' (some g)
theorem lower_any (w : World) (g off capO s c : Nat) (cs X : List Nat) (A : Option Addr) (hblk : Blk w g cs) (hoff : off + X.length ≤ cs.length) (hA : Src w g off cs A X)
  (hs : s ≤ 63) (hX : X.length ≤ 1099511627776) :
  Calls tz 253 #[.slice (some ⟨g, off, none⟩) X.length capO, .slice A X.length c, .int .u64 s] w (LowerPost w g off s cs X) := by
 have HS0 := lh hA
 have HBLK0 := lh hblk
 have hg := hblk.lt
 have hw64 : IntKind.u64.wrap (64 - (s : Int)) = 64 - (s : Int) := by rw [IntKind.wrap_u64]; omega
 have hs64 : s ≤ 64 := by omega
 clear hA hblk
 go_enter Tryz.func253, Tryz.ntmps253
 go_wp2_with fail
 refine (digitOf_any _ _ _ _).mono ?_
 rintro e w' ⟨rfl, rfl⟩
 go_wp2_with fail
 go_loopw [12] (fun i wr => LowerRel w wr g off s cs X A c i) (fun i _ => X.length - (intOf i).toNat)
 case atStart =>
  exact ⟨⟨0, [], Nat.zero_le _, rfl, rfl, Digs.nil, by simp [val_nil], by rw [mid_nil]; exact HBLK0.out.alloc _⟩, cell_of_one (heap_alloc_new w _), World.grownBy_alloc _ _ _⟩
 case round =>
  obtain ⟨⟨k, zs, hk, rfl, hzl, hzd, hv, hblk⟩, hcap, hown⟩ := hrel
  by_cases hlt : k < X.length
  ·have hlt' : (k : Int) < (X.length : Int) := by omega
   have ho : (wr.cell? ⟨g, off + k, none⟩) = some (.int .u64 ((dg cs (off + k) : Nat) : Int)) := by
    rw [hblk.cell (by rw [mid_length (by omega)]; omega), dg_mid_above (by omega) (by omega)]
   have hf : wr.frozen? ⟨g, off + k, none⟩ = false := hblk.frozen _
   have HS := lh (lower_step HS0.out.1 hlt hs64 hoff hg hzl hzd hv hblk hcap hown)
   have HD1 := lh (digit_src (z := (k : Int)) (i := k) HS0.out hown hblk (by omega) rfl (by omega) hcap)
   have HD2 := lh (digit_src (z := (k : Int) + 1) (i := k + 1) HS0.out hown hblk (by omega) (by omega) (by omega) hcap)
   have HU : Hid (bits BinOp.or IntKind.u64 (((dg X k : Nat) : Int) / 2 ^ s) (IntKind.u64.wrap (((dg X (k + 1) : Nat) : Int) * 2 ^ (64 - s))) = ((dg X k / 2 ^ s + lo (dg X (k + 1) * 2 ^ (64 - s)) : Nat) : Int)) := lower_or (dg_lt HS0.out.1 _) hs64
   clear hblk hv hzl hcap hown
   go_wp2_with fail
   refine HD1.out.mono ?_
   rintro e w' ⟨rfl, rfl⟩
   go_wp2_with fail
   refine HD2.out.mono ?_
   rintro e w' ⟨rfl, rfl⟩
   go_wp2_with fail
   go_roundw
   case rel => rw [HU.out]; exact HS.out
   case measure => simp [intOf]; omega
  ·have hkn : k = X.length := by omega
   have HE : Hid (LowerPost w g off s cs X (.returned (.tuple #[])) wr) := by
    refine ⟨rfl, ⟨zs, by omega, hzd, ?_, hblk⟩, hown⟩
    rw [hkn, dg_of_ge (Nat.le_refl _), List.take_length, Nat.zero_mod, Nat.mul_zero, Nat.add_zero] at hv
    rw [← hv, mC, Nat.mul_add_div (Nat.pow_pos (by omega)), Nat.div_eq_of_lt (Nat.mod_lt _ (Nat.pow_pos (by omega))), Nat.add_zero]
   clear hblk hv hzl hkn hcap hown
   go_wp2
   go_end0
   exact HE.out
theorem Num.ne {w : World} {A : Option Addr} {xs : List Nat} (h : Num w A xs) {g : Nat} (hg : w.heap.size ≤ g) : 0 < xs.length → ∀ p, A = some p → p.block ≠ g := by
 intro hp p e
 obtain ⟨b, o, e2, hlt, _⟩ := h.at_ hp
 rw [e] at e2
 injection e2 with e3
 rw [e3]
 exact Nat.ne_of_lt (Nat.lt_of_lt_of_le hlt hg)
theorem raise_whole {X zs : List Nat} {s n : Nat} (hn : n = X.length + 1) (hv : val zs + B64 ^ n * rc X s n = val (X.take n) * 2 ^ s) : val zs = val X * 2 ^ s := by
 subst hn
 rw [rc_succ, dg_of_ge (Nat.le_refl _), Nat.zero_mul, hi_of_lt B64_pos, Nat.mul_zero, Nat.add_zero, List.take_of_length_le (by omega)] at hv
 exact hv
def blen (n : Nat) : Nat := if n = 0 then 0 else Nat.log2 n + 1
theorem blen_lt (n : Nat) : n < 2 ^ blen n := by
 unfold blen
 split
 ·omega
 ·exact (Nat.log2_lt (by assumption)).1 (Nat.lt_succ_self _)
theorem blen_le {n k : Nat} (h : k < blen n) : 2 ^ k ≤ n := by
 unfold blen at h
 split at h
 ·omega
 ·rename_i h0
  exact (Nat.le_log2 h0).1 (by omega)
theorem blen_unique {n k : Nat} (h : n < 2 ^ k) (h' : ∀ j, j + 1 = k → 2 ^ j ≤ n) : blen n = k := by
 rcases Nat.lt_trichotomy (blen n) k with hlt | heq | hgt
 ·have h1 := h' (k - 1) (by omega)
  have h2 := blen_lt n
  have h3 : 2 ^ blen n ≤ 2 ^ (k - 1) := Nat.pow_le_pow_right (by omega) (by omega)
  omega
 ·exact heq
 ·have := blen_le hgt
  omega
theorem blen_zero : blen 0 = 0 := rfl
theorem blen_le_of_lt {n k : Nat} (h : n < 2 ^ k) : blen n ≤ k := by
 rcases Nat.lt_or_ge k (blen n) with h1 | h1
 ·have := blen_le h1
  omega
 ·exact h1
theorem bitLenAux_spec (f x : Nat) (h : x < 2 ^ f) : x < 2 ^ Lib.bitLenAux f x ∧ ∀ j, j + 1 = Lib.bitLenAux f x → 2 ^ j ≤ x := by
 induction f generalizing x with
 | zero =>
  have : x = 0 := by simpa using h
  subst this
  exact ⟨by simp [Lib.bitLenAux], fun j hj => by simp [Lib.bitLenAux] at hj⟩
 | succ f ih =>
  unfold Lib.bitLenAux
  by_cases h0 : x = 0
  ·rw [if_pos h0]
   exact ⟨by omega, fun j hj => by omega⟩
  ·rw [if_neg h0]
   obtain ⟨h1, h2⟩ := ih (x / 2) (by rw [Nat.pow_succ] at h; omega)
   refine ⟨by rw [Nat.add_comm, Nat.pow_succ]; omega, fun j hj => ?_⟩
   rcases Nat.eq_zero_or_pos j with hj0 | hj0
   ·subst hj0; omega
   ·have := h2 (j - 1) (by omega)
    have e : 2 ^ j = 2 ^ (j - 1) * 2 := by rw [← Nat.pow_succ]; congr 1; omega
    rw [e]; omega
theorem bitLen_eq {x : Nat} (h : x < B64) : Lib.bitLen x = blen x := by
 rw [B64_pow] at h
 obtain ⟨h1, h2⟩ := bitLenAux_spec 64 x h
 exact (blen_unique h1 h2).symm
theorem len64_any (x : Nat) (hx : x < B64) (w : World) : Calls tz 217 #[.int .u64 x] w fun e w' => e = .returned (.int .i64 ((blen x : Nat) : Int)) ∧ w = w' := by
 have h := Tryz.bits_Len64 x w (by omega) (by rw [B64_eq] at hx; omega)
 rw [Int.toNat_natCast, bitLen_eq hx] at h
 exact h.mono fun _ _ ⟨he, hw⟩ => ⟨he, hw.symm⟩
theorem lz64_any (x : Nat) (hx : x < B64) (w : World) : Calls tz 249 #[.int .u64 x] w fun e w' => e = .returned (.int .i64 (64 - ((blen x : Nat) : Int))) ∧ w = w' := by
 have h := Tryz.bits_LeadingZeros64 x w (by omega) (by rw [B64_eq] at hx; omega)
 rw [Int.toNat_natCast, bitLen_eq hx] at h
 exact h.mono fun _ _ ⟨he, hw⟩ => ⟨he, hw.symm⟩
theorem ret_i {k : IntKind} {a b : Int} (h : a = b) : Ending.returned (.int k a) = .returned (.int k b) := by rw [h]
theorem blen_digit {x : Nat} (hx : x < B64) : blen x ≤ 64 := blen_le_of_lt (by rw [← B64_pow]; exact hx)
theorem blen_top {a : Nat} (h : (dig a).length ≠ 0) : blen a = ((dig a).length - 1) * 64 + blen (dg (dig a) ((dig a).length - 1)) := by
 have hx := dg_lt (dig_digs a) ((dig a).length - 1)
 generalize hL : (dig a).length = L at *
 have h1 := val_take_dg (dig a) (L - 1)
 rw [show L - 1 + 1 = L by omega, ← hL, List.take_length, hL, val_dig] at h1
 have h2 := val_lt ((dig_digs a).take (L - 1))
 rw [List.length_take, Nat.min_eq_left (by omega)] at h2
 have hp : B64 ^ (L - 1) = 2 ^ ((L - 1) * 64) := by rw [B64_pow, ← Nat.pow_mul, mC]
 rw [hp] at h1 h2
 generalize dg (dig a) (L - 1) = x at *
 have hx0 : x ≠ 0 := by
  rintro rfl
  have h3 := pow_le_of_dig (n := a) (k := L - 1) (by omega)
  rw [hp] at h3
  omega
 have h4 := blen_lt x
 refine blen_unique ?_ ?_
 ·rw [Nat.pow_add]
  have h5 : 2 ^ ((L - 1) * 64) * x + 2 ^ ((L - 1) * 64) ≤ 2 ^ ((L - 1) * 64) * 2 ^ blen x := by
   rw [← Nat.mul_succ]; exact Nat.mul_le_mul_left _ h4
  omega
 ·intro j hj
  have h6 : blen x ≠ 0 := by
   intro e
   rw [e] at h4
   omega
  have h5 := blen_le (n := x) (k := blen x - 1) (by omega)
  have h7 : 2 ^ j = 2 ^ ((L - 1) * 64) * 2 ^ (blen x - 1) := by rw [← Nat.pow_add]; congr 1; omega
  have h8 : 2 ^ ((L - 1) * 64) * 2 ^ (blen x - 1) ≤ 2 ^ ((L - 1) * 64) * x := Nat.mul_le_mul_left _ h5
  omega
theorem bits_any (w : World) (A : Option Addr) (c : Nat) (xs : List Nat) (ha : Num w A xs) (hn : xs.length ≤ 8589934592) (hc : xs.length ≤ c) :
  Calls tz 198 #[.slice A xs.length c] w fun e w' => e = .returned (.int .i64 ((blen (val xs) : Nat) : Int)) ∧ w = w' := by
 have C1 := lh (cut_any w A c xs ha (by omega) hc)
 have hl1 := dig_length_val ha.1
 clear ha
 generalize val xs = a at *
 by_cases h1 : (dig a).length = 0
 ·have h1' : (((dig a).length : Int) == 0) = true := by rw [h1]; rfl
  have HV : Hid (a = 0) := dig_nil_iff.1 h1
  clear h1
  go_enter Tryz.func198, Tryz.ntmps198
  go_wp2_with fail
  refine C1.out.mono ?_
  rintro e w' ⟨A', c', rfl, hc', -, rfl⟩
  clear C1
  go_wp2
  go_ret
  rw [HV.out]
  exact ⟨rfl, rfl⟩
 ·have h1' : (((dig a).length : Int) == 0) = false := by rw [beq_eq_false_iff_ne]; omega
  have hpos : 1 ≤ (dig a).length := by omega
  go_enter Tryz.func198, Tryz.ntmps198
  go_wp2_with fail
  refine C1.out.mono ?_
  rintro e w' ⟨A', c', rfl, hc', ha', rfl⟩
  obtain ⟨b1, o1, rfl, hb1, hcell⟩ := ha'.at_ (by omega)
  have hx := hcell ((dig a).length - 1) (by omega)
  have hd := dg_lt (dig_digs a) ((dig a).length - 1)
  have hb64 := blen_digit hd
  have HV := lh (blen_top h1)
  have HL := lh (len64_any _ hd w)
  clear C1 ha' hcell hd
  go_wp2_with fail
  refine HL.out.mono ?_
  rintro e w' ⟨rfl, rfl⟩
  go_wp2
  go_ret
  rw [HV.out]
  exact ⟨ret_i (by push_cast; omega), rfl⟩
