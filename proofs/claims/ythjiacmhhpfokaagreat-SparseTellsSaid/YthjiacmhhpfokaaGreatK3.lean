/- Part 3 of the proof: Lower, Div64, Div64b. -/
import Derived.Test.YthjiacmhhpfokaaGreatK2
import Derived.Deep.DeepCutAuto
import Derived.Deep.LoopGhost
import Derived.Deep.CutBlock
namespace Go.Proofs.YthjiacmhhpfokaaGreat
open Lib renaming hid → lh
open Go.Proofs.Tryz renaming prog → tz
open Nat renaming mul_add → mA, mul_comm → mC, mul_assoc → mS
section
set_option maxHeartbeats 1000000
open Go.RowKit
def Src (w : World) (g off : Nat) (cs : List Nat) (A : Option Addr) (X : List Nat) : Prop :=
 Digs X ∧ ∀ wr zs, w.grownBy wr (some g) → Blk wr g (mid cs off zs) → off + zs.length ≤ cs.length → ∀ i, zs.length ≤ i → i < X.length →
  ∃ b o, A = some ⟨b, o, none⟩ ∧ wr.cell? ⟨b, o + i, none⟩ = some (.int .u64 ((dg X i : Nat) : Int))
theorem Src.self {w : World} {g off n : Nat} {cs : List Nat} (hcs : Digs cs) : Src w g off cs (some ⟨g, off, none⟩) ((cs.drop off).take n) :=
 ⟨(hcs.drop _).take _, fun wr zs _ hb hl i h1 h2 => by
  rw [List.length_take, List.length_drop] at h2
  refine ⟨g, off, rfl, ?_⟩
  rw [hb.cell (by rw [mid_length hl]; omega), dg_mid_above (by omega) (by omega), dg_slice (by omega)]⟩
theorem digit_cell (w : World) (p b o n c i : Nat) (x : Nat) (hi : i < n) (hp : w.cell? ⟨p, 0, none⟩ = some (.slice (some ⟨b, o, none⟩) n c))
  (hcell : w.cell? ⟨b, o + i, none⟩ = some (.int .u64 (x : Int))) :
  Calls tz 221 #[.int .i64 i, .pointer (some ⟨p, 0, none⟩)] w fun e w' => e = .returned (.int .u64 (x : Int)) ∧ w = w' := by
 have hlt : (i : Int) < (n : Int) := by omega
 go_enter Tryz.func221, Tryz.ntmps221
 go_wp2
 go_ret
 exact ⟨rfl, rfl⟩
theorem digit_src {w wr : World} {g off p c i : Nat} {z : Int} {cs X zs : List Nat} {A : Option Addr} (hS : Src w g off cs A X) (hO : w.grownBy wr (some g)) (hblk : Blk wr g (mid cs off zs)) (hl : off + zs.length ≤ cs.length)
  (hz : z = (i : Int)) (hi : zs.length ≤ i) (hp : wr.cell? ⟨p, 0, none⟩ = some (.slice A X.length c)) :
  Calls tz 221 #[.int .i64 z, .pointer (some ⟨p, 0, none⟩)] wr fun e w' => e = .returned (.int .u64 ((dg X i : Nat) : Int)) ∧ wr = w' := by
 subst hz
 by_cases h : i < X.length
 ·obtain ⟨b, o, rfl, hc⟩ := hS.2 wr zs hO hblk hl i hi h
  exact digit_cell wr p b o X.length c i _ h hp hc
 ·refine (digit_out wr p A X.length c i hp (by omega)).mono ?_
  rintro e w' ⟨rfl, rfl⟩
  rw [dg_of_ge (by omega)]
  exact ⟨rfl, rfl⟩
theorem lower_digit {x y s : Nat} (hs : s ≤ 64) : (x / 2 ^ s + lo (y * 2 ^ (64 - s))) * 2 ^ s + x % 2 ^ s = x + B64 * (y % 2 ^ s) := by
 rw [lo_shl (show 64 - s ≤ 64 by omega), show 64 - (64 - s) = s by omega, B64_split hs, Nat.add_mul, mS, mS]
 have h1 := Nat.div_add_mod x (2 ^ s)
 rw [mC (2 ^ s) (x / 2 ^ s)] at h1
 rw [mC (2 ^ s) (y % 2 ^ s)]
 omega
theorem lower_digit_lt {x y s : Nat} (hx : x < B64) (hs : s ≤ 64) : x / 2 ^ s + lo (y * 2 ^ (64 - s)) < B64 := by
 have h1 := shr_lt hx (show 64 - s ≤ 64 by omega)
 rw [show 64 - (64 - s) = s by omega] at h1
 have h2 : y % 2 ^ s < 2 ^ s := Nat.mod_lt _ (Nat.pow_pos (by omega))
 rw [lo_shl (show 64 - s ≤ 64 by omega), show 64 - (64 - s) = s by omega, B64_split hs]
 have h3 : 2 ^ (64 - s) * (y % 2 ^ s) + 2 ^ (64 - s) ≤ 2 ^ (64 - s) * 2 ^ s := by
  rw [← Nat.mul_succ]; exact Nat.mul_le_mul_left _ h2
 omega
theorem lower_round {v q r s p x d y t : Nat} (hv : v * q + r = s + p * t) (hd : d * q + t = x + B64 * y) : (v + p * d) * q + r = s + p * x + p * B64 * y := by
 have e : p * (d * q) + p * t = p * x + p * (B64 * y) := by rw [← mA, hd, mA]
 rw [Nat.add_mul, mS p d q, mS p B64 y]
 omega
structure LowerRel (w wr : World) (g off s : Nat) (cs X : List Nat) (A : Option Addr) (c : Nat) (i : Value) : Prop where
 ex : ∃ (k : Nat) (zs : List Nat), k ≤ X.length ∧ i = .int .i64 k ∧ zs.length = k ∧ Digs zs ∧ val zs * 2 ^ s + dg X 0 % 2 ^ s = val (X.take k) + B64 ^ k * (dg X k % 2 ^ s) ∧ Blk wr g (mid cs off zs)
 cap : wr.cell? ⟨w.heap.size, 0, none⟩ = some (.slice A X.length c)
 own : w.grownBy wr (some g)
theorem lower_step {w wr : World} {g off s k c : Nat} {cs X zs : List Nat} {A : Option Addr} (hX : Digs X) (hlt : k < X.length) (hs : s ≤ 64) (hoff : off + X.length ≤ cs.length) (hg : g < w.heap.size)
  (hzl : zs.length = k) (hzd : Digs zs) (hv : val zs * 2 ^ s + dg X 0 % 2 ^ s = val (X.take k) + B64 ^ k * (dg X k % 2 ^ s)) (hblk : Blk wr g (mid cs off zs)) (hcap : wr.cell? ⟨w.heap.size, 0, none⟩ = some (.slice A X.length c))
  (hown : w.grownBy wr (some g)) :
  LowerRel w (wr.setCell ⟨g, off + k, none⟩ (.int .u64 ((dg X k / 2 ^ s + lo (dg X (k + 1) * 2 ^ (64 - s)) : Nat) : Int))) g off s cs X A c (.int .i64 ((k : Int) + 1)) := by
 refine ⟨⟨k + 1, zs ++ [dg X k / 2 ^ s + lo (dg X (k + 1) * 2 ^ (64 - s))], by omega, by simp, by simp [hzl], hzd.snoc (lower_digit_lt (dg_lt hX k) hs), ?_, ?_⟩, ?_, grown_set hown _ _⟩
 ·rw [val_take_dg, val_snoc, Nat.pow_succ, hzl]
  exact lower_round hv (lower_digit hs)
 ·have h := hblk.set_ (off + k) (dg X k / 2 ^ s + lo (dg X (k + 1) * 2 ^ (64 - s)))
  have hs := mid_set (cs := cs) (zs := zs) (off := off) (by omega) (dg X k / 2 ^ s + lo (dg X (k + 1) * 2 ^ (64 - s)))
  rw [hzl] at hs
  rwa [hs] at h
 ·exact (World.cell?_setCell_other wr _ _ _ (by intro e; injection e with e1; omega)).trans hcap
structure LowerPost (w : World) (g off s : Nat) (cs X : List Nat) (e : Ending) (w' : World) : Prop where
 ret : e = .returned (.tuple #[])
 ex : ∃ zs : List Nat, zs.length = X.length ∧ Digs zs ∧ val zs = val X / 2 ^ s ∧ Blk w' g (mid cs off zs)
 own : w.grownBy w' (some g)
theorem lower_any (w : World) (g off capO s c : Nat) (cs X : List Nat) (A : Option Addr) (hblk : Blk w g cs) (hoff : off + X.length ≤ cs.length) (hA : Src w g off cs A X)
  (hs : s ≤ 63) (hX : X.length ≤ 1099511627776) :
  Calls tz 253 #[.slice (some ⟨g, off, none⟩) X.length capO, .slice A X.length c, .int .u64 s] w (LowerPost w g off s cs X) := by
 have HS0 := lh hA
 have HBLK0 := lh hblk
 have hg := hblk.lt
 have hw64 : IntKind.u64.wrap (64 - (s : Int)) = 64 - (s : Int) := by rw [IntKind.wrap_u64]; omega
 have hs64 : s ≤ 64 := by omega
 clear hA hblk
 go_enter Tryz.func253, Tryz.ntmps253
 go_wp2_with fail
 refine (digitOf_any _ _ _ _).mono ?_
 rintro e w' ⟨rfl, rfl⟩
 go_wp2_with fail
 go_loopw [12] (fun i wr => LowerRel w wr g off s cs X A c i) (fun i _ => X.length - (intOf i).toNat)
 case atStart =>
  exact ⟨⟨0, [], Nat.zero_le _, rfl, rfl, Digs.nil, by simp [val_nil], by rw [mid_nil]; exact HBLK0.out.alloc _⟩, cell_of_one (heap_alloc_new w _), World.grownBy_alloc _ _ _⟩
 case round =>
  obtain ⟨⟨k, zs, hk, rfl, hzl, hzd, hv, hblk⟩, hcap, hown⟩ := hrel
  by_cases hlt : k < X.length
  ·have hlt' : (k : Int) < (X.length : Int) := by omega
   have ho : (wr.cell? ⟨g, off + k, none⟩) = some (.int .u64 ((dg cs (off + k) : Nat) : Int)) := by
    rw [hblk.cell (by rw [mid_length (by omega)]; omega), dg_mid_above (by omega) (by omega)]
   have hf : wr.frozen? ⟨g, off + k, none⟩ = false := hblk.frozen _
   have HS := lh (lower_step HS0.out.1 hlt hs64 hoff hg hzl hzd hv hblk hcap hown)
   have HD1 := lh (digit_src (z := (k : Int)) (i := k) HS0.out hown hblk (by omega) rfl (by omega) hcap)
   have HD2 := lh (digit_src (z := (k : Int) + 1) (i := k + 1) HS0.out hown hblk (by omega) (by omega) (by omega) hcap)
   have HU : Hid (bits BinOp.or IntKind.u64 (((dg X k : Nat) : Int) / 2 ^ s) (IntKind.u64.wrap (((dg X (k + 1) : Nat) : Int) * 2 ^ (64 - s))) = ((dg X k / 2 ^ s + lo (dg X (k + 1) * 2 ^ (64 - s)) : Nat) : Int)) := lower_or (dg_lt HS0.out.1 _) hs64
   clear hblk hv hzl hcap hown
   go_wp2_with fail
   refine HD1.out.mono ?_
   rintro e w' ⟨rfl, rfl⟩
   go_wp2_with fail
   refine HD2.out.mono ?_
   rintro e w' ⟨rfl, rfl⟩
   go_wp2_with fail
   go_roundw
   case rel => rw [HU.out]; exact HS.out
   case measure => simp [intOf]; omega
  ·have hkn : k = X.length := by omega
   have HE : Hid (LowerPost w g off s cs X (.returned (.tuple #[])) wr) := by
    refine ⟨rfl, ⟨zs, by omega, hzd, ?_, hblk⟩, hown⟩
    rw [hkn, dg_of_ge (Nat.le_refl _), List.take_length, Nat.zero_mod, Nat.mul_zero, Nat.add_zero] at hv
    rw [← hv, mC, Nat.mul_add_div (Nat.pow_pos (by omega)), Nat.div_eq_of_lt (Nat.mod_lt _ (Nat.pow_pos (by omega))), Nat.add_zero]
   clear hblk hv hzl hkn hcap hown
   go_wp2
   go_end0
   exact HE.out
theorem Num.ne {w : World} {A : Option Addr} {xs : List Nat} (h : Num w A xs) {g : Nat} (hg : w.heap.size ≤ g) : 0 < xs.length → ∀ p, A = some p → p.block ≠ g := by
 intro hp p e
 obtain ⟨b, o, e2, hlt, _⟩ := h.at_ hp
 rw [e] at e2
 injection e2 with e3
 rw [e3]
 exact Nat.ne_of_lt (Nat.lt_of_lt_of_le hlt hg)
theorem raise_whole {X zs : List Nat} {s n : Nat} (hn : n = X.length + 1) (hv : val zs + B64 ^ n * rc X s n = val (X.take n) * 2 ^ s) : val zs = val X * 2 ^ s := by
 subst hn
 rw [rc_succ, dg_of_ge (Nat.le_refl _), Nat.zero_mul, hi_of_lt B64_pos, Nat.mul_zero, Nat.add_zero, List.take_of_length_le (by omega)] at hv
 exact hv
def shlv (a : Nat) (z : Int) : Nat := if z < 1 then a else if 1048576 < z then 0 else a * 2 ^ z.toNat
def blen (n : Nat) : Nat := if n = 0 then 0 else Nat.log2 n + 1
theorem blen_lt (n : Nat) : n < 2 ^ blen n := by
 unfold blen
 split
 ·omega
 ·exact (Nat.log2_lt (by assumption)).1 (Nat.lt_succ_self _)
theorem blen_le {n k : Nat} (h : k < blen n) : 2 ^ k ≤ n := by
 unfold blen at h
 split at h
 ·omega
 ·rename_i h0
  exact (Nat.le_log2 h0).1 (by omega)
theorem blen_unique {n k : Nat} (h : n < 2 ^ k) (h' : ∀ j, j + 1 = k → 2 ^ j ≤ n) : blen n = k := by
 rcases Nat.lt_trichotomy (blen n) k with hlt | heq | hgt
 ·have h1 := h' (k - 1) (by omega)
  have h2 := blen_lt n
  have h3 : 2 ^ blen n ≤ 2 ^ (k - 1) := Nat.pow_le_pow_right (by omega) (by omega)
  omega
 ·exact heq
 ·have := blen_le hgt
  omega
theorem blen_zero : blen 0 = 0 := rfl
theorem blen_le_of_lt {n k : Nat} (h : n < 2 ^ k) : blen n ≤ k := by
 rcases Nat.lt_or_ge k (blen n) with h1 | h1
 ·have := blen_le h1
  omega
 ·exact h1
theorem bitLenAux_spec (f x : Nat) (h : x < 2 ^ f) : x < 2 ^ Lib.bitLenAux f x ∧ ∀ j, j + 1 = Lib.bitLenAux f x → 2 ^ j ≤ x := by
 induction f generalizing x with
 | zero =>
  have : x = 0 := by simpa using h
  subst this
  exact ⟨by simp [Lib.bitLenAux], fun j hj => by simp [Lib.bitLenAux] at hj⟩
 | succ f ih =>
  unfold Lib.bitLenAux
  by_cases h0 : x = 0
  ·rw [if_pos h0]
   exact ⟨by omega, fun j hj => by omega⟩
  ·rw [if_neg h0]
   obtain ⟨h1, h2⟩ := ih (x / 2) (by rw [Nat.pow_succ] at h; omega)
   refine ⟨by rw [Nat.add_comm, Nat.pow_succ]; omega, fun j hj => ?_⟩
   rcases Nat.eq_zero_or_pos j with hj0 | hj0
   ·subst hj0; omega
   ·have := h2 (j - 1) (by omega)
    have e : 2 ^ j = 2 ^ (j - 1) * 2 := by rw [← Nat.pow_succ]; congr 1; omega
    rw [e]; omega
theorem bitLen_eq {x : Nat} (h : x < B64) : Lib.bitLen x = blen x := by
 rw [B64_pow] at h
 obtain ⟨h1, h2⟩ := bitLenAux_spec 64 x h
 exact (blen_unique h1 h2).symm
theorem len64_any (x : Nat) (hx : x < B64) (w : World) : Calls tz 217 #[.int .u64 x] w fun e w' => e = .returned (.int .i64 ((blen x : Nat) : Int)) ∧ w = w' := by
 have h := Tryz.bits_Len64 x w (by omega) (by rw [B64_eq] at hx; omega)
 rw [Int.toNat_natCast, bitLen_eq hx] at h
 exact h.mono fun _ _ ⟨he, hw⟩ => ⟨he, hw.symm⟩
theorem lz64_any (x : Nat) (hx : x < B64) (w : World) : Calls tz 249 #[.int .u64 x] w fun e w' => e = .returned (.int .i64 (64 - ((blen x : Nat) : Int))) ∧ w = w' := by
 have h := Tryz.bits_LeadingZeros64 x w (by omega) (by rw [B64_eq] at hx; omega)
 rw [Int.toNat_natCast, bitLen_eq hx] at h
 exact h.mono fun _ _ ⟨he, hw⟩ => ⟨he, hw.symm⟩
theorem ret_i {k : IntKind} {a b : Int} (h : a = b) : Ending.returned (.int k a) = .returned (.int k b) := by rw [h]
theorem blen_digit {x : Nat} (hx : x < B64) : blen x ≤ 64 := blen_le_of_lt (by rw [← B64_pow]; exact hx)
theorem blen_top {a : Nat} (h : (dig a).length ≠ 0) : blen a = ((dig a).length - 1) * 64 + blen (dg (dig a) ((dig a).length - 1)) := by
 have hx := dg_lt (dig_digs a) ((dig a).length - 1)
 generalize hL : (dig a).length = L at *
 have h1 := val_take_dg (dig a) (L - 1)
 rw [show L - 1 + 1 = L by omega, ← hL, List.take_length, hL, val_dig] at h1
 have h2 := val_lt ((dig_digs a).take (L - 1))
 rw [List.length_take, Nat.min_eq_left (by omega)] at h2
 have hp : B64 ^ (L - 1) = 2 ^ ((L - 1) * 64) := by rw [B64_pow, ← Nat.pow_mul, mC]
 rw [hp] at h1 h2
 generalize dg (dig a) (L - 1) = x at *
 have hx0 : x ≠ 0 := by
  rintro rfl
  have h3 := pow_le_of_dig (n := a) (k := L - 1) (by omega)
  rw [hp] at h3
  omega
 have h4 := blen_lt x
 refine blen_unique ?_ ?_
 ·rw [Nat.pow_add]
  have h5 : 2 ^ ((L - 1) * 64) * x + 2 ^ ((L - 1) * 64) ≤ 2 ^ ((L - 1) * 64) * 2 ^ blen x := by
   rw [← Nat.mul_succ]; exact Nat.mul_le_mul_left _ h4
  omega
 ·intro j hj
  have h6 : blen x ≠ 0 := by
   intro e
   rw [e] at h4
   omega
  have h5 := blen_le (n := x) (k := blen x - 1) (by omega)
  have h7 : 2 ^ j = 2 ^ ((L - 1) * 64) * 2 ^ (blen x - 1) := by rw [← Nat.pow_add]; congr 1; omega
  have h8 : 2 ^ ((L - 1) * 64) * 2 ^ (blen x - 1) ≤ 2 ^ ((L - 1) * 64) * x := Nat.mul_le_mul_left _ h5
  omega
theorem bits_any (w : World) (A : Option Addr) (c : Nat) (xs : List Nat) (ha : Num w A xs) (hn : xs.length ≤ 8589934592) (hc : xs.length ≤ c) :
  Calls tz 198 #[.slice A xs.length c] w fun e w' => e = .returned (.int .i64 ((blen (val xs) : Nat) : Int)) ∧ w = w' := by
 have C1 := lh (cut_any w A c xs ha (by omega) hc)
 have hl1 := dig_length_val ha.1
 clear ha
 generalize val xs = a at *
 by_cases h1 : (dig a).length = 0
 ·have h1' : (((dig a).length : Int) == 0) = true := by rw [h1]; rfl
  have HV : Hid (a = 0) := dig_nil_iff.1 h1
  clear h1
  go_enter Tryz.func198, Tryz.ntmps198
  go_wp2_with fail
  refine C1.out.mono ?_
  rintro e w' ⟨A', c', rfl, hc', -, rfl⟩
  clear C1
  go_wp2
  go_ret
  rw [HV.out]
  exact ⟨rfl, rfl⟩
 ·have h1' : (((dig a).length : Int) == 0) = false := by rw [beq_eq_false_iff_ne]; omega
  have hpos : 1 ≤ (dig a).length := by omega
  go_enter Tryz.func198, Tryz.ntmps198
  go_wp2_with fail
  refine C1.out.mono ?_
  rintro e w' ⟨A', c', rfl, hc', ha', rfl⟩
  obtain ⟨b1, o1, rfl, hb1, hcell⟩ := ha'.at_ (by omega)
  have hx := hcell ((dig a).length - 1) (by omega)
  have hd := dg_lt (dig_digs a) ((dig a).length - 1)
  have hb64 := blen_digit hd
  have HV := lh (blen_top h1)
  have HL := lh (len64_any _ hd w)
  clear C1 ha' hcell hd
  go_wp2_with fail
  refine HL.out.mono ?_
  rintro e w' ⟨rfl, rfl⟩
  go_wp2
  go_ret
  rw [HV.out]
  exact ⟨ret_i (by push_cast; omega), rfl⟩
end

section
set_option maxHeartbeats 4000000
open Go.RowKit
structure Half (Y yn1 yn0 U32 u1 : Nat) : Prop where
 y : Y = yn1 * 4294967296 + yn0
 h0 : yn0 < 4294967296
 h1 : 2147483648 ≤ yn1
 h2 : yn1 < 4294967296
 u : U32 < Y
 u1 : u1 < 4294967296
structure HalfRel (Y yn1 yn0 U32 u1 q r : Nat) : Prop where
 e : q * yn1 + r = U32
 ge : (U32 * 4294967296 + u1) / Y ≤ q
 le : q ≤ 4294967297
 r : r < 4294967296
section
variable {Y yn1 yn0 U32 u1 q r : Nat}
theorem Half.pos (h : Half Y yn1 yn0 U32 u1) : 0 < Y := by have := h.y; have := h.h1; omega
theorem Half.lt (h : Half Y yn1 yn0 U32 u1) : (U32 * 4294967296 + u1) / Y < 4294967296 := by
 refine Nat.div_lt_of_lt_mul ?_
 have h1 := h.u
 have h2 := h.u1
 omega
theorem half_start (h : Half Y yn1 yn0 U32 u1) : HalfRel Y yn1 yn0 U32 u1 (U32 / yn1) (U32 % yn1) := by
 have h1 := h.h1
 have h2 := h.h2
 have hm := Nat.mod_lt U32 (show yn1 > 0 by omega)
 refine ⟨Nat.div_add_mod' _ _, ?_, ?_, by omega⟩
 ·rw [Nat.le_div_iff_mul_le (by omega)]
  have h3 := Nat.div_mul_le_self (U32 * 4294967296 + u1) Y
  generalize (U32 * 4294967296 + u1) / Y = Q at *
  have h4 : Q * Y = Q * yn1 * 4294967296 + Q * yn0 := by rw [h.y, mA, mS]
  have := h.u1
  omega
 ·have h3 : U32 / yn1 < 4294967298 := by
   refine Nat.div_lt_of_lt_mul ?_
   have := h.u
   have := h.y
   have := h.h0
   omega
  omega
theorem half_next (h : Half Y yn1 yn0 U32 u1) (k : HalfRel Y yn1 yn0 U32 u1 q r) (hq : (U32 * 4294967296 + u1) / Y < q) :
  1 ≤ q ∧ r + yn1 < 8589934592 ∧ (r + yn1 < 4294967296 → HalfRel Y yn1 yn0 U32 u1 (q - 1) (r + yn1)) ∧ (4294967296 ≤ r + yn1 → q - 1 = (U32 * 4294967296 + u1) / Y) := by
 have e1 := k.e
 have h2 := h.h2
 have hr := k.r
 have hq1 : 1 ≤ q := Nat.lt_of_le_of_lt (Nat.zero_le _) hq
 have hq2 : (U32 * 4294967296 + u1) / Y ≤ q - 1 := Nat.le_sub_one_of_lt hq
 have e2 : (q - 1) * yn1 + (r + yn1) = U32 := by
  have : q * yn1 = (q - 1) * yn1 + yn1 := by rw [← Nat.succ_mul]; congr 1; omega
  omega
 refine ⟨hq1, by omega, fun hlt => ⟨e2, hq2, by have := k.le; omega, hlt⟩, fun hge => ?_⟩
 refine Nat.le_antisymm ?_ hq2
 rw [Nat.le_div_iff_mul_le h.pos, h.y, mA, ← mS]
 have h3 : (q - 1) * yn0 ≤ 4294967296 * 4294967295 := Nat.mul_le_mul (by have := k.le; omega) (by have := h.h0; omega)
 omega
theorem half_big (h : Half Y yn1 yn0 U32 u1) (hq : 4294967296 ≤ q) : (U32 * 4294967296 + u1) / Y < q := Nat.lt_of_lt_of_le h.lt hq
theorem half_gt (h : Half Y yn1 yn0 U32 u1) (k : HalfRel Y yn1 yn0 U32 u1 q r) (hq : 4294967296 * r + u1 < q * yn0) : (U32 * 4294967296 + u1) / Y < q := by
 refine (Nat.div_lt_iff_lt_mul h.pos).2 ?_
 have h4 : q * Y = q * yn1 * 4294967296 + q * yn0 := by rw [h.y, mA, mS]
 have := k.e
 omega
theorem half_done (h : Half Y yn1 yn0 U32 u1) (k : HalfRel Y yn1 yn0 U32 u1 q r) (hq : q * yn0 ≤ 4294967296 * r + u1) : q = (U32 * 4294967296 + u1) / Y := by
 refine Nat.le_antisymm ?_ k.ge
 rw [Nat.le_div_iff_mul_le h.pos]
 have h4 : q * Y = q * yn1 * 4294967296 + q * yn0 := by rw [h.y, mA, mS]
 have := k.e
 omega
end
theorem halves {y s hiw low Y N U32 un1 un0 q1 U21 q0 : Nat} (hY : Y = y * 2 ^ s) (hN : N = (hiw * B64 + low) * 2 ^ s) (hU : N = (U32 * 4294967296 + un1) * 4294967296 + un0)
  (hy : 0 < y) (hq1 : q1 = (U32 * 4294967296 + un1) / Y) (hU21 : U21 = (U32 * 4294967296 + un1) % Y) (hq0 : q0 = (U21 * 4294967296 + un0) / Y) :
  q1 * 4294967296 + q0 = (hiw * B64 + low) / y ∧ ((U21 * 4294967296 + un0) % Y) / 2 ^ s = (hiw * B64 + low) % y := by
 have hp : 0 < 2 ^ s := Nat.pow_pos (by omega)
 have hYp : 0 < Y := by rw [hY]; exact Nat.mul_pos hy hp
 have e1 : (hiw * B64 + low) / y = N / Y := by rw [hN, hY, Nat.mul_div_mul_right _ _ hp]
 have e2 : (hiw * B64 + low) % y = N % Y / 2 ^ s := by rw [hN, hY, Nat.mul_mod_mul_right, Nat.mul_div_cancel _ hp]
 have h3 := Nat.div_add_mod (U32 * 4294967296 + un1) Y
 have h4 := Nat.div_add_mod (U21 * 4294967296 + un0) Y
 rw [← hq1, ← hU21] at h3
 rw [← hq0] at h4
 have h5 : N = Y * (q1 * 4294967296 + q0) + (U21 * 4294967296 + un0) % Y := by
  have e : Y * (q1 * 4294967296 + q0) = Y * q1 * 4294967296 + Y * q0 := by rw [mA, mS]
  rw [e, hU]
  omega
 have h6 : (U21 * 4294967296 + un0) % Y < Y := Nat.mod_lt _ hYp
 rw [e1, e2]
 clear hU h3 h4 hN hq1 hU21 hq0 e1 e2
 generalize (U21 * 4294967296 + un0) % Y = R at h5 h6 ⊢
 generalize q1 * 4294967296 + q0 = Q at h5 ⊢
 subst h5
 refine ⟨?_, ?_⟩
 ·rw [Nat.mul_add_div hYp, Nat.div_eq_of_lt h6, Nat.add_zero]
 ·rw [Nat.mul_add_mod, Nat.mod_eq_of_lt h6]
def RetDiv (w : World) (q r : Nat) (e : Ending) (w' : World) : Prop := e = .returned (.tuple #[.int .u64 ((q : Nat) : Int), .int .u64 ((r : Nat) : Int)]) ∧ ∃ k, w' = w.drewN k
theorem div64_zero (low y : Nat) (hl : low < B64) (hy : 0 < y) (w : World) :
  Calls tz 241 #[.int .u64 0, .int .u64 low, .int .u64 y] w (RetDiv w (low / y) (low % y)) := by
 have hy0 : ((y : Int) == 0) = false := by rw [beq_eq_false_iff_ne]; omega
 have hy1 : ¬ ((y : Int) ≤ 0) := by omega
 have hy2 : 1 ≤ (y : Int) := by omega
 have hq : IntKind.u64.wrap ((low : Int) / (y : Int)) = (low : Int) / (y : Int) := u64_small (n := low / y) (Nat.lt_of_le_of_lt (Nat.div_le_self _ _) hl)
 clear hl
 go_enter Tryz.func241, Tryz.ntmps241
 go_wp2_with fail
 go_quiet (fail)
 go_wp2
 go_ret2
 exact ⟨rfl, _, rfl⟩
theorem u64_sub {a b n : Nat} (h : b + n = a) (ha : a < B64) : IntKind.u64.wrap ((a : Int) - (b : Int)) = ((n : Nat) : Int) := by
 have : (a : Int) - (b : Int) = ((n : Nat) : Int) := by omega
 rw [this]
 exact u64_small (by omega)
theorem u64_mul {a b : Nat} (h : a * b < B64) : IntKind.u64.wrap ((a : Int) * (b : Int)) = (a : Int) * (b : Int) := by
 have := u64_small h
 rwa [Int.natCast_mul] at this
theorem u64_add' {a b : Nat} (h : a + b < B64) : IntKind.u64.wrap ((a : Int) + (b : Int)) = (a : Int) + (b : Int) := by
 have := u64_small h
 rwa [Int.natCast_add] at this
theorem div64_core (x low y s Y yn1 yn0 UU u10 u1 un0 qi ri QQ : Nat) (hx0 : 0 < x) (hx : x < y) (hsb : (64 : Int) - ((blen y : Nat) : Int) = (s : Int)) (hs : s ≤ 63) (hy : y < B64)
  (eY : IntKind.u64.wrap ((y : Int) * 2 ^ s) = (Y : Int)) (eyn1 : (Y : Int) / 4294967296 = (yn1 : Int)) (eyn0 : bits BinOp.and IntKind.u64 (Y : Int) 4294967295 = (yn0 : Int))
  (eU : bits BinOp.or IntKind.u64 (IntKind.u64.wrap ((x : Int) * 2 ^ s)) ((low : Int) / 2 ^ (64 - s)) = (UU : Int)) (eu10 : IntKind.u64.wrap ((low : Int) * 2 ^ s) = (u10 : Int))
  (eun1 : (u10 : Int) / 4294967296 = (u1 : Int)) (eun0 : bits BinOp.and IntKind.u64 (u10 : Int) 4294967295 = (un0 : Int)) (hh : Half Y yn1 yn0 UU u1)
  (eq : IntKind.u64.wrap ((UU : Int) / (yn1 : Int)) = (qi : Int)) (eqm : IntKind.u64.wrap ((qi : Int) * (yn1 : Int)) = (qi : Int) * (yn1 : Int)) (eri : IntKind.u64.wrap ((UU : Int) - (qi : Int) * (yn1 : Int)) = (ri : Int))
  (hrel : HalfRel Y yn1 yn0 UU u1 qi ri) (hQQ : QQ = (UU * 4294967296 + u1) / Y)
  (V qj rj Q0 : Nat) (eV : IntKind.u64.wrap (IntKind.u64.wrap (IntKind.u64.wrap ((UU : Int) * 4294967296) + (u1 : Int)) - IntKind.u64.wrap ((QQ : Int) * (Y : Int))) = (V : Int)) (hh2 : Half Y yn1 yn0 V un0)
  (eq2 : IntKind.u64.wrap ((V : Int) / (yn1 : Int)) = (qj : Int)) (eqm2 : IntKind.u64.wrap ((qj : Int) * (yn1 : Int)) = (qj : Int) * (yn1 : Int)) (eri2 : IntKind.u64.wrap ((V : Int) - (qj : Int) * (yn1 : Int)) = (rj : Int))
  (hrel2 : HalfRel Y yn1 yn0 V un0 qj rj) (hQ0 : Q0 = (V * 4294967296 + un0) / Y)
  (eQ : IntKind.u64.wrap (IntKind.u64.wrap ((QQ : Int) * 4294967296) + (Q0 : Int)) = (((x * B64 + low) / y : Nat) : Int))
  (eR : IntKind.u64.wrap (IntKind.u64.wrap (IntKind.u64.wrap ((V : Int) * 4294967296) + (un0 : Int)) - IntKind.u64.wrap ((Q0 : Int) * (Y : Int))) / 2 ^ s = (((x * B64 + low) % y : Nat) : Int)) (w : World) :
  Calls tz 241 #[.int .u64 x, .int .u64 low, .int .u64 y] w (RetDiv w ((x * B64 + low) / y) ((x * B64 + low) % y)) := by
 have hy0 : ((y : Int) == 0) = false := by rw [beq_eq_false_iff_ne]; omega
 have hx1 : ((x : Int) == 0) = false := by rw [beq_eq_false_iff_ne]; omega
 have hy1 : ¬ ((y : Int) ≤ (x : Int)) := by omega
 have hyn : ¬ ((yn1 : Int) = 0) := by have := hh.h1; omega
 have hyn' : 1 ≤ (yn1 : Int) := by have := hh.h1; omega
 have HLZ := lh (lz64_any y hy w)
 rw [hsb] at HLZ
 have HH := lh hh
 have HREL := lh hrel
 have HQQ := lh hQQ
 have HH2 := lh hh2
 have HREL2 := lh hrel2
 have HQ0 := lh hQ0
 have EQ := lh eQ
 have ER := lh eR
 clear hsb hh hrel hQQ hh2 hrel2 hQ0 eQ eR
 go_enter Tryz.func241, Tryz.ntmps241
 go_wp2_with fail
 refine HLZ.out.mono ?_
 rintro e w' ⟨rfl, rfl⟩
 go_upto_block 0 with fail
 go_cut [15, 16] (fun tq tr wx => w = wx ∧ tq = .int .u64 (QQ : Int) ∧ ∃ r0 : Nat, tr = .int .u64 (r0 : Int))
 case first =>
  go_wp2_with fail
  go_loop [15, 16] (fun tq tr => ∃ q r : Nat, tq = .int .u64 (q : Int) ∧ tr = .int .u64 (r : Int) ∧ Hid (HalfRel Y yn1 yn0 UU u1 q r)) (fun tq _ => (intOf tq).toNat)
  case atStart => exact ⟨qi, ri, rfl, rfl, HREL.out⟩
  case round =>
   obtain ⟨q, r, rfl, rfl, hk⟩ := hrel
   have hr := hk.out.r
   have hqle := hk.out.le
   have hyn2 := HH.out.h2
   have hyn0 := HH.out.h0
   have hu1 := HH.out.u1
   by_cases hbig : 4294967296 ≤ q ∨ 4294967296 * r + u1 < q * yn0
   ·have hlt : (UU * 4294967296 + u1) / Y < q := by
     rcases hbig with h | h
     ·exact half_big HH.out h
     ·exact half_gt HH.out hk.out h
    obtain ⟨n1, n2, n3, n4⟩ := half_next HH.out hk.out hlt
    have N3 := lh n3
    have N4 := lh n4
    have eq1 : IntKind.u64.wrap ((q : Int) - 1) = ((q - 1 : Nat) : Int) := by
     have h := u64_small (n := q - 1) (by rw [B64_eq]; omega)
     rwa [show ((q - 1 : Nat) : Int) = (q : Int) - 1 by omega] at h ⊢
    have er1 : IntKind.u64.wrap ((r : Int) + (yn1 : Int)) = (r : Int) + (yn1 : Int) := u64_add' (by rw [B64_eq]; omega)
    clear n3 n4 hlt
    by_cases hq : 4294967296 ≤ q
    ·have t1 : (4294967296 : Int) ≤ (q : Int) := by omega
     clear hbig
     by_cases hb : 4294967296 ≤ r + yn1
     ·have t2 : (4294967296 : Int) ≤ (r : Int) + (yn1 : Int) := by omega
      have HQ := lh (N4.out hb)
      go_wp2_with fail
      go_meet
      refine ⟨rfl, ?_, r + yn1, by go_num⟩
      rw [HQ.out, ← HQQ.out]
     ·have t2 : ¬ (4294967296 : Int) ≤ (r : Int) + (yn1 : Int) := by omega
      have HQ := lh (N3.out (by omega))
      go_wp2_with fail
      go_round
      case rel => exact ⟨q - 1, r + yn1, rfl, by go_num, HQ.out⟩
      case measure => simp [intOf]; omega
    ·have t1 : ¬ (4294967296 : Int) ≤ (q : Int) := by omega
     have hg : 4294967296 * r + u1 < q * yn0 := by
      rcases hbig with h | h
      ·omega
      ·exact h
     have em1 : IntKind.u64.wrap ((q : Int) * (yn0 : Int)) = (q : Int) * (yn0 : Int) := u64_mul (by
      have h1 : q * yn0 ≤ 4294967295 * 4294967295 := Nat.mul_le_mul (by omega) (by omega)
      rw [B64_eq]; omega)
     have em2 : IntKind.u64.wrap (4294967296 * (r : Int)) = 4294967296 * (r : Int) := u64_mul (a := 4294967296) (by rw [B64_eq]; omega)
     have em3 : IntKind.u64.wrap (4294967296 * (r : Int) + (u1 : Int)) = 4294967296 * (r : Int) + (u1 : Int) := u64_add' (a := 4294967296 * r) (by rw [B64_eq]; omega)
     have t3 : 4294967296 * (r : Int) + (u1 : Int) < (q : Int) * (yn0 : Int) := by
      rw [← Int.natCast_mul]; omega
     clear hbig hg
     by_cases hb : 4294967296 ≤ r + yn1
     ·have t2 : (4294967296 : Int) ≤ (r : Int) + (yn1 : Int) := by omega
      have HQ := lh (N4.out hb)
      go_wp2_with fail
      go_meet
      refine ⟨rfl, ?_, r + yn1, by go_num⟩
      rw [HQ.out, ← HQQ.out]
     ·have t2 : ¬ (4294967296 : Int) ≤ (r : Int) + (yn1 : Int) := by omega
      have HQ := lh (N3.out (by omega))
      go_wp2_with fail
      go_round
      case rel => exact ⟨q - 1, r + yn1, rfl, by go_num, HQ.out⟩
      case measure => simp [intOf]; omega
   ·have hq : ¬ 4294967296 ≤ q := fun h => hbig (.inl h)
    have hg : q * yn0 ≤ 4294967296 * r + u1 := Nat.le_of_not_lt fun h => hbig (.inr h)
    have HQ := lh (half_done HH.out hk.out hg)
    have t1 : ¬ (4294967296 : Int) ≤ (q : Int) := by omega
    have em1 : IntKind.u64.wrap ((q : Int) * (yn0 : Int)) = (q : Int) * (yn0 : Int) := u64_mul (by
     have h1 : q * yn0 ≤ 4294967295 * 4294967295 := Nat.mul_le_mul (by omega) (by omega)
     rw [B64_eq]; omega)
    have em2 : IntKind.u64.wrap (4294967296 * (r : Int)) = 4294967296 * (r : Int) := u64_mul (a := 4294967296) (by rw [B64_eq]; omega)
    have em3 : IntKind.u64.wrap (4294967296 * (r : Int) + (u1 : Int)) = 4294967296 * (r : Int) + (u1 : Int) := u64_add' (a := 4294967296 * r) (by rw [B64_eq]; omega)
    have t3 : ¬ 4294967296 * (r : Int) + (u1 : Int) < (q : Int) * (yn0 : Int) := by
     rw [← Int.natCast_mul]; omega
    clear hbig hg
    go_wp2_with fail
    go_meet
    refine ⟨rfl, ?_, r, rfl⟩
    rw [HQ.out, ← HQQ.out]
 case rest =>
  obtain ⟨rfl, rfl, r0, rfl⟩ := hcut
  go_upto_block 2 with fail
  go_cut [18, 16] (fun tq tr wx => w = wx ∧ tq = .int .u64 (Q0 : Int) ∧ ∃ r0 : Nat, tr = .int .u64 (r0 : Int))
  case first =>
   go_wp2_with fail
   go_loop [18, 16] (fun tq tr => ∃ q r : Nat, tq = .int .u64 (q : Int) ∧ tr = .int .u64 (r : Int) ∧ Hid (HalfRel Y yn1 yn0 V un0 q r)) (fun tq _ => (intOf tq).toNat)
   case atStart => exact ⟨qj, rj, rfl, rfl, HREL2.out⟩
   case round =>
    obtain ⟨q, r, rfl, rfl, hk⟩ := hrel
    have hr := hk.out.r
    have hqle := hk.out.le
    have hyn2 := HH2.out.h2
    have hyn0 := HH2.out.h0
    have hun0 := HH2.out.u1
    by_cases hbig : 4294967296 ≤ q ∨ 4294967296 * r + un0 < q * yn0
    ·have hlt : (V * 4294967296 + un0) / Y < q := by
      rcases hbig with h | h
      ·exact half_big HH2.out h
      ·exact half_gt HH2.out hk.out h
     obtain ⟨n1, n2, n3, n4⟩ := half_next HH2.out hk.out hlt
     have N3 := lh n3
     have N4 := lh n4
     have eq1 : IntKind.u64.wrap ((q : Int) - 1) = ((q - 1 : Nat) : Int) := by
      have h := u64_small (n := q - 1) (by rw [B64_eq]; omega)
      rwa [show ((q - 1 : Nat) : Int) = (q : Int) - 1 by omega] at h ⊢
     have er1 : IntKind.u64.wrap ((r : Int) + (yn1 : Int)) = (r : Int) + (yn1 : Int) := u64_add' (by rw [B64_eq]; omega)
     clear n3 n4 hlt
     by_cases hq : 4294967296 ≤ q
     ·have t1 : (4294967296 : Int) ≤ (q : Int) := by omega
      clear hbig
      by_cases hb : 4294967296 ≤ r + yn1
      ·have t2 : (4294967296 : Int) ≤ (r : Int) + (yn1 : Int) := by omega
       have HQ := lh (N4.out hb)
       go_wp2_with fail
       go_meet
       refine ⟨rfl, ?_, r + yn1, by go_num⟩
       rw [HQ.out, ← HQ0.out]
      ·have t2 : ¬ (4294967296 : Int) ≤ (r : Int) + (yn1 : Int) := by omega
       have HQ := lh (N3.out (by omega))
       go_wp2_with fail
       go_round
       case rel => exact ⟨q - 1, r + yn1, rfl, by go_num, HQ.out⟩
       case measure => simp [intOf]; omega
     ·have t1 : ¬ (4294967296 : Int) ≤ (q : Int) := by omega
      have hg : 4294967296 * r + un0 < q * yn0 := by
       rcases hbig with h | h
       ·omega
       ·exact h
      have em1 : IntKind.u64.wrap ((q : Int) * (yn0 : Int)) = (q : Int) * (yn0 : Int) := u64_mul (by
       have h1 : q * yn0 ≤ 4294967295 * 4294967295 := Nat.mul_le_mul (by omega) (by omega)
       rw [B64_eq]; omega)
      have em2 : IntKind.u64.wrap (4294967296 * (r : Int)) = 4294967296 * (r : Int) := u64_mul (a := 4294967296) (by rw [B64_eq]; omega)
      have em3 : IntKind.u64.wrap (4294967296 * (r : Int) + (un0 : Int)) = 4294967296 * (r : Int) + (un0 : Int) := u64_add' (a := 4294967296 * r) (by rw [B64_eq]; omega)
      have t3 : 4294967296 * (r : Int) + (un0 : Int) < (q : Int) * (yn0 : Int) := by
       rw [← Int.natCast_mul]; omega
      clear hbig hg
      by_cases hb : 4294967296 ≤ r + yn1
      ·have t2 : (4294967296 : Int) ≤ (r : Int) + (yn1 : Int) := by omega
       have HQ := lh (N4.out hb)
       go_wp2_with fail
       go_meet
       refine ⟨rfl, ?_, r + yn1, by go_num⟩
       rw [HQ.out, ← HQ0.out]
      ·have t2 : ¬ (4294967296 : Int) ≤ (r : Int) + (yn1 : Int) := by omega
       have HQ := lh (N3.out (by omega))
       go_wp2_with fail
       go_round
       case rel => exact ⟨q - 1, r + yn1, rfl, by go_num, HQ.out⟩
       case measure => simp [intOf]; omega
    ·have hq : ¬ 4294967296 ≤ q := fun h => hbig (.inl h)
     have hg : q * yn0 ≤ 4294967296 * r + un0 := Nat.le_of_not_lt fun h => hbig (.inr h)
     have HQ := lh (half_done HH2.out hk.out hg)
     have t1 : ¬ (4294967296 : Int) ≤ (q : Int) := by omega
     have em1 : IntKind.u64.wrap ((q : Int) * (yn0 : Int)) = (q : Int) * (yn0 : Int) := u64_mul (by
      have h1 : q * yn0 ≤ 4294967295 * 4294967295 := Nat.mul_le_mul (by omega) (by omega)
      rw [B64_eq]; omega)
     have em2 : IntKind.u64.wrap (4294967296 * (r : Int)) = 4294967296 * (r : Int) := u64_mul (a := 4294967296) (by rw [B64_eq]; omega)
     have em3 : IntKind.u64.wrap (4294967296 * (r : Int) + (un0 : Int)) = 4294967296 * (r : Int) + (un0 : Int) := u64_add' (a := 4294967296 * r) (by rw [B64_eq]; omega)
     have t3 : ¬ 4294967296 * (r : Int) + (un0 : Int) < (q : Int) * (yn0 : Int) := by
      rw [← Int.natCast_mul]; omega
     clear hbig hg
     go_wp2_with fail
     go_meet
     refine ⟨rfl, ?_, r, rfl⟩
     rw [HQ.out, ← HQ0.out]
  case rest =>
   obtain ⟨rfl, rfl, r1, rfl⟩ := hcut
   go_wp2_with fail
   go_ret2
   rw [EQ.out, ER.out]
   exact ⟨rfl, 0, rfl⟩
end

section
open Go.RowKit
theorem u64_and_mask (a : Nat) (ha : a < B64) : bits BinOp.and IntKind.u64 (a : Int) 4294967295 = ((a % 4294967296 : Nat) : Int) := by
 have h := u64_and_nat a 4294967295 (by rw [B64_eq] at ha; exact ha) (by omega)
 rw [show a &&& 4294967295 = a % 4294967296 from Nat.and_two_pow_sub_one_eq_mod a 32] at h
 exact h
theorem u64_rest {U u q Y v : Nat} (h : U * 4294967296 + u = q * Y + v) (hv : v < B64) :
  IntKind.u64.wrap (IntKind.u64.wrap (IntKind.u64.wrap ((U : Int) * 4294967296) + (u : Int)) - IntKind.u64.wrap ((q : Int) * (Y : Int))) = (v : Int) := by
 rw [B64_eq] at hv
 simp only [IntKind.wrap_u64]
 have e : ((q * Y : Nat) : Int) = (q : Int) * (Y : Int) := Int.natCast_mul q Y
 rw [← e]
 generalize q * Y = p at *
 omega
theorem u64_quot {q1 q0 q : Nat} (h : q1 * 4294967296 + q0 = q) (hq : q < B64) : IntKind.u64.wrap (IntKind.u64.wrap ((q1 : Int) * 4294967296) + (q0 : Int)) = (q : Int) := by
 rw [B64_eq] at hq
 simp only [IntKind.wrap_u64]
 omega
theorem regroup (U u : Nat) : U * 18446744073709551616 + u = (U * 4294967296 + u / 4294967296) * 4294967296 + u % 4294967296 := by omega
theorem div64_pos (x low y : Nat) (hx0 : 0 < x) (hx : x < y) (hl : low < B64) (hy : y < B64) (w : World) :
  Calls tz 241 #[.int .u64 x, .int .u64 low, .int .u64 y] w (RetDiv w ((x * B64 + low) / y) ((x * B64 + low) % y)) := by
 have hb := blen_digit hy
 have hb1 : 1 ≤ blen y := by
  rcases Nat.eq_zero_or_pos (blen y) with h | h
  ·have := blen_lt y
   rw [h] at this
   omega
  ·exact h
 obtain ⟨s, hs⟩ : ∃ s, s + blen y = 64 := ⟨64 - blen y, by omega⟩
 have hs64 : s ≤ 64 := by omega
 have hY1 : y * 2 ^ s < B64 := by
  have h1 := blen_lt y
  rw [B64_pow, ← hs, Nat.add_comm, Nat.pow_add]
  exact Nat.mul_lt_mul_of_pos_right h1 (Nat.pow_pos (by omega))
 have hY2 : 9223372036854775808 ≤ y * 2 ^ s := by
  have h1 := blen_le (n := y) (k := blen y - 1) (by omega)
  have h2 : 2 ^ (blen y - 1) * 2 ^ s ≤ y * 2 ^ s := Nat.mul_le_mul_right _ h1
  rw [← Nat.pow_add, show blen y - 1 + s = 63 by omega] at h2
  exact h2
 have hYe : y * 2 ^ s / 4294967296 * 4294967296 + y * 2 ^ s % 4294967296 = y * 2 ^ s := Nat.div_add_mod' _ _
 have hxs : x * 2 ^ s < y * 2 ^ s := Nat.mul_lt_mul_of_pos_right hx (Nat.pow_pos (by omega))
 have hlo : lo (x * 2 ^ s) = x * 2 ^ s := lo_of_lt (by omega)
 have hlh := lo_hi (low * 2 ^ s)
 have hN : (x * B64 + low) * 2 ^ s = (x * 2 ^ s + hi (low * 2 ^ s)) * B64 + lo (low * 2 ^ s) := by
  have e : x * B64 * 2 ^ s = x * 2 ^ s * B64 := Nat.mul_right_comm _ _ _
  have e2 : hi (low * 2 ^ s) * B64 = B64 * hi (low * 2 ^ s) := mC _ _
  rw [Nat.add_mul, Nat.add_mul, e, e2]
  omega
 have hUY : x * 2 ^ s + hi (low * 2 ^ s) < y * 2 ^ s := by
  have h1 : (x * B64 + low) * 2 ^ s < y * B64 * 2 ^ s := Nat.mul_lt_mul_of_pos_right (by
   have : (x + 1) * B64 ≤ y * B64 := Nat.mul_le_mul_right _ hx
   rw [Nat.succ_mul] at this
   omega) (Nat.pow_pos (by omega))
  rw [hN, Nat.mul_right_comm] at h1
  have h2 := lo_lt (low * 2 ^ s)
  refine Nat.lt_of_mul_lt_mul_right (a := B64) ?_
  omega
 generalize hY : y * 2 ^ s = Y at *
 generalize hU : x * 2 ^ s + hi (low * 2 ^ s) = U at *
 have hu := lo_lt (low * 2 ^ s)
 generalize hu10 : lo (low * 2 ^ s) = u10 at *
 have B := B64_eq
 have ey1 : ((Y : Int)) / 4294967296 = ((Y / 4294967296 : Nat) : Int) := by omega
 have ey0 := u64_and_mask Y hY1
 have eu1 : ((u10 : Int)) / 4294967296 = ((u10 / 4294967296 : Nat) : Int) := by omega
 have eu0 := u64_and_mask u10 hu
 have hq3 : Y / 4294967296 < 4294967296 := by omega
 have hq4 : 2147483648 ≤ Y / 4294967296 := by omega
 have hq5 : Y % 4294967296 < 4294967296 := by omega
 have hq6 : u10 / 4294967296 < 4294967296 := by omega
 have hq7 : u10 % 4294967296 < 4294967296 := by omega
 have hrg := regroup U u10
 rewrite [← B] at hrg
 generalize hy1 : Y / 4294967296 = y1 at *
 generalize hy0 : Y % 4294967296 = y0 at *
 generalize hu1 : u10 / 4294967296 = u1 at *
 generalize hu0 : u10 % 4294967296 = u0 at *
 have hh1 : Half Y y1 y0 U u1 := ⟨hYe.symm, hq5, hq4, hq3, hUY, hq6⟩
 have hr1 := half_start hh1
 have hd1 := Nat.div_add_mod (U * 4294967296 + u1) Y
 have hv1 := Nat.mod_lt (U * 4294967296 + u1) hh1.pos
 have hq1 := hh1.lt
 generalize hQ1 : (U * 4294967296 + u1) / Y = Q1 at *
 generalize hV : (U * 4294967296 + u1) % Y = V at *
 have hh2 : Half Y y1 y0 V u0 := ⟨hYe.symm, hq5, hq4, hq3, hv1, hq7⟩
 have hr2 := half_start hh2
 obtain ⟨Q0, hQ0⟩ : ∃ Q0, Q0 = (V * 4294967296 + u0) / Y := ⟨_, rfl⟩
 obtain ⟨R, hR⟩ : ∃ R, R = (V * 4294967296 + u0) % Y := ⟨_, rfl⟩
 have hd2 : Y * Q0 + R = V * 4294967296 + u0 := by rewrite [hQ0, hR]; exact Nat.div_add_mod _ _
 have hv2 : R < Y := by rewrite [hR]; exact Nat.mod_lt _ hh1.pos
 obtain ⟨g1, g2⟩ := halves (y := y) (s := s) (hiw := x) (low := low) (Y := Y) (N := (x * B64 + low) * 2 ^ s) (U32 := U) (un1 := u1) (un0 := u0) (q1 := Q1) (U21 := V) (q0 := Q0)
  hY.symm rfl (hN.trans hrg) (Nat.lt_of_le_of_lt (Nat.zero_le _) hx) hQ1.symm hV.symm hQ0
 rewrite [← hR] at g2
 have hquo : (x * B64 + low) / y < B64 := by
  refine Nat.div_lt_of_lt_mul ?_
  have : (x + 1) * B64 ≤ y * B64 := Nat.mul_le_mul_right _ hx
  rewrite [Nat.succ_mul] at this
  omega
 have f1 := Nat.div_add_mod' U y1
 have f2 := Nat.div_add_mod' V y1
 have hU64 : U < B64 := Nat.lt_trans hUY hY1
 have hV64 : V < B64 := Nat.lt_trans hv1 hY1
 have hR64 : R < B64 := Nat.lt_trans hv2 hY1
 have a1 : IntKind.u64.wrap ((U : Int) / (y1 : Int)) = ((U / y1 : Nat) : Int) := u64_small (n := U / y1) (Nat.lt_of_le_of_lt (Nat.div_le_self _ _) hU64)
 have a2 : IntKind.u64.wrap ((V : Int) / (y1 : Int)) = ((V / y1 : Nat) : Int) := u64_small (n := V / y1) (Nat.lt_of_le_of_lt (Nat.div_le_self _ _) hV64)
 have a3 := u64_mul (a := U / y1) (b := y1) (Nat.lt_of_le_of_lt (Nat.div_mul_le_self _ _) hU64)
 have a4 := u64_mul (a := V / y1) (b := y1) (Nat.lt_of_le_of_lt (Nat.div_mul_le_self _ _) hV64)
 have a5 : IntKind.u64.wrap ((U : Int) - ((U / y1 : Nat) : Int) * (y1 : Int)) = ((U % y1 : Nat) : Int) := by
  rewrite [← Int.natCast_mul]; exact u64_sub f1 hU64
 have a6 : IntKind.u64.wrap ((V : Int) - ((V / y1 : Nat) : Int) * (y1 : Int)) = ((V % y1 : Nat) : Int) := by
  rewrite [← Int.natCast_mul]; exact u64_sub f2 hV64
 have a7 := u64_rest (U := U) (u := u1) (q := Q1) (Y := Y) (v := V) (by rewrite [mC Q1 Y]; exact hd1.symm) hV64
 have a8 := u64_rest (U := V) (u := u0) (q := Q0) (Y := Y) (v := R) (by rewrite [mC Q0 Y]; exact hd2.symm) hR64
 have a9 : IntKind.u64.wrap ((y : Int) * 2 ^ s) = (Y : Int) := by
  have := u64_small (n := y * 2 ^ s) (by rw [hY]; exact hY1)
  rewrite [Int.natCast_mul] at this
  have e : ((2 ^ s : Nat) : Int) = (2 : Int) ^ s := by push_cast; rfl
  rewrite [e] at this
  rewrite [this, ← hY, Int.natCast_mul, e]
  rfl
 have a10 : IntKind.u64.wrap ((low : Int) * 2 ^ s) = (u10 : Int) := by
  have := u64_wrap_nat (low * 2 ^ s)
  rewrite [hu10, Int.natCast_mul] at this
  have e : ((2 ^ s : Nat) : Int) = (2 : Int) ^ s := by push_cast; rfl
  rewrite [e] at this
  exact this
 have a11 := raise_or (x := x) (y := low) hl hs64
 rewrite [hlo, hU] at a11
 have a12 : IntKind.u64.wrap (IntKind.u64.wrap (IntKind.u64.wrap ((V : Int) * 4294967296) + (u0 : Int)) - IntKind.u64.wrap ((Q0 : Int) * (Y : Int))) / 2 ^ s = (((x * B64 + low) % y : Nat) : Int) := by
  rewrite [a8, ← g2]
  have e : ((2 ^ s : Nat) : Int) = (2 : Int) ^ s := by push_cast; rfl
  rewrite [Int.natCast_ediv, e]
  rfl
 exact div64_core x low y s Y y1 y0 U u10 u1 u0 (U / y1) (U % y1) Q1 hx0 hx (by omega) (by omega) hy a9 ey1 ey0 a11 a10 eu1 eu0 hh1 a1 a3 a5 hr1 hQ1.symm V (V / y1) (V % y1) Q0 a7 hh2 a2 a4 a6 hr2 hQ0 (u64_quot g1 hquo) a12 w
theorem div64_any (x low y : Nat) (hx : x < y) (hl : low < B64) (hy : y < B64) (w : World) :
  Calls tz 241 #[.int .u64 x, .int .u64 low, .int .u64 y] w (RetDiv w ((x * B64 + low) / y) ((x * B64 + low) % y)) := by
 rcases Nat.eq_zero_or_pos x with h0 | h0
 ·subst h0
  rw [Nat.zero_mul, Nat.zero_add]
  exact div64_zero low y hl hx w
 ·exact div64_pos x low y h0 hx hl hy w
