/- Shifts of limbs, down and up. -/
import Derived.Test.YtmbnlhedbedcdaaGreatShift
namespace Go.Proofs.YtmbnlhedbedcdaaGreat
open Go.RowKit

/-- The digits X at A read as they do while cells of block g from off on are laid one by one, the least first. -/
def Src (w : World) (g off : Nat) (cs : List Nat) (A : Option Addr) (X : List Nat) : Prop :=
  Digs X ∧ ∀ wr zs, w.grownBy wr (some g) → Blk wr g (mid cs off zs) → off + zs.length ≤ cs.length → ∀ i, zs.length ≤ i → i < X.length →
    ∃ b o, A = some ⟨b, o, none⟩ ∧ wr.cell? ⟨b, o + i, none⟩ = some (.int .u64 ((dg X i : Nat) : Int))
theorem Src.of_num {w : World} {g off : Nat} {cs : List Nat} {A : Option Addr} {X : List Nat} (h : Num w A X) (hne : 0 < X.length → ∀ p, A = some p → p.block ≠ g) : Src w g off cs A X :=
  ⟨h.1, fun wr zs hO _ _ i _ hi => by
    obtain ⟨b, o, e, hlt, hc⟩ := h.at_ (by omega)
    have hb : b ≠ g := hne (by omega) _ e
    exact ⟨b, o, e, (World.cell?_of_block (hO.block b hlt (by intro e2; injection e2 with e3; exact hb e3))).trans (hc i hi)⟩⟩
theorem Src.self {w : World} {g off n : Nat} {cs : List Nat} (hcs : Digs cs) : Src w g off cs (some ⟨g, off, none⟩) ((cs.drop off).take n) :=
  ⟨(hcs.drop _).take _, fun wr zs _ hb hl i h1 h2 => by
    rw [List.length_take, List.length_drop] at h2
    refine ⟨g, off, rfl, ?_⟩
    rw [hb.cell (by rw [mid_length hl]; omega), dg_mid_above (by omega) (by omega), dg_slice (by omega)]⟩

set_option maxHeartbeats 400000 in
theorem digit_cell (w : World) (p b o n c i : Nat) (x : Nat) (hi : i < n) (hp : w.cell? ⟨p, 0, none⟩ = some (.slice (some ⟨b, o, none⟩) n c))
    (hcell : w.cell? ⟨b, o + i, none⟩ = some (.int .u64 (x : Int))) :
    Calls Tryz.prog 176 #[.int .i64 i, .pointer (some ⟨p, 0, none⟩)] w fun e w' => e = .returned (.int .u64 (x : Int)) ∧ w = w' := by
  have hlt : (i : Int) < (n : Int) := by omega
  go_enter Tryz.func176, Tryz.ntmps176
  go_wp2
  go_ret
  exact ⟨rfl, rfl⟩

theorem digit_src {w wr : World} {g off p c i : Nat} {z : Int} {cs X zs : List Nat} {A : Option Addr} (hS : Src w g off cs A X) (hO : w.grownBy wr (some g)) (hblk : Blk wr g (mid cs off zs)) (hl : off + zs.length ≤ cs.length)
    (hz : z = (i : Int)) (hi : zs.length ≤ i) (hp : wr.cell? ⟨p, 0, none⟩ = some (.slice A X.length c)) :
    Calls Tryz.prog 176 #[.int .i64 z, .pointer (some ⟨p, 0, none⟩)] wr fun e w' => e = .returned (.int .u64 ((dg X i : Nat) : Int)) ∧ wr = w' := by
  subst hz
  by_cases h : i < X.length
  · obtain ⟨b, o, rfl, hc⟩ := hS.2 wr zs hO hblk hl i hi h
    exact digit_cell wr p b o X.length c i _ h hp hc
  · refine (digit_out wr p A X.length c i hp (by omega)).mono ?_
    rintro e w' ⟨rfl, rfl⟩
    rw [dg_of_ge (by omega)]
    exact ⟨rfl, rfl⟩

theorem lower_digit {x y s : Nat} (hs : s ≤ 64) : (x / 2 ^ s + lo (y * 2 ^ (64 - s))) * 2 ^ s + x % 2 ^ s = x + B64 * (y % 2 ^ s) := by
  rw [lo_shl (show 64 - s ≤ 64 by omega), show 64 - (64 - s) = s by omega, B64_split hs, Nat.add_mul, Nat.mul_assoc, Nat.mul_assoc]
  have h1 := Nat.div_add_mod x (2 ^ s)
  rw [Nat.mul_comm (2 ^ s) (x / 2 ^ s)] at h1
  rw [Nat.mul_comm (2 ^ s) (y % 2 ^ s)]
  omega
theorem lower_digit_lt {x y s : Nat} (hx : x < B64) (hs : s ≤ 64) : x / 2 ^ s + lo (y * 2 ^ (64 - s)) < B64 := by
  have h1 := shr_lt hx (show 64 - s ≤ 64 by omega)
  rw [show 64 - (64 - s) = s by omega] at h1
  have h2 : y % 2 ^ s < 2 ^ s := Nat.mod_lt _ (Nat.pow_pos (by omega))
  rw [lo_shl (show 64 - s ≤ 64 by omega), show 64 - (64 - s) = s by omega, B64_split hs]
  have h3 : 2 ^ (64 - s) * (y % 2 ^ s) + 2 ^ (64 - s) ≤ 2 ^ (64 - s) * 2 ^ s := by
    rw [← Nat.mul_succ]; exact Nat.mul_le_mul_left _ h2
  omega
theorem lower_round {v q r s p x d y t : Nat} (hv : v * q + r = s + p * t) (hd : d * q + t = x + B64 * y) : (v + p * d) * q + r = s + p * x + p * B64 * y := by
  have e : p * (d * q) + p * t = p * x + p * (B64 * y) := by rw [← Nat.mul_add, hd, Nat.mul_add]
  rw [Nat.add_mul, Nat.mul_assoc p d q, Nat.mul_assoc p B64 y]
  omega

structure LowerRel (w wr : World) (g off s : Nat) (cs X : List Nat) (A : Option Addr) (c : Nat) (i : Value) : Prop where
  ex : ∃ (k : Nat) (zs : List Nat), k ≤ X.length ∧ i = .int .i64 k ∧ zs.length = k ∧ Digs zs ∧ val zs * 2 ^ s + dg X 0 % 2 ^ s = val (X.take k) + B64 ^ k * (dg X k % 2 ^ s) ∧ Blk wr g (mid cs off zs)
  cap : wr.cell? ⟨w.heap.size, 0, none⟩ = some (.slice A X.length c)
  own : w.grownBy wr (some g)

theorem lower_step {w wr : World} {g off s k c : Nat} {cs X zs : List Nat} {A : Option Addr} (hX : Digs X) (hlt : k < X.length) (hs : s ≤ 64) (hoff : off + X.length ≤ cs.length) (hg : g < w.heap.size)
    (hzl : zs.length = k) (hzd : Digs zs) (hv : val zs * 2 ^ s + dg X 0 % 2 ^ s = val (X.take k) + B64 ^ k * (dg X k % 2 ^ s)) (hblk : Blk wr g (mid cs off zs)) (hcap : wr.cell? ⟨w.heap.size, 0, none⟩ = some (.slice A X.length c))
    (hown : w.grownBy wr (some g)) :
    LowerRel w (wr.setCell ⟨g, off + k, none⟩ (.int .u64 ((dg X k / 2 ^ s + lo (dg X (k + 1) * 2 ^ (64 - s)) : Nat) : Int))) g off s cs X A c (.int .i64 ((k : Int) + 1)) := by
  refine ⟨⟨k + 1, zs ++ [dg X k / 2 ^ s + lo (dg X (k + 1) * 2 ^ (64 - s))], by omega, by simp, by simp [hzl], hzd.snoc (lower_digit_lt (dg_lt hX k) hs), ?_, ?_⟩, ?_, grown_set hown _ _⟩
  · rw [val_take_dg, val_snoc, Nat.pow_succ, hzl]
    exact lower_round hv (lower_digit hs)
  · have h := hblk.set_ (off + k) (dg X k / 2 ^ s + lo (dg X (k + 1) * 2 ^ (64 - s)))
    have hs := mid_set (cs := cs) (zs := zs) (off := off) (by omega) (dg X k / 2 ^ s + lo (dg X (k + 1) * 2 ^ (64 - s)))
    rw [hzl] at hs
    rwa [hs] at h
  · exact (World.cell?_setCell_other wr _ _ _ (by intro e; injection e with e1; omega)).trans hcap

structure LowerPost (w : World) (g off s : Nat) (cs X : List Nat) (e : Ending) (w' : World) : Prop where
  ret : e = .returned (.tuple #[])
  ex : ∃ zs : List Nat, zs.length = X.length ∧ Digs zs ∧ val zs = val X / 2 ^ s ∧ Blk w' g (mid cs off zs)
  own : w.grownBy w' (some g)

set_option maxHeartbeats 1000000 in
theorem lower_any (w : World) (g off capO s c : Nat) (cs X : List Nat) (A : Option Addr) (hblk : Blk w g cs) (hoff : off + X.length ≤ cs.length) (hA : Src w g off cs A X)
    (hs : s ≤ 63) (hX : X.length ≤ 1099511627776) :
    Calls Tryz.prog 208 #[.slice (some ⟨g, off, none⟩) X.length capO, .slice A X.length c, .int .u64 s] w (LowerPost w g off s cs X) := by
  have HS0 := Lib.hid hA
  have HBLK0 := Lib.hid hblk
  have hg := hblk.lt
  have hw64 : IntKind.u64.wrap (64 - (s : Int)) = 64 - (s : Int) := by rw [IntKind.wrap_u64]; omega
  have hs64 : s ≤ 64 := by omega
  clear hA hblk
  go_enter Tryz.func208, Tryz.ntmps208
  go_wp2_with fail
  refine (digitOf_any _ _ _ _).mono ?_
  rintro e w' ⟨rfl, rfl⟩
  go_wp2_with fail
  go_loopw [12] (fun i wr => LowerRel w wr g off s cs X A c i) (fun i _ => X.length - (intOf i).toNat)
  case atStart =>
    exact ⟨⟨0, [], Nat.zero_le _, rfl, rfl, Digs.nil, by simp [val_nil], by rw [mid_nil]; exact HBLK0.out.alloc _⟩, cell_of_one (heap_alloc_new w _), World.grownBy_alloc _ _ _⟩
  case round =>
    obtain ⟨⟨k, zs, hk, rfl, hzl, hzd, hv, hblk⟩, hcap, hown⟩ := hrel
    by_cases hlt : k < X.length
    · have hlt' : (k : Int) < (X.length : Int) := by omega
      have ho : (wr.cell? ⟨g, off + k, none⟩) = some (.int .u64 ((dg cs (off + k) : Nat) : Int)) := by
        rw [hblk.cell (by rw [mid_length (by omega)]; omega), dg_mid_above (by omega) (by omega)]
      have hf : wr.frozen? ⟨g, off + k, none⟩ = false := hblk.frozen _
      have HS := Lib.hid (lower_step HS0.out.1 hlt hs64 hoff hg hzl hzd hv hblk hcap hown)
      have HD1 := Lib.hid (digit_src (z := (k : Int)) (i := k) HS0.out hown hblk (by omega) rfl (by omega) hcap)
      have HD2 := Lib.hid (digit_src (z := (k : Int) + 1) (i := k + 1) HS0.out hown hblk (by omega) (by omega) (by omega) hcap)
      have HU : Hid (bits BinOp.or IntKind.u64 (((dg X k : Nat) : Int) / 2 ^ s) (IntKind.u64.wrap (((dg X (k + 1) : Nat) : Int) * 2 ^ (64 - s))) = ((dg X k / 2 ^ s + lo (dg X (k + 1) * 2 ^ (64 - s)) : Nat) : Int)) := lower_or (dg_lt HS0.out.1 _) hs64
      clear hblk hv hzl hcap hown
      go_wp2_with fail
      refine HD1.out.mono ?_
      rintro e w' ⟨rfl, rfl⟩
      go_wp2_with fail
      refine HD2.out.mono ?_
      rintro e w' ⟨rfl, rfl⟩
      go_wp2_with fail
      go_roundw
      case rel => rw [HU.out]; exact HS.out
      case measure => simp [intOf]; omega
    · have hkn : k = X.length := by omega
      have HE : Hid (LowerPost w g off s cs X (.returned (.tuple #[])) wr) := by
        refine ⟨rfl, ⟨zs, by omega, hzd, ?_, hblk⟩, hown⟩
        rw [hkn, dg_of_ge (Nat.le_refl _), List.take_length, Nat.zero_mod, Nat.mul_zero, Nat.add_zero] at hv
        rw [← hv, Nat.mul_comm, Nat.mul_add_div (Nat.pow_pos (by omega)), Nat.div_eq_of_lt (Nat.mod_lt _ (Nat.pow_pos (by omega))), Nat.add_zero]
      clear hblk hv hzl hkn hcap hown
      go_wp2
      go_end0
      exact HE.out

theorem Num.drop_ {w : World} {b o : Nat} {xs : List Nat} (h : Num w (some ⟨b, o, none⟩) xs) (k : Nat) : Num w (some ⟨b, o + k, none⟩) (xs.drop k) :=
  ⟨h.1.drop k, fun hn => by
    have hl : 0 < (xs.drop k).length := List.length_pos_iff.2 hn
    rw [List.length_drop] at hl
    obtain ⟨b', o', e, hlt, hc⟩ := h.at_ (by omega)
    injection e with e
    injection e with e1 e2
    subst e1; subst e2
    refine ⟨b, o + k, rfl, hlt, fun i hi => ?_⟩
    rw [List.length_drop] at hi
    rw [dg_drop, Nat.add_assoc]
    exact hc (k + i) (by omega)⟩
theorem Num.ne {w : World} {A : Option Addr} {xs : List Nat} (h : Num w A xs) {g : Nat} (hg : w.heap.size ≤ g) : 0 < xs.length → ∀ p, A = some p → p.block ≠ g := by
  intro hp p e
  obtain ⟨b, o, e2, hlt, _⟩ := h.at_ hp
  rw [e] at e2
  injection e2 with e3
  rw [e3]
  exact Nat.ne_of_lt (Nat.lt_of_lt_of_le hlt hg)
theorem shl_pow (a m : Nat) : B64 ^ (m / 64) * (a * 2 ^ (m % 64)) = a * 2 ^ m := by
  have h : (2 : Nat) ^ m = 2 ^ (64 * (m / 64) + m % 64) := by congr 1; omega
  rw [h, Nat.pow_add, Nat.pow_mul, ← B64_pow, Nat.mul_left_comm]
theorem val_mid_rep {zs : List Nat} {k n : Nat} (h : k + zs.length = n) : val (mid (List.replicate n 0) k zs) = B64 ^ k * val zs := by
  unfold mid
  rw [List.take_replicate, List.drop_replicate, val_append, val_append, val_rep, val_rep, List.length_replicate, Nat.min_eq_left (by omega)]
  simp
theorem raise_whole {X zs : List Nat} {s n : Nat} (hn : n = X.length + 1) (hv : val zs + B64 ^ n * rc X s n = val (X.take n) * 2 ^ s) : val zs = val X * 2 ^ s := by
  subst hn
  rw [rc_succ, dg_of_ge (Nat.le_refl _), Nat.zero_mul, hi_of_lt B64_pos, Nat.mul_zero, Nat.add_zero, List.take_of_length_le (by omega)] at hv
  exact hv

/-- What Shl tells. -/
def shlv (a : Nat) (z : Int) : Nat := if z < 1 then a else if 1048576 < z then 0 else a * 2 ^ z.toNat

/-- What Shr tells. -/
def shrv (a : Nat) (z : Int) : Nat := if z < 1 then a else a / 2 ^ z.toNat

theorem shr_pow {X : List Nat} (m : Nat) : val (X.drop (m / 64)) / 2 ^ (m % 64) = val X / 2 ^ m ∨ ¬ Digs X := by
  by_cases hX : Digs X
  · left
    have h1 := val_take_add X (m / 64)
    have h2 := val_lt (hX.take (m / 64))
    by_cases hl : m / 64 ≤ X.length
    · rw [Nat.min_eq_left hl] at h1
      rw [List.length_take, Nat.min_eq_left hl] at h2
      have h3 : val X / B64 ^ (m / 64) = val (X.drop (m / 64)) := by
        rw [h1, Nat.add_mul_div_left _ _ (pow_pos' _), Nat.div_eq_of_lt h2, Nat.zero_add]
      rw [← h3, Nat.div_div_eq_div_mul, B64_pow, ← Nat.pow_mul, ← Nat.pow_add]
      congr 2
      omega
    · have h4 := val_lt hX
      have h5 : B64 ^ X.length ≤ 2 ^ m := by
        rw [B64_pow, ← Nat.pow_mul]
        exact Nat.pow_le_pow_right (by omega) (by omega)
      rw [List.drop_of_length_le (by omega), val_nil, Nat.zero_div, Nat.div_eq_of_lt (by omega)]
  · exact .inr hX

/-- The least n with a below 2^n. -/
def blen (n : Nat) : Nat := if n = 0 then 0 else Nat.log2 n + 1
theorem blen_lt (n : Nat) : n < 2 ^ blen n := by
  unfold blen
  split
  · omega
  · exact (Nat.log2_lt (by assumption)).1 (Nat.lt_succ_self _)
theorem blen_le {n k : Nat} (h : k < blen n) : 2 ^ k ≤ n := by
  unfold blen at h
  split at h
  · omega
  · rename_i h0
    exact (Nat.le_log2 h0).1 (by omega)
theorem blen_unique {n k : Nat} (h : n < 2 ^ k) (h' : ∀ j, j + 1 = k → 2 ^ j ≤ n) : blen n = k := by
  rcases Nat.lt_trichotomy (blen n) k with hlt | heq | hgt
  · have h1 := h' (k - 1) (by omega)
    have h2 := blen_lt n
    have h3 : 2 ^ blen n ≤ 2 ^ (k - 1) := Nat.pow_le_pow_right (by omega) (by omega)
    omega
  · exact heq
  · have := blen_le hgt
    omega
theorem blen_zero : blen 0 = 0 := rfl
theorem blen_le_of_lt {n k : Nat} (h : n < 2 ^ k) : blen n ≤ k := by
  rcases Nat.lt_or_ge k (blen n) with h1 | h1
  · have := blen_le h1
    omega
  · exact h1
theorem bitLenAux_spec (f x : Nat) (h : x < 2 ^ f) : x < 2 ^ Lib.bitLenAux f x ∧ ∀ j, j + 1 = Lib.bitLenAux f x → 2 ^ j ≤ x := by
  induction f generalizing x with
  | zero =>
    have : x = 0 := by simpa using h
    subst this
    exact ⟨by simp [Lib.bitLenAux], fun j hj => by simp [Lib.bitLenAux] at hj⟩
  | succ f ih =>
    unfold Lib.bitLenAux
    by_cases h0 : x = 0
    · rw [if_pos h0]
      exact ⟨by omega, fun j hj => by omega⟩
    · rw [if_neg h0]
      obtain ⟨h1, h2⟩ := ih (x / 2) (by rw [Nat.pow_succ] at h; omega)
      refine ⟨by rw [Nat.add_comm, Nat.pow_succ]; omega, fun j hj => ?_⟩
      rcases Nat.eq_zero_or_pos j with hj0 | hj0
      · subst hj0; omega
      · have := h2 (j - 1) (by omega)
        have e : 2 ^ j = 2 ^ (j - 1) * 2 := by rw [← Nat.pow_succ]; congr 1; omega
        rw [e]; omega
theorem bitLen_eq {x : Nat} (h : x < B64) : Lib.bitLen x = blen x := by
  rw [B64_pow] at h
  obtain ⟨h1, h2⟩ := bitLenAux_spec 64 x h
  exact (blen_unique h1 h2).symm
theorem len64_any (x : Nat) (hx : x < B64) (w : World) : Calls Tryz.prog 175 #[.int .u64 x] w fun e w' => e = .returned (.int .i64 ((blen x : Nat) : Int)) ∧ w = w' := by
  have h := Tryz.bits_Len64 x w (by omega) (by rw [B64_eq] at hx; omega)
  rw [Int.toNat_natCast, bitLen_eq hx] at h
  exact h.mono fun _ _ ⟨he, hw⟩ => ⟨he, hw.symm⟩
theorem lz64_any (x : Nat) (hx : x < B64) (w : World) : Calls Tryz.prog 204 #[.int .u64 x] w fun e w' => e = .returned (.int .i64 (64 - ((blen x : Nat) : Int))) ∧ w = w' := by
  have h := Tryz.bits_LeadingZeros64 x w (by omega) (by rw [B64_eq] at hx; omega)
  rw [Int.toNat_natCast, bitLen_eq hx] at h
  exact h.mono fun _ _ ⟨he, hw⟩ => ⟨he, hw.symm⟩

theorem ret_i {k : IntKind} {a b : Int} (h : a = b) : Ending.returned (.int k a) = .returned (.int k b) := by rw [h]
theorem blen_digit {x : Nat} (hx : x < B64) : blen x ≤ 64 := blen_le_of_lt (by rw [← B64_pow]; exact hx)

/-- A number's length in bits: that of its highest digit, and 64 for each below. -/
theorem blen_top {a : Nat} (h : (dig a).length ≠ 0) : blen a = ((dig a).length - 1) * 64 + blen (dg (dig a) ((dig a).length - 1)) := by
  have hx := dg_lt (dig_digs a) ((dig a).length - 1)
  generalize hL : (dig a).length = L at *
  have h1 := val_take_dg (dig a) (L - 1)
  rw [show L - 1 + 1 = L by omega, ← hL, List.take_length, hL, val_dig] at h1
  have h2 := val_lt ((dig_digs a).take (L - 1))
  rw [List.length_take, Nat.min_eq_left (by omega)] at h2
  have hp : B64 ^ (L - 1) = 2 ^ ((L - 1) * 64) := by rw [B64_pow, ← Nat.pow_mul, Nat.mul_comm]
  rw [hp] at h1 h2
  generalize dg (dig a) (L - 1) = x at *
  have hx0 : x ≠ 0 := by
    rintro rfl
    have h3 := pow_le_of_dig (n := a) (k := L - 1) (by omega)
    rw [hp] at h3
    omega
  have h4 := blen_lt x
  refine blen_unique ?_ ?_
  · rw [Nat.pow_add]
    have h5 : 2 ^ ((L - 1) * 64) * x + 2 ^ ((L - 1) * 64) ≤ 2 ^ ((L - 1) * 64) * 2 ^ blen x := by
      rw [← Nat.mul_succ]; exact Nat.mul_le_mul_left _ h4
    omega
  · intro j hj
    have h6 : blen x ≠ 0 := by
      intro e
      rw [e] at h4
      omega
    have h5 := blen_le (n := x) (k := blen x - 1) (by omega)
    have h7 : 2 ^ j = 2 ^ ((L - 1) * 64) * 2 ^ (blen x - 1) := by rw [← Nat.pow_add]; congr 1; omega
    have h8 : 2 ^ ((L - 1) * 64) * 2 ^ (blen x - 1) ≤ 2 ^ ((L - 1) * 64) * x := Nat.mul_le_mul_left _ h5
    omega

set_option maxHeartbeats 1000000 in
theorem bits_any (w : World) (A : Option Addr) (c : Nat) (xs : List Nat) (ha : Num w A xs) (hn : xs.length ≤ 8589934592) (hc : xs.length ≤ c) :
    Calls Tryz.prog 154 #[.slice A xs.length c] w fun e w' => e = .returned (.int .i64 ((blen (val xs) : Nat) : Int)) ∧ w = w' := by
  have C1 := Lib.hid (cut_any w A c xs ha (by omega) hc)
  have hl1 := dig_length_val ha.1
  clear ha
  generalize val xs = a at *
  by_cases h1 : (dig a).length = 0
  · have h1' : (((dig a).length : Int) == 0) = true := by rw [h1]; rfl
    have HV : Hid (a = 0) := dig_nil_iff.1 h1
    clear h1
    go_enter Tryz.func154, Tryz.ntmps154
    go_wp2_with fail
    refine C1.out.mono ?_
    rintro e w' ⟨A', c', rfl, hc', -, rfl⟩
    clear C1
    go_wp2
    go_ret
    rw [HV.out]
    exact ⟨rfl, rfl⟩
  · have h1' : (((dig a).length : Int) == 0) = false := by rw [beq_eq_false_iff_ne]; omega
    have hpos : 1 ≤ (dig a).length := by omega
    go_enter Tryz.func154, Tryz.ntmps154
    go_wp2_with fail
    refine C1.out.mono ?_
    rintro e w' ⟨A', c', rfl, hc', ha', rfl⟩
    obtain ⟨b1, o1, rfl, hb1, hcell⟩ := ha'.at_ (by omega)
    have hx := hcell ((dig a).length - 1) (by omega)
    have hd := dg_lt (dig_digs a) ((dig a).length - 1)
    have hb64 := blen_digit hd
    have HV := Lib.hid (blen_top h1)
    have HL := Lib.hid (len64_any _ hd w)
    clear C1 ha' hcell hd
    go_wp2_with fail
    refine HL.out.mono ?_
    rintro e w' ⟨rfl, rfl⟩
    go_wp2
    go_ret
    rw [HV.out]
    exact ⟨ret_i (by push_cast; omega), rfl⟩

end Go.Proofs.YtmbnlhedbedcdaaGreat
