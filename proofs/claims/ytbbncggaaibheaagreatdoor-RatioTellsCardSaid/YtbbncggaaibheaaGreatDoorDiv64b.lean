/- math/bits.Div64, whole. -/
import Derived.Test.YtbbncggaaibheaaGreatDoorDiv64
namespace Go.Proofs.YtbbncggaaibheaaGreatDoor
open Go.RowKit

theorem u64_and_mask (a : Nat) (ha : a < B64) : bits BinOp.and IntKind.u64 (a : Int) 4294967295 = ((a % 4294967296 : Nat) : Int) := by
  have h := u64_and_nat a 4294967295 (by rw [B64_eq] at ha; exact ha) (by omega)
  rw [show a &&& 4294967295 = a % 4294967296 from Nat.and_two_pow_sub_one_eq_mod a 32] at h
  exact h

theorem u64_rest {U u q Y v : Nat} (h : U * 4294967296 + u = q * Y + v) (hv : v < B64) :
    IntKind.u64.wrap (IntKind.u64.wrap (IntKind.u64.wrap ((U : Int) * 4294967296) + (u : Int)) - IntKind.u64.wrap ((q : Int) * (Y : Int))) = (v : Int) := by
  rw [B64_eq] at hv
  simp only [IntKind.wrap_u64]
  have e : ((q * Y : Nat) : Int) = (q : Int) * (Y : Int) := Int.natCast_mul q Y
  rw [← e]
  generalize q * Y = p at *
  omega
theorem u64_quot {q1 q0 q : Nat} (h : q1 * 4294967296 + q0 = q) (hq : q < B64) : IntKind.u64.wrap (IntKind.u64.wrap ((q1 : Int) * 4294967296) + (q0 : Int)) = (q : Int) := by
  rw [B64_eq] at hq
  simp only [IntKind.wrap_u64]
  omega

theorem regroup (U u : Nat) : U * 18446744073709551616 + u = (U * 4294967296 + u / 4294967296) * 4294967296 + u % 4294967296 := by omega
theorem div64_pos (x low y : Nat) (hx0 : 0 < x) (hx : x < y) (hl : low < B64) (hy : y < B64) (w : World) :
    Calls Tryz.prog 190 #[.int .u64 x, .int .u64 low, .int .u64 y] w (RetDiv w ((x * B64 + low) / y) ((x * B64 + low) % y)) := by
  have hb := blen_digit hy
  have hb1 : 1 ≤ blen y := by
    rcases Nat.eq_zero_or_pos (blen y) with h | h
    · have := blen_lt y
      rw [h] at this
      omega
    · exact h
  obtain ⟨s, hs⟩ : ∃ s, s + blen y = 64 := ⟨64 - blen y, by omega⟩
  have hs64 : s ≤ 64 := by omega
  have hY1 : y * 2 ^ s < B64 := by
    have h1 := blen_lt y
    rw [B64_pow, ← hs, Nat.add_comm, Nat.pow_add]
    exact Nat.mul_lt_mul_of_pos_right h1 (Nat.pow_pos (by omega))
  have hY2 : 9223372036854775808 ≤ y * 2 ^ s := by
    have h1 := blen_le (n := y) (k := blen y - 1) (by omega)
    have h2 : 2 ^ (blen y - 1) * 2 ^ s ≤ y * 2 ^ s := Nat.mul_le_mul_right _ h1
    rw [← Nat.pow_add, show blen y - 1 + s = 63 by omega] at h2
    exact h2
  have hYe : y * 2 ^ s / 4294967296 * 4294967296 + y * 2 ^ s % 4294967296 = y * 2 ^ s := Nat.div_add_mod' _ _
  have hxs : x * 2 ^ s < y * 2 ^ s := Nat.mul_lt_mul_of_pos_right hx (Nat.pow_pos (by omega))
  have hlo : lo (x * 2 ^ s) = x * 2 ^ s := lo_of_lt (by omega)
  have hlh := lo_hi (low * 2 ^ s)
  have hN : (x * B64 + low) * 2 ^ s = (x * 2 ^ s + hi (low * 2 ^ s)) * B64 + lo (low * 2 ^ s) := by
    have e : x * B64 * 2 ^ s = x * 2 ^ s * B64 := Nat.mul_right_comm _ _ _
    have e2 : hi (low * 2 ^ s) * B64 = B64 * hi (low * 2 ^ s) := Nat.mul_comm _ _
    rw [Nat.add_mul, Nat.add_mul, e, e2]
    omega
  have hUY : x * 2 ^ s + hi (low * 2 ^ s) < y * 2 ^ s := by
    have h1 : (x * B64 + low) * 2 ^ s < y * B64 * 2 ^ s := Nat.mul_lt_mul_of_pos_right (by
      have : (x + 1) * B64 ≤ y * B64 := Nat.mul_le_mul_right _ hx
      rw [Nat.succ_mul] at this
      omega) (Nat.pow_pos (by omega))
    rw [hN, Nat.mul_right_comm] at h1
    have h2 := lo_lt (low * 2 ^ s)
    refine Nat.lt_of_mul_lt_mul_right (a := B64) ?_
    omega
  generalize hY : y * 2 ^ s = Y at *
  generalize hU : x * 2 ^ s + hi (low * 2 ^ s) = U at *
  have hu := lo_lt (low * 2 ^ s)
  generalize hu10 : lo (low * 2 ^ s) = u10 at *
  have B := B64_eq
  have ey1 : ((Y : Int)) / 4294967296 = ((Y / 4294967296 : Nat) : Int) := by omega
  have ey0 := u64_and_mask Y hY1
  have eu1 : ((u10 : Int)) / 4294967296 = ((u10 / 4294967296 : Nat) : Int) := by omega
  have eu0 := u64_and_mask u10 hu
  have hq3 : Y / 4294967296 < 4294967296 := by omega
  have hq4 : 2147483648 ≤ Y / 4294967296 := by omega
  have hq5 : Y % 4294967296 < 4294967296 := by omega
  have hq6 : u10 / 4294967296 < 4294967296 := by omega
  have hq7 : u10 % 4294967296 < 4294967296 := by omega
  have hrg := regroup U u10
  rewrite [← B] at hrg
  generalize hy1 : Y / 4294967296 = y1 at *
  generalize hy0 : Y % 4294967296 = y0 at *
  generalize hu1 : u10 / 4294967296 = u1 at *
  generalize hu0 : u10 % 4294967296 = u0 at *
  have hh1 : Half Y y1 y0 U u1 := ⟨hYe.symm, hq5, hq4, hq3, hUY, hq6⟩
  have hr1 := half_start hh1
  have hd1 := Nat.div_add_mod (U * 4294967296 + u1) Y
  have hv1 := Nat.mod_lt (U * 4294967296 + u1) hh1.pos
  have hq1 := hh1.lt
  generalize hQ1 : (U * 4294967296 + u1) / Y = Q1 at *
  generalize hV : (U * 4294967296 + u1) % Y = V at *
  have hh2 : Half Y y1 y0 V u0 := ⟨hYe.symm, hq5, hq4, hq3, hv1, hq7⟩
  have hr2 := half_start hh2
  obtain ⟨Q0, hQ0⟩ : ∃ Q0, Q0 = (V * 4294967296 + u0) / Y := ⟨_, rfl⟩
  obtain ⟨R, hR⟩ : ∃ R, R = (V * 4294967296 + u0) % Y := ⟨_, rfl⟩
  have hd2 : Y * Q0 + R = V * 4294967296 + u0 := by rewrite [hQ0, hR]; exact Nat.div_add_mod _ _
  have hv2 : R < Y := by rewrite [hR]; exact Nat.mod_lt _ hh1.pos
  obtain ⟨g1, g2⟩ := halves (y := y) (s := s) (hiw := x) (low := low) (Y := Y) (N := (x * B64 + low) * 2 ^ s) (U32 := U) (un1 := u1) (un0 := u0) (q1 := Q1) (U21 := V) (q0 := Q0)
    hY.symm rfl (hN.trans hrg) (Nat.lt_of_le_of_lt (Nat.zero_le _) hx) hQ1.symm hV.symm hQ0
  rewrite [← hR] at g2
  have hquo : (x * B64 + low) / y < B64 := by
    refine Nat.div_lt_of_lt_mul ?_
    have : (x + 1) * B64 ≤ y * B64 := Nat.mul_le_mul_right _ hx
    rewrite [Nat.succ_mul] at this
    omega
  have f1 := Nat.div_add_mod' U y1
  have f2 := Nat.div_add_mod' V y1
  have hU64 : U < B64 := Nat.lt_trans hUY hY1
  have hV64 : V < B64 := Nat.lt_trans hv1 hY1
  have hR64 : R < B64 := Nat.lt_trans hv2 hY1
  have a1 : IntKind.u64.wrap ((U : Int) / (y1 : Int)) = ((U / y1 : Nat) : Int) := u64_small (n := U / y1) (Nat.lt_of_le_of_lt (Nat.div_le_self _ _) hU64)
  have a2 : IntKind.u64.wrap ((V : Int) / (y1 : Int)) = ((V / y1 : Nat) : Int) := u64_small (n := V / y1) (Nat.lt_of_le_of_lt (Nat.div_le_self _ _) hV64)
  have a3 := u64_mul (a := U / y1) (b := y1) (Nat.lt_of_le_of_lt (Nat.div_mul_le_self _ _) hU64)
  have a4 := u64_mul (a := V / y1) (b := y1) (Nat.lt_of_le_of_lt (Nat.div_mul_le_self _ _) hV64)
  have a5 : IntKind.u64.wrap ((U : Int) - ((U / y1 : Nat) : Int) * (y1 : Int)) = ((U % y1 : Nat) : Int) := by
    rewrite [← Int.natCast_mul]; exact u64_sub f1 hU64
  have a6 : IntKind.u64.wrap ((V : Int) - ((V / y1 : Nat) : Int) * (y1 : Int)) = ((V % y1 : Nat) : Int) := by
    rewrite [← Int.natCast_mul]; exact u64_sub f2 hV64
  have a7 := u64_rest (U := U) (u := u1) (q := Q1) (Y := Y) (v := V) (by rewrite [Nat.mul_comm Q1 Y]; exact hd1.symm) hV64
  have a8 := u64_rest (U := V) (u := u0) (q := Q0) (Y := Y) (v := R) (by rewrite [Nat.mul_comm Q0 Y]; exact hd2.symm) hR64
  have a9 : IntKind.u64.wrap ((y : Int) * 2 ^ s) = (Y : Int) := by
    have := u64_small (n := y * 2 ^ s) (by rw [hY]; exact hY1)
    rewrite [Int.natCast_mul] at this
    have e : ((2 ^ s : Nat) : Int) = (2 : Int) ^ s := by push_cast; rfl
    rewrite [e] at this
    rewrite [this, ← hY, Int.natCast_mul, e]
    rfl
  have a10 : IntKind.u64.wrap ((low : Int) * 2 ^ s) = (u10 : Int) := by
    have := u64_wrap_nat (low * 2 ^ s)
    rewrite [hu10, Int.natCast_mul] at this
    have e : ((2 ^ s : Nat) : Int) = (2 : Int) ^ s := by push_cast; rfl
    rewrite [e] at this
    exact this
  have a11 := raise_or (x := x) (y := low) hl hs64
  rewrite [hlo, hU] at a11
  have a12 : IntKind.u64.wrap (IntKind.u64.wrap (IntKind.u64.wrap ((V : Int) * 4294967296) + (u0 : Int)) - IntKind.u64.wrap ((Q0 : Int) * (Y : Int))) / 2 ^ s = (((x * B64 + low) % y : Nat) : Int) := by
    rewrite [a8, ← g2]
    have e : ((2 ^ s : Nat) : Int) = (2 : Int) ^ s := by push_cast; rfl
    rewrite [Int.natCast_ediv, e]
    rfl
  exact div64_core x low y s Y y1 y0 U u10 u1 u0 (U / y1) (U % y1) Q1 hx0 hx (by omega) (by omega) hy a9 ey1 ey0 a11 a10 eu1 eu0 hh1 a1 a3 a5 hr1 hQ1.symm V (V / y1) (V % y1) Q0 a7 hh2 a2 a4 a6 hr2 hQ0 (u64_quot g1 hquo) a12 w

/-- Div64, whatever the digits, the upper one below the divisor. -/
theorem div64_any (x low y : Nat) (hx : x < y) (hl : low < B64) (hy : y < B64) (w : World) :
    Calls Tryz.prog 190 #[.int .u64 x, .int .u64 low, .int .u64 y] w (RetDiv w ((x * B64 + low) / y) ((x * B64 + low) % y)) := by
  rcases Nat.eq_zero_or_pos x with h0 | h0
  · subst h0
    rw [Nat.zero_mul, Nat.zero_add]
    exact div64_zero low y hl hx w
  · exact div64_pos x low y h0 hx hl hy w
end Go.Proofs.YtbbncggaaibheaaGreatDoor
