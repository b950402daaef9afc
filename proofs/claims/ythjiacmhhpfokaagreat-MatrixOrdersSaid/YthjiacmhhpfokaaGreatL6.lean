/- Part 6 of the proof: Div64, Div64b. -/
import Derived.Test.YthjiacmhhpfokaaGreatL5
import Derived.Deep.DeepCutAuto
import Derived.Deep.LoopGhost
import Derived.Deep.CutBlock
namespace Go.Proofs.YthjiacmhhpfokaaGreat
open Nat renaming mul_add → mA, mul_assoc → mS
section
open Lib renaming hid → lh
set_option maxHeartbeats 4000000
open Go.RowKit
structure Half (Y yn1 yn0 U32 u1 : Nat) : Prop where
 y : Y = yn1 * 4294967296 + yn0
 h0 : yn0 < 4294967296
 h1 : 2147483648 ≤ yn1
 h2 : yn1 < 4294967296
 u : U32 < Y
 u1 : u1 < 4294967296
structure HalfRel (Y yn1 yn0 U32 u1 q r : Nat) : Prop where
 e : q * yn1 + r = U32
 ge : (U32 * 4294967296 + u1) / Y ≤ q
 le : q ≤ 4294967297
 r : r < 4294967296
section
variable {Y yn1 yn0 U32 u1 q r : Nat}
theorem Half.pos (h : Half Y yn1 yn0 U32 u1) : 0 < Y := by have := h.y; have := h.h1; omega
theorem Half.lt (h : Half Y yn1 yn0 U32 u1) : (U32 * 4294967296 + u1) / Y < 4294967296 := by
 refine Nat.div_lt_of_lt_mul ?_
 have h1 := h.u
 have h2 := h.u1
 omega
theorem half_start (h : Half Y yn1 yn0 U32 u1) : HalfRel Y yn1 yn0 U32 u1 (U32 / yn1) (U32 % yn1) := by
 have h1 := h.h1
 have h2 := h.h2
 have hm := Nat.mod_lt U32 (show yn1 > 0 by omega)
 refine ⟨Nat.div_add_mod' _ _, ?_, ?_, by omega⟩
 ·rw [Nat.le_div_iff_mul_le (by omega)]
  have h3 := Nat.div_mul_le_self (U32 * 4294967296 + u1) Y
  generalize (U32 * 4294967296 + u1) / Y = Q at *
  have h4 : Q * Y = Q * yn1 * 4294967296 + Q * yn0 := by rw [h.y, mA, mS]
  have := h.u1
  omega
 ·have h3 : U32 / yn1 < 4294967298 := by
   refine Nat.div_lt_of_lt_mul ?_
   have := h.u
   have := h.y
   have := h.h0
   omega
  omega
theorem half_next (h : Half Y yn1 yn0 U32 u1) (k : HalfRel Y yn1 yn0 U32 u1 q r) (hq : (U32 * 4294967296 + u1) / Y < q) :
  1 ≤ q ∧ r + yn1 < 8589934592 ∧ (r + yn1 < 4294967296 → HalfRel Y yn1 yn0 U32 u1 (q - 1) (r + yn1)) ∧ (4294967296 ≤ r + yn1 → q - 1 = (U32 * 4294967296 + u1) / Y) := by
 have e1 := k.e
 have h2 := h.h2
 have hr := k.r
 have hq1 : 1 ≤ q := Nat.lt_of_le_of_lt (Nat.zero_le _) hq
 have hq2 : (U32 * 4294967296 + u1) / Y ≤ q - 1 := Nat.le_sub_one_of_lt hq
 have e2 : (q - 1) * yn1 + (r + yn1) = U32 := by
  have : q * yn1 = (q - 1) * yn1 + yn1 := by rw [← Nat.succ_mul]; congr 1; omega
  omega
 refine ⟨hq1, by omega, fun hlt => ⟨e2, hq2, by have := k.le; omega, hlt⟩, fun hge => ?_⟩
 refine Nat.le_antisymm ?_ hq2
 rw [Nat.le_div_iff_mul_le h.pos, h.y, mA, ← mS]
 have h3 : (q - 1) * yn0 ≤ 4294967296 * 4294967295 := Nat.mul_le_mul (by have := k.le; omega) (by have := h.h0; omega)
 omega
theorem half_big (h : Half Y yn1 yn0 U32 u1) (hq : 4294967296 ≤ q) : (U32 * 4294967296 + u1) / Y < q := Nat.lt_of_lt_of_le h.lt hq
theorem half_gt (h : Half Y yn1 yn0 U32 u1) (k : HalfRel Y yn1 yn0 U32 u1 q r) (hq : 4294967296 * r + u1 < q * yn0) : (U32 * 4294967296 + u1) / Y < q := by
 refine (Nat.div_lt_iff_lt_mul h.pos).2 ?_
 have h4 : q * Y = q * yn1 * 4294967296 + q * yn0 := by rw [h.y, mA, mS]
 have := k.e
 omega
theorem half_done (h : Half Y yn1 yn0 U32 u1) (k : HalfRel Y yn1 yn0 U32 u1 q r) (hq : q * yn0 ≤ 4294967296 * r + u1) : q = (U32 * 4294967296 + u1) / Y := by
 refine Nat.le_antisymm ?_ k.ge
 rw [Nat.le_div_iff_mul_le h.pos]
 have h4 : q * Y = q * yn1 * 4294967296 + q * yn0 := by rw [h.y, mA, mS]
 have := k.e
 omega
end
theorem halves {y s hiw low Y N U32 un1 un0 q1 U21 q0 : Nat} (hY : Y = y * 2 ^ s) (hN : N = (hiw * B64 + low) * 2 ^ s) (hU : N = (U32 * 4294967296 + un1) * 4294967296 + un0)
  (hy : 0 < y) (hq1 : q1 = (U32 * 4294967296 + un1) / Y) (hU21 : U21 = (U32 * 4294967296 + un1) % Y) (hq0 : q0 = (U21 * 4294967296 + un0) / Y) :
  q1 * 4294967296 + q0 = (hiw * B64 + low) / y ∧ ((U21 * 4294967296 + un0) % Y) / 2 ^ s = (hiw * B64 + low) % y := by
 have hp : 0 < 2 ^ s := Nat.pow_pos (by omega)
 have hYp : 0 < Y := by rw [hY]; exact Nat.mul_pos hy hp
 have e1 : (hiw * B64 + low) / y = N / Y := by rw [hN, hY, Nat.mul_div_mul_right _ _ hp]
 have e2 : (hiw * B64 + low) % y = N % Y / 2 ^ s := by rw [hN, hY, Nat.mul_mod_mul_right, Nat.mul_div_cancel _ hp]
 have h3 := Nat.div_add_mod (U32 * 4294967296 + un1) Y
 have h4 := Nat.div_add_mod (U21 * 4294967296 + un0) Y
 rw [← hq1, ← hU21] at h3
 rw [← hq0] at h4
 have h5 : N = Y * (q1 * 4294967296 + q0) + (U21 * 4294967296 + un0) % Y := by
  have e : Y * (q1 * 4294967296 + q0) = Y * q1 * 4294967296 + Y * q0 := by rw [mA, mS]
  rw [e, hU]
  omega
 have h6 : (U21 * 4294967296 + un0) % Y < Y := Nat.mod_lt _ hYp
 rw [e1, e2]
 clear hU h3 h4 hN hq1 hU21 hq0 e1 e2
 generalize (U21 * 4294967296 + un0) % Y = R at h5 h6 ⊢
 generalize q1 * 4294967296 + q0 = Q at h5 ⊢
 subst h5
 refine ⟨?_, ?_⟩
 ·rw [Nat.mul_add_div hYp, Nat.div_eq_of_lt h6, Nat.add_zero]
 ·rw [Nat.mul_add_mod, Nat.mod_eq_of_lt h6]
def RetDiv (w : World) (q r : Nat) (e : Ending) (w' : World) : Prop := e = .returned (.tuple #[.int .u64 ((q : Nat) : Int), .int .u64 ((r : Nat) : Int)]) ∧ ∃ k, w' = w.drewN k
theorem div64_zero (low y : Nat) (hl : low < B64) (hy : 0 < y) (w : World) :
  Calls Tryz.prog 241 #[.int .u64 0, .int .u64 low, .int .u64 y] w (RetDiv w (low / y) (low % y)) := by
 have hy0 : ((y : Int) == 0) = false := by rw [beq_eq_false_iff_ne]; omega
 have hy1 : ¬ ((y : Int) ≤ 0) := by omega
 have hy2 : 1 ≤ (y : Int) := by omega
 have hq : IntKind.u64.wrap ((low : Int) / (y : Int)) = (low : Int) / (y : Int) := u64_small (n := low / y) (Nat.lt_of_le_of_lt (Nat.div_le_self _ _) hl)
 clear hl
 go_enter Tryz.func241, Tryz.ntmps241
 go_wp2_with fail
 go_quiet (fail)
 go_wp2
 go_ret2
 exact ⟨rfl, _, rfl⟩
theorem u64_sub {a b n : Nat} (h : b + n = a) (ha : a < B64) : IntKind.u64.wrap ((a : Int) - (b : Int)) = ((n : Nat) : Int) := by
 have : (a : Int) - (b : Int) = ((n : Nat) : Int) := by omega
 rw [this]
 exact u64_small (by omega)
theorem u64_mul {a b : Nat} (h : a * b < B64) : IntKind.u64.wrap ((a : Int) * (b : Int)) = (a : Int) * (b : Int) := by
 have := u64_small h
 rwa [Int.natCast_mul] at this
theorem u64_add' {a b : Nat} (h : a + b < B64) : IntKind.u64.wrap ((a : Int) + (b : Int)) = (a : Int) + (b : Int) := by
 have := u64_small h
 rwa [Int.natCast_add] at this
theorem div64_core (x low y s Y yn1 yn0 UU u10 u1 un0 qi ri QQ : Nat) (hx0 : 0 < x) (hx : x < y) (hsb : (64 : Int) - ((blen y : Nat) : Int) = (s : Int)) (hs : s ≤ 63) (hy : y < B64)
  (eY : IntKind.u64.wrap ((y : Int) * 2 ^ s) = (Y : Int)) (eyn1 : (Y : Int) / 4294967296 = (yn1 : Int)) (eyn0 : bits BinOp.and IntKind.u64 (Y : Int) 4294967295 = (yn0 : Int))
  (eU : bits BinOp.or IntKind.u64 (IntKind.u64.wrap ((x : Int) * 2 ^ s)) ((low : Int) / 2 ^ (64 - s)) = (UU : Int)) (eu10 : IntKind.u64.wrap ((low : Int) * 2 ^ s) = (u10 : Int))
  (eun1 : (u10 : Int) / 4294967296 = (u1 : Int)) (eun0 : bits BinOp.and IntKind.u64 (u10 : Int) 4294967295 = (un0 : Int)) (hh : Half Y yn1 yn0 UU u1)
  (eq : IntKind.u64.wrap ((UU : Int) / (yn1 : Int)) = (qi : Int)) (eqm : IntKind.u64.wrap ((qi : Int) * (yn1 : Int)) = (qi : Int) * (yn1 : Int)) (eri : IntKind.u64.wrap ((UU : Int) - (qi : Int) * (yn1 : Int)) = (ri : Int))
  (hrel : HalfRel Y yn1 yn0 UU u1 qi ri) (hQQ : QQ = (UU * 4294967296 + u1) / Y)
  (V qj rj Q0 : Nat) (eV : IntKind.u64.wrap (IntKind.u64.wrap (IntKind.u64.wrap ((UU : Int) * 4294967296) + (u1 : Int)) - IntKind.u64.wrap ((QQ : Int) * (Y : Int))) = (V : Int)) (hh2 : Half Y yn1 yn0 V un0)
  (eq2 : IntKind.u64.wrap ((V : Int) / (yn1 : Int)) = (qj : Int)) (eqm2 : IntKind.u64.wrap ((qj : Int) * (yn1 : Int)) = (qj : Int) * (yn1 : Int)) (eri2 : IntKind.u64.wrap ((V : Int) - (qj : Int) * (yn1 : Int)) = (rj : Int))
  (hrel2 : HalfRel Y yn1 yn0 V un0 qj rj) (hQ0 : Q0 = (V * 4294967296 + un0) / Y)
  (eQ : IntKind.u64.wrap (IntKind.u64.wrap ((QQ : Int) * 4294967296) + (Q0 : Int)) = (((x * B64 + low) / y : Nat) : Int))
  (eR : IntKind.u64.wrap (IntKind.u64.wrap (IntKind.u64.wrap ((V : Int) * 4294967296) + (un0 : Int)) - IntKind.u64.wrap ((Q0 : Int) * (Y : Int))) / 2 ^ s = (((x * B64 + low) % y : Nat) : Int)) (w : World) :
  Calls Tryz.prog 241 #[.int .u64 x, .int .u64 low, .int .u64 y] w (RetDiv w ((x * B64 + low) / y) ((x * B64 + low) % y)) := by
 have hy0 : ((y : Int) == 0) = false := by rw [beq_eq_false_iff_ne]; omega
 have hx1 : ((x : Int) == 0) = false := by rw [beq_eq_false_iff_ne]; omega
 have hy1 : ¬ ((y : Int) ≤ (x : Int)) := by omega
 have hyn : ¬ ((yn1 : Int) = 0) := by have := hh.h1; omega
 have hyn' : 1 ≤ (yn1 : Int) := by have := hh.h1; omega
 have HLZ := lh (lz64_any y hy w)
 rw [hsb] at HLZ
 have HH := lh hh
 have HREL := lh hrel
 have HQQ := lh hQQ
 have HH2 := lh hh2
 have HREL2 := lh hrel2
 have HQ0 := lh hQ0
 have EQ := lh eQ
 have ER := lh eR
 clear hsb hh hrel hQQ hh2 hrel2 hQ0 eQ eR
 go_enter Tryz.func241, Tryz.ntmps241
 go_wp2_with fail
 refine HLZ.out.mono ?_
 rintro e w' ⟨rfl, rfl⟩
 go_upto_block 0 with fail
 go_cut [15, 16] (fun tq tr wx => w = wx ∧ tq = .int .u64 (QQ : Int) ∧ ∃ r0 : Nat, tr = .int .u64 (r0 : Int))
 case first =>
  go_wp2_with fail
  go_loop [15, 16] (fun tq tr => ∃ q r : Nat, tq = .int .u64 (q : Int) ∧ tr = .int .u64 (r : Int) ∧ Hid (HalfRel Y yn1 yn0 UU u1 q r)) (fun tq _ => (intOf tq).toNat)
  case atStart => exact ⟨qi, ri, rfl, rfl, HREL.out⟩
  case round =>
   obtain ⟨q, r, rfl, rfl, hk⟩ := hrel
   have hr := hk.out.r
   have hqle := hk.out.le
   have hyn2 := HH.out.h2
   have hyn0 := HH.out.h0
   have hu1 := HH.out.u1
   by_cases hbig : 4294967296 ≤ q ∨ 4294967296 * r + u1 < q * yn0
   ·have hlt : (UU * 4294967296 + u1) / Y < q := by
     rcases hbig with h | h
     ·exact half_big HH.out h
     ·exact half_gt HH.out hk.out h
    obtain ⟨n1, n2, n3, n4⟩ := half_next HH.out hk.out hlt
    have N3 := lh n3
    have N4 := lh n4
    have eq1 : IntKind.u64.wrap ((q : Int) - 1) = ((q - 1 : Nat) : Int) := by
     have h := u64_small (n := q - 1) (by rw [B64_eq]; omega)
     rwa [show ((q - 1 : Nat) : Int) = (q : Int) - 1 by omega] at h ⊢
    have er1 : IntKind.u64.wrap ((r : Int) + (yn1 : Int)) = (r : Int) + (yn1 : Int) := u64_add' (by rw [B64_eq]; omega)
    clear n3 n4 hlt
    by_cases hq : 4294967296 ≤ q
    ·have t1 : (4294967296 : Int) ≤ (q : Int) := by omega
     clear hbig
     by_cases hb : 4294967296 ≤ r + yn1
     ·have t2 : (4294967296 : Int) ≤ (r : Int) + (yn1 : Int) := by omega
      have HQ := lh (N4.out hb)
      go_wp2_with fail
      go_meet
      refine ⟨rfl, ?_, r + yn1, by go_num⟩
      rw [HQ.out, ← HQQ.out]
     ·have t2 : ¬ (4294967296 : Int) ≤ (r : Int) + (yn1 : Int) := by omega
      have HQ := lh (N3.out (by omega))
      go_wp2_with fail
      go_round
      case rel => exact ⟨q - 1, r + yn1, rfl, by go_num, HQ.out⟩
      case measure => simp [intOf]; omega
    ·have t1 : ¬ (4294967296 : Int) ≤ (q : Int) := by omega
     have hg : 4294967296 * r + u1 < q * yn0 := by
      rcases hbig with h | h
      ·omega
      ·exact h
     have em1 : IntKind.u64.wrap ((q : Int) * (yn0 : Int)) = (q : Int) * (yn0 : Int) := u64_mul (by
      have h1 : q * yn0 ≤ 4294967295 * 4294967295 := Nat.mul_le_mul (by omega) (by omega)
      rw [B64_eq]; omega)
     have em2 : IntKind.u64.wrap (4294967296 * (r : Int)) = 4294967296 * (r : Int) := u64_mul (a := 4294967296) (by rw [B64_eq]; omega)
     have em3 : IntKind.u64.wrap (4294967296 * (r : Int) + (u1 : Int)) = 4294967296 * (r : Int) + (u1 : Int) := u64_add' (a := 4294967296 * r) (by rw [B64_eq]; omega)
     have t3 : 4294967296 * (r : Int) + (u1 : Int) < (q : Int) * (yn0 : Int) := by
      rw [← Int.natCast_mul]; omega
     clear hbig hg
     by_cases hb : 4294967296 ≤ r + yn1
     ·have t2 : (4294967296 : Int) ≤ (r : Int) + (yn1 : Int) := by omega
      have HQ := lh (N4.out hb)
      go_wp2_with fail
      go_meet
      refine ⟨rfl, ?_, r + yn1, by go_num⟩
      rw [HQ.out, ← HQQ.out]
     ·have t2 : ¬ (4294967296 : Int) ≤ (r : Int) + (yn1 : Int) := by omega
      have HQ := lh (N3.out (by omega))
      go_wp2_with fail
      go_round
      case rel => exact ⟨q - 1, r + yn1, rfl, by go_num, HQ.out⟩
      case measure => simp [intOf]; omega
   ·have hq : ¬ 4294967296 ≤ q := fun h => hbig (.inl h)
    have hg : q * yn0 ≤ 4294967296 * r + u1 := Nat.le_of_not_lt fun h => hbig (.inr h)
    have HQ := lh (half_done HH.out hk.out hg)
    have t1 : ¬ (4294967296 : Int) ≤ (q : Int) := by omega
    have em1 : IntKind.u64.wrap ((q : Int) * (yn0 : Int)) = (q : Int) * (yn0 : Int) := u64_mul (by
     have h1 : q * yn0 ≤ 4294967295 * 4294967295 := Nat.mul_le_mul (by omega) (by omega)
     rw [B64_eq]; omega)
    have em2 : IntKind.u64.wrap (4294967296 * (r : Int)) = 4294967296 * (r : Int) := u64_mul (a := 4294967296) (by rw [B64_eq]; omega)
    have em3 : IntKind.u64.wrap (4294967296 * (r : Int) + (u1 : Int)) = 4294967296 * (r : Int) + (u1 : Int) := u64_add' (a := 4294967296 * r) (by rw [B64_eq]; omega)
    have t3 : ¬ 4294967296 * (r : Int) + (u1 : Int) < (q : Int) * (yn0 : Int) := by
     rw [← Int.natCast_mul]; omega
    clear hbig hg
    go_wp2_with fail
    go_meet
    refine ⟨rfl, ?_, r, rfl⟩
    rw [HQ.out, ← HQQ.out]
 case rest =>
  obtain ⟨rfl, rfl, r0, rfl⟩ := hcut
  go_upto_block 2 with fail
  go_cut [18, 16] (fun tq tr wx => w = wx ∧ tq = .int .u64 (Q0 : Int) ∧ ∃ r0 : Nat, tr = .int .u64 (r0 : Int))
  case first =>
   go_wp2_with fail
   go_loop [18, 16] (fun tq tr => ∃ q r : Nat, tq = .int .u64 (q : Int) ∧ tr = .int .u64 (r : Int) ∧ Hid (HalfRel Y yn1 yn0 V un0 q r)) (fun tq _ => (intOf tq).toNat)
   case atStart => exact ⟨qj, rj, rfl, rfl, HREL2.out⟩
   case round =>
    obtain ⟨q, r, rfl, rfl, hk⟩ := hrel
    have hr := hk.out.r
    have hqle := hk.out.le
    have hyn2 := HH2.out.h2
    have hyn0 := HH2.out.h0
    have hun0 := HH2.out.u1
    by_cases hbig : 4294967296 ≤ q ∨ 4294967296 * r + un0 < q * yn0
    ·have hlt : (V * 4294967296 + un0) / Y < q := by
      rcases hbig with h | h
      ·exact half_big HH2.out h
      ·exact half_gt HH2.out hk.out h
     obtain ⟨n1, n2, n3, n4⟩ := half_next HH2.out hk.out hlt
     have N3 := lh n3
     have N4 := lh n4
     have eq1 : IntKind.u64.wrap ((q : Int) - 1) = ((q - 1 : Nat) : Int) := by
      have h := u64_small (n := q - 1) (by rw [B64_eq]; omega)
      rwa [show ((q - 1 : Nat) : Int) = (q : Int) - 1 by omega] at h ⊢
     have er1 : IntKind.u64.wrap ((r : Int) + (yn1 : Int)) = (r : Int) + (yn1 : Int) := u64_add' (by rw [B64_eq]; omega)
     clear n3 n4 hlt
     by_cases hq : 4294967296 ≤ q
     ·have t1 : (4294967296 : Int) ≤ (q : Int) := by omega
      clear hbig
      by_cases hb : 4294967296 ≤ r + yn1
      ·have t2 : (4294967296 : Int) ≤ (r : Int) + (yn1 : Int) := by omega
       have HQ := lh (N4.out hb)
       go_wp2_with fail
       go_meet
       refine ⟨rfl, ?_, r + yn1, by go_num⟩
       rw [HQ.out, ← HQ0.out]
      ·have t2 : ¬ (4294967296 : Int) ≤ (r : Int) + (yn1 : Int) := by omega
       have HQ := lh (N3.out (by omega))
       go_wp2_with fail
       go_round
       case rel => exact ⟨q - 1, r + yn1, rfl, by go_num, HQ.out⟩
       case measure => simp [intOf]; omega
     ·have t1 : ¬ (4294967296 : Int) ≤ (q : Int) := by omega
      have hg : 4294967296 * r + un0 < q * yn0 := by
       rcases hbig with h | h
       ·omega
       ·exact h
      have em1 : IntKind.u64.wrap ((q : Int) * (yn0 : Int)) = (q : Int) * (yn0 : Int) := u64_mul (by
       have h1 : q * yn0 ≤ 4294967295 * 4294967295 := Nat.mul_le_mul (by omega) (by omega)
       rw [B64_eq]; omega)
      have em2 : IntKind.u64.wrap (4294967296 * (r : Int)) = 4294967296 * (r : Int) := u64_mul (a := 4294967296) (by rw [B64_eq]; omega)
      have em3 : IntKind.u64.wrap (4294967296 * (r : Int) + (un0 : Int)) = 4294967296 * (r : Int) + (un0 : Int) := u64_add' (a := 4294967296 * r) (by rw [B64_eq]; omega)
      have t3 : 4294967296 * (r : Int) + (un0 : Int) < (q : Int) * (yn0 : Int) := by
       rw [← Int.natCast_mul]; omega
      clear hbig hg
      by_cases hb : 4294967296 ≤ r + yn1
      ·have t2 : (4294967296 : Int) ≤ (r : Int) + (yn1 : Int) := by omega
       have HQ := lh (N4.out hb)
       go_wp2_with fail
       go_meet
       refine ⟨rfl, ?_, r + yn1, by go_num⟩
       rw [HQ.out, ← HQ0.out]
      ·have t2 : ¬ (4294967296 : Int) ≤ (r : Int) + (yn1 : Int) := by omega
       have HQ := lh (N3.out (by omega))
       go_wp2_with fail
       go_round
       case rel => exact ⟨q - 1, r + yn1, rfl, by go_num, HQ.out⟩
       case measure => simp [intOf]; omega
    ·have hq : ¬ 4294967296 ≤ q := fun h => hbig (.inl h)
     have hg : q * yn0 ≤ 4294967296 * r + un0 := Nat.le_of_not_lt fun h => hbig (.inr h)
     have HQ := lh (half_done HH2.out hk.out hg)
     have t1 : ¬ (4294967296 : Int) ≤ (q : Int) := by omega
     have em1 : IntKind.u64.wrap ((q : Int) * (yn0 : Int)) = (q : Int) * (yn0 : Int) := u64_mul (by
      have h1 : q * yn0 ≤ 4294967295 * 4294967295 := Nat.mul_le_mul (by omega) (by omega)
      rw [B64_eq]; omega)
     have em2 : IntKind.u64.wrap (4294967296 * (r : Int)) = 4294967296 * (r : Int) := u64_mul (a := 4294967296) (by rw [B64_eq]; omega)
     have em3 : IntKind.u64.wrap (4294967296 * (r : Int) + (un0 : Int)) = 4294967296 * (r : Int) + (un0 : Int) := u64_add' (a := 4294967296 * r) (by rw [B64_eq]; omega)
     have t3 : ¬ 4294967296 * (r : Int) + (un0 : Int) < (q : Int) * (yn0 : Int) := by
      rw [← Int.natCast_mul]; omega
     clear hbig hg
     go_wp2_with fail
     go_meet
     refine ⟨rfl, ?_, r, rfl⟩
     rw [HQ.out, ← HQ0.out]
  case rest =>
   obtain ⟨rfl, rfl, r1, rfl⟩ := hcut
   go_wp2_with fail
   go_ret2
   rw [EQ.out, ER.out]
   exact ⟨rfl, 0, rfl⟩
end

section
open Go.RowKit
theorem u64_and_mask (a : Nat) (ha : a < B64) : bits BinOp.and IntKind.u64 (a : Int) 4294967295 = ((a % 4294967296 : Nat) : Int) := by
 have h := u64_and_nat a 4294967295 (by rw [B64_eq] at ha; exact ha) (by omega)
 rw [show a &&& 4294967295 = a % 4294967296 from Nat.and_two_pow_sub_one_eq_mod a 32] at h
 exact h
theorem u64_rest {U u q Y v : Nat} (h : U * 4294967296 + u = q * Y + v) (hv : v < B64) :
  IntKind.u64.wrap (IntKind.u64.wrap (IntKind.u64.wrap ((U : Int) * 4294967296) + (u : Int)) - IntKind.u64.wrap ((q : Int) * (Y : Int))) = (v : Int) := by
 rw [B64_eq] at hv
 simp only [IntKind.wrap_u64]
 have e : ((q * Y : Nat) : Int) = (q : Int) * (Y : Int) := Int.natCast_mul q Y
 rw [← e]
 generalize q * Y = p at *
 omega
theorem u64_quot {q1 q0 q : Nat} (h : q1 * 4294967296 + q0 = q) (hq : q < B64) : IntKind.u64.wrap (IntKind.u64.wrap ((q1 : Int) * 4294967296) + (q0 : Int)) = (q : Int) := by
 rw [B64_eq] at hq
 simp only [IntKind.wrap_u64]
 omega
theorem regroup (U u : Nat) : U * 18446744073709551616 + u = (U * 4294967296 + u / 4294967296) * 4294967296 + u % 4294967296 := by omega
theorem div64_pos (x low y : Nat) (hx0 : 0 < x) (hx : x < y) (hl : low < B64) (hy : y < B64) (w : World) :
  Calls Tryz.prog 241 #[.int .u64 x, .int .u64 low, .int .u64 y] w (RetDiv w ((x * B64 + low) / y) ((x * B64 + low) % y)) := by
 have hb := blen_digit hy
 have hb1 : 1 ≤ blen y := by
  rcases Nat.eq_zero_or_pos (blen y) with h | h
  ·have := blen_lt y
   rw [h] at this
   omega
  ·exact h
 obtain ⟨s, hs⟩ : ∃ s, s + blen y = 64 := ⟨64 - blen y, by omega⟩
 have hs64 : s ≤ 64 := by omega
 have hY1 : y * 2 ^ s < B64 := by
  have h1 := blen_lt y
  rw [B64_pow, ← hs, Nat.add_comm, Nat.pow_add]
  exact Nat.mul_lt_mul_of_pos_right h1 (Nat.pow_pos (by omega))
 have hY2 : 9223372036854775808 ≤ y * 2 ^ s := by
  have h1 := blen_le (n := y) (k := blen y - 1) (by omega)
  have h2 : 2 ^ (blen y - 1) * 2 ^ s ≤ y * 2 ^ s := Nat.mul_le_mul_right _ h1
  rw [← Nat.pow_add, show blen y - 1 + s = 63 by omega] at h2
  exact h2
 have hYe : y * 2 ^ s / 4294967296 * 4294967296 + y * 2 ^ s % 4294967296 = y * 2 ^ s := Nat.div_add_mod' _ _
 have hxs : x * 2 ^ s < y * 2 ^ s := Nat.mul_lt_mul_of_pos_right hx (Nat.pow_pos (by omega))
 have hlo : lo (x * 2 ^ s) = x * 2 ^ s := lo_of_lt (by omega)
 have hlh := lo_hi (low * 2 ^ s)
 have hN : (x * B64 + low) * 2 ^ s = (x * 2 ^ s + hi (low * 2 ^ s)) * B64 + lo (low * 2 ^ s) := by
  have e : x * B64 * 2 ^ s = x * 2 ^ s * B64 := Nat.mul_right_comm _ _ _
  have e2 : hi (low * 2 ^ s) * B64 = B64 * hi (low * 2 ^ s) := Nat.mul_comm _ _
  rw [Nat.add_mul, Nat.add_mul, e, e2]
  omega
 have hUY : x * 2 ^ s + hi (low * 2 ^ s) < y * 2 ^ s := by
  have h1 : (x * B64 + low) * 2 ^ s < y * B64 * 2 ^ s := Nat.mul_lt_mul_of_pos_right (by
   have : (x + 1) * B64 ≤ y * B64 := Nat.mul_le_mul_right _ hx
   rw [Nat.succ_mul] at this
   omega) (Nat.pow_pos (by omega))
  rw [hN, Nat.mul_right_comm] at h1
  have h2 := lo_lt (low * 2 ^ s)
  refine Nat.lt_of_mul_lt_mul_right (a := B64) ?_
  omega
 generalize hY : y * 2 ^ s = Y at *
 generalize hU : x * 2 ^ s + hi (low * 2 ^ s) = U at *
 have hu := lo_lt (low * 2 ^ s)
 generalize hu10 : lo (low * 2 ^ s) = u10 at *
 have B := B64_eq
 have ey1 : ((Y : Int)) / 4294967296 = ((Y / 4294967296 : Nat) : Int) := by omega
 have ey0 := u64_and_mask Y hY1
 have eu1 : ((u10 : Int)) / 4294967296 = ((u10 / 4294967296 : Nat) : Int) := by omega
 have eu0 := u64_and_mask u10 hu
 have hq3 : Y / 4294967296 < 4294967296 := by omega
 have hq4 : 2147483648 ≤ Y / 4294967296 := by omega
 have hq5 : Y % 4294967296 < 4294967296 := by omega
 have hq6 : u10 / 4294967296 < 4294967296 := by omega
 have hq7 : u10 % 4294967296 < 4294967296 := by omega
 have hrg := regroup U u10
 rewrite [← B] at hrg
 generalize hy1 : Y / 4294967296 = y1 at *
 generalize hy0 : Y % 4294967296 = y0 at *
 generalize hu1 : u10 / 4294967296 = u1 at *
 generalize hu0 : u10 % 4294967296 = u0 at *
 have hh1 : Half Y y1 y0 U u1 := ⟨hYe.symm, hq5, hq4, hq3, hUY, hq6⟩
 have hr1 := half_start hh1
 have hd1 := Nat.div_add_mod (U * 4294967296 + u1) Y
 have hv1 := Nat.mod_lt (U * 4294967296 + u1) hh1.pos
 have hq1 := hh1.lt
 generalize hQ1 : (U * 4294967296 + u1) / Y = Q1 at *
 generalize hV : (U * 4294967296 + u1) % Y = V at *
 have hh2 : Half Y y1 y0 V u0 := ⟨hYe.symm, hq5, hq4, hq3, hv1, hq7⟩
 have hr2 := half_start hh2
 obtain ⟨Q0, hQ0⟩ : ∃ Q0, Q0 = (V * 4294967296 + u0) / Y := ⟨_, rfl⟩
 obtain ⟨R, hR⟩ : ∃ R, R = (V * 4294967296 + u0) % Y := ⟨_, rfl⟩
 have hd2 : Y * Q0 + R = V * 4294967296 + u0 := by rewrite [hQ0, hR]; exact Nat.div_add_mod _ _
 have hv2 : R < Y := by rewrite [hR]; exact Nat.mod_lt _ hh1.pos
 obtain ⟨g1, g2⟩ := halves (y := y) (s := s) (hiw := x) (low := low) (Y := Y) (N := (x * B64 + low) * 2 ^ s) (U32 := U) (un1 := u1) (un0 := u0) (q1 := Q1) (U21 := V) (q0 := Q0)
  hY.symm rfl (hN.trans hrg) (Nat.lt_of_le_of_lt (Nat.zero_le _) hx) hQ1.symm hV.symm hQ0
 rewrite [← hR] at g2
 have hquo : (x * B64 + low) / y < B64 := by
  refine Nat.div_lt_of_lt_mul ?_
  have : (x + 1) * B64 ≤ y * B64 := Nat.mul_le_mul_right _ hx
  rewrite [Nat.succ_mul] at this
  omega
 have f1 := Nat.div_add_mod' U y1
 have f2 := Nat.div_add_mod' V y1
 have hU64 : U < B64 := Nat.lt_trans hUY hY1
 have hV64 : V < B64 := Nat.lt_trans hv1 hY1
 have hR64 : R < B64 := Nat.lt_trans hv2 hY1
 have a1 : IntKind.u64.wrap ((U : Int) / (y1 : Int)) = ((U / y1 : Nat) : Int) := u64_small (n := U / y1) (Nat.lt_of_le_of_lt (Nat.div_le_self _ _) hU64)
 have a2 : IntKind.u64.wrap ((V : Int) / (y1 : Int)) = ((V / y1 : Nat) : Int) := u64_small (n := V / y1) (Nat.lt_of_le_of_lt (Nat.div_le_self _ _) hV64)
 have a3 := u64_mul (a := U / y1) (b := y1) (Nat.lt_of_le_of_lt (Nat.div_mul_le_self _ _) hU64)
 have a4 := u64_mul (a := V / y1) (b := y1) (Nat.lt_of_le_of_lt (Nat.div_mul_le_self _ _) hV64)
 have a5 : IntKind.u64.wrap ((U : Int) - ((U / y1 : Nat) : Int) * (y1 : Int)) = ((U % y1 : Nat) : Int) := by
  rewrite [← Int.natCast_mul]; exact u64_sub f1 hU64
 have a6 : IntKind.u64.wrap ((V : Int) - ((V / y1 : Nat) : Int) * (y1 : Int)) = ((V % y1 : Nat) : Int) := by
  rewrite [← Int.natCast_mul]; exact u64_sub f2 hV64
 have a7 := u64_rest (U := U) (u := u1) (q := Q1) (Y := Y) (v := V) (by rewrite [Nat.mul_comm Q1 Y]; exact hd1.symm) hV64
 have a8 := u64_rest (U := V) (u := u0) (q := Q0) (Y := Y) (v := R) (by rewrite [Nat.mul_comm Q0 Y]; exact hd2.symm) hR64
 have a9 : IntKind.u64.wrap ((y : Int) * 2 ^ s) = (Y : Int) := by
  have := u64_small (n := y * 2 ^ s) (by rw [hY]; exact hY1)
  rewrite [Int.natCast_mul] at this
  have e : ((2 ^ s : Nat) : Int) = (2 : Int) ^ s := by push_cast; rfl
  rewrite [e] at this
  rewrite [this, ← hY, Int.natCast_mul, e]
  rfl
 have a10 : IntKind.u64.wrap ((low : Int) * 2 ^ s) = (u10 : Int) := by
  have := u64_wrap_nat (low * 2 ^ s)
  rewrite [hu10, Int.natCast_mul] at this
  have e : ((2 ^ s : Nat) : Int) = (2 : Int) ^ s := by push_cast; rfl
  rewrite [e] at this
  exact this
 have a11 := raise_or (x := x) (y := low) hl hs64
 rewrite [hlo, hU] at a11
 have a12 : IntKind.u64.wrap (IntKind.u64.wrap (IntKind.u64.wrap ((V : Int) * 4294967296) + (u0 : Int)) - IntKind.u64.wrap ((Q0 : Int) * (Y : Int))) / 2 ^ s = (((x * B64 + low) % y : Nat) : Int) := by
  rewrite [a8, ← g2]
  have e : ((2 ^ s : Nat) : Int) = (2 : Int) ^ s := by push_cast; rfl
  rewrite [Int.natCast_ediv, e]
  rfl
 exact div64_core x low y s Y y1 y0 U u10 u1 u0 (U / y1) (U % y1) Q1 hx0 hx (by omega) (by omega) hy a9 ey1 ey0 a11 a10 eu1 eu0 hh1 a1 a3 a5 hr1 hQ1.symm V (V / y1) (V % y1) Q0 a7 hh2 a2 a4 a6 hr2 hQ0 (u64_quot g1 hquo) a12 w
theorem div64_any (x low y : Nat) (hx : x < y) (hl : low < B64) (hy : y < B64) (w : World) :
  Calls Tryz.prog 241 #[.int .u64 x, .int .u64 low, .int .u64 y] w (RetDiv w ((x * B64 + low) / y) ((x * B64 + low) % y)) := by
 rcases Nat.eq_zero_or_pos x with h0 | h0
 ·subst h0
  rw [Nat.zero_mul, Nat.zero_add]
  exact div64_zero low y hl hx w
 ·exact div64_pos x low y h0 hx hl hy w
