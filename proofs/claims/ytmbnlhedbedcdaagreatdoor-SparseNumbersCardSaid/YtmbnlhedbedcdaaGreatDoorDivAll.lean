/- DivAll: several texts in one. -/
import Derived.Test.YtmbnlhedbedcdaaGreatDoorLower
import Derived.Deep.DeepCutAuto
import Derived.Deep.LoopGhost
import Derived.Deep.CutBlock
/- math/bits.Div64: a quotient of two digits by one. -/
namespace Go.Proofs.YtmbnlhedbedcdaaGreatDoor
open Go.RowKit

/-- One half of the division: U32, u1 by Y of two halves yn1, yn0, the top bit set. -/
structure Half (Y yn1 yn0 U32 u1 : Nat) : Prop where
  y : Y = yn1 * 4294967296 + yn0
  h0 : yn0 < 4294967296
  h1 : 2147483648 ≤ yn1
  h2 : yn1 < 4294967296
  u : U32 < Y
  u1 : u1 < 4294967296
structure HalfRel (Y yn1 yn0 U32 u1 q r : Nat) : Prop where
  e : q * yn1 + r = U32
  ge : (U32 * 4294967296 + u1) / Y ≤ q
  le : q ≤ 4294967297
  r : r < 4294967296

section
variable {Y yn1 yn0 U32 u1 q r : Nat}
theorem Half.pos (h : Half Y yn1 yn0 U32 u1) : 0 < Y := by have := h.y; have := h.h1; omega
theorem Half.lt (h : Half Y yn1 yn0 U32 u1) : (U32 * 4294967296 + u1) / Y < 4294967296 := by
  refine Nat.div_lt_of_lt_mul ?_
  have h1 := h.u
  have h2 := h.u1
  omega
theorem half_start (h : Half Y yn1 yn0 U32 u1) : HalfRel Y yn1 yn0 U32 u1 (U32 / yn1) (U32 % yn1) := by
  have h1 := h.h1
  have h2 := h.h2
  have hm := Nat.mod_lt U32 (show yn1 > 0 by omega)
  refine ⟨Nat.div_add_mod' _ _, ?_, ?_, by omega⟩
  · rw [Nat.le_div_iff_mul_le (by omega)]
    have h3 := Nat.div_mul_le_self (U32 * 4294967296 + u1) Y
    generalize (U32 * 4294967296 + u1) / Y = Q at *
    have h4 : Q * Y = Q * yn1 * 4294967296 + Q * yn0 := by rw [h.y, Nat.mul_add, Nat.mul_assoc]
    have := h.u1
    omega
  · have h3 : U32 / yn1 < 4294967298 := by
      refine Nat.div_lt_of_lt_mul ?_
      have := h.u
      have := h.y
      have := h.h0
      omega
    omega
theorem half_next (h : Half Y yn1 yn0 U32 u1) (k : HalfRel Y yn1 yn0 U32 u1 q r) (hq : (U32 * 4294967296 + u1) / Y < q) :
    1 ≤ q ∧ r + yn1 < 8589934592 ∧ (r + yn1 < 4294967296 → HalfRel Y yn1 yn0 U32 u1 (q - 1) (r + yn1)) ∧ (4294967296 ≤ r + yn1 → q - 1 = (U32 * 4294967296 + u1) / Y) := by
  have e1 := k.e
  have h2 := h.h2
  have hr := k.r
  have hq1 : 1 ≤ q := Nat.lt_of_le_of_lt (Nat.zero_le _) hq
  have hq2 : (U32 * 4294967296 + u1) / Y ≤ q - 1 := Nat.le_sub_one_of_lt hq
  have e2 : (q - 1) * yn1 + (r + yn1) = U32 := by
    have : q * yn1 = (q - 1) * yn1 + yn1 := by rw [← Nat.succ_mul]; congr 1; omega
    omega
  refine ⟨hq1, by omega, fun hlt => ⟨e2, hq2, by have := k.le; omega, hlt⟩, fun hge => ?_⟩
  refine Nat.le_antisymm ?_ hq2
  rw [Nat.le_div_iff_mul_le h.pos, h.y, Nat.mul_add, ← Nat.mul_assoc]
  have h3 : (q - 1) * yn0 ≤ 4294967296 * 4294967295 := Nat.mul_le_mul (by have := k.le; omega) (by have := h.h0; omega)
  omega
theorem half_big (h : Half Y yn1 yn0 U32 u1) (hq : 4294967296 ≤ q) : (U32 * 4294967296 + u1) / Y < q := Nat.lt_of_lt_of_le h.lt hq
theorem half_gt (h : Half Y yn1 yn0 U32 u1) (k : HalfRel Y yn1 yn0 U32 u1 q r) (hq : 4294967296 * r + u1 < q * yn0) : (U32 * 4294967296 + u1) / Y < q := by
  refine (Nat.div_lt_iff_lt_mul h.pos).2 ?_
  have h4 : q * Y = q * yn1 * 4294967296 + q * yn0 := by rw [h.y, Nat.mul_add, Nat.mul_assoc]
  have := k.e
  omega
theorem half_done (h : Half Y yn1 yn0 U32 u1) (k : HalfRel Y yn1 yn0 U32 u1 q r) (hq : q * yn0 ≤ 4294967296 * r + u1) : q = (U32 * 4294967296 + u1) / Y := by
  refine Nat.le_antisymm ?_ k.ge
  rw [Nat.le_div_iff_mul_le h.pos]
  have h4 : q * Y = q * yn1 * 4294967296 + q * yn0 := by rw [h.y, Nat.mul_add, Nat.mul_assoc]
  have := k.e
  omega
end

/-- The whole division out of its halves. -/
theorem halves {y s hiw low Y N U32 un1 un0 q1 U21 q0 : Nat} (hY : Y = y * 2 ^ s) (hN : N = (hiw * B64 + low) * 2 ^ s) (hU : N = (U32 * 4294967296 + un1) * 4294967296 + un0)
    (hy : 0 < y) (hq1 : q1 = (U32 * 4294967296 + un1) / Y) (hU21 : U21 = (U32 * 4294967296 + un1) % Y) (hq0 : q0 = (U21 * 4294967296 + un0) / Y) :
    q1 * 4294967296 + q0 = (hiw * B64 + low) / y ∧ ((U21 * 4294967296 + un0) % Y) / 2 ^ s = (hiw * B64 + low) % y := by
  have hp : 0 < 2 ^ s := Nat.pow_pos (by omega)
  have hYp : 0 < Y := by rw [hY]; exact Nat.mul_pos hy hp
  have e1 : (hiw * B64 + low) / y = N / Y := by rw [hN, hY, Nat.mul_div_mul_right _ _ hp]
  have e2 : (hiw * B64 + low) % y = N % Y / 2 ^ s := by rw [hN, hY, Nat.mul_mod_mul_right, Nat.mul_div_cancel _ hp]
  have h3 := Nat.div_add_mod (U32 * 4294967296 + un1) Y
  have h4 := Nat.div_add_mod (U21 * 4294967296 + un0) Y
  rw [← hq1, ← hU21] at h3
  rw [← hq0] at h4
  have h5 : N = Y * (q1 * 4294967296 + q0) + (U21 * 4294967296 + un0) % Y := by
    have e : Y * (q1 * 4294967296 + q0) = Y * q1 * 4294967296 + Y * q0 := by rw [Nat.mul_add, Nat.mul_assoc]
    rw [e, hU]
    omega
  have h6 : (U21 * 4294967296 + un0) % Y < Y := Nat.mod_lt _ hYp
  rw [e1, e2]
  clear hU h3 h4 hN hq1 hU21 hq0 e1 e2
  generalize (U21 * 4294967296 + un0) % Y = R at h5 h6 ⊢
  generalize q1 * 4294967296 + q0 = Q at h5 ⊢
  subst h5
  refine ⟨?_, ?_⟩
  · rw [Nat.mul_add_div hYp, Nat.div_eq_of_lt h6, Nat.add_zero]
  · rw [Nat.mul_add_mod, Nat.mod_eq_of_lt h6]
/-- Two digits by one: what is told, quietly. -/
def RetDiv (w : World) (q r : Nat) (e : Ending) (w' : World) : Prop := e = .returned (.tuple #[.int .u64 ((q : Nat) : Int), .int .u64 ((r : Nat) : Int)]) ∧ ∃ k, w' = w.drewN k

set_option maxHeartbeats 1000000 in
theorem div64_zero (low y : Nat) (hl : low < B64) (hy : 0 < y) (w : World) :
    Calls Tryz.prog 115 #[.int .u64 0, .int .u64 low, .int .u64 y] w (RetDiv w (low / y) (low % y)) := by
  have hy0 : ((y : Int) == 0) = false := by rw [beq_eq_false_iff_ne]; omega
  have hy1 : ¬ ((y : Int) ≤ 0) := by omega
  have hy2 : 1 ≤ (y : Int) := by omega
  have hq : IntKind.u64.wrap ((low : Int) / (y : Int)) = (low : Int) / (y : Int) := u64_small (n := low / y) (Nat.lt_of_le_of_lt (Nat.div_le_self _ _) hl)
  clear hl
  go_enter Tryz.func115, Tryz.ntmps115
  go_wp2_with fail
  go_quiet (fail)
  go_wp2
  go_ret2
  exact ⟨rfl, _, rfl⟩

theorem u64_sub {a b n : Nat} (h : b + n = a) (ha : a < B64) : IntKind.u64.wrap ((a : Int) - (b : Int)) = ((n : Nat) : Int) := by
  have : (a : Int) - (b : Int) = ((n : Nat) : Int) := by omega
  rw [this]
  exact u64_small (by omega)
theorem u64_mul {a b : Nat} (h : a * b < B64) : IntKind.u64.wrap ((a : Int) * (b : Int)) = (a : Int) * (b : Int) := by
  have := u64_small h
  rwa [Int.natCast_mul] at this
theorem u64_add' {a b : Nat} (h : a + b < B64) : IntKind.u64.wrap ((a : Int) + (b : Int)) = (a : Int) + (b : Int) := by
  have := u64_small h
  rwa [Int.natCast_add] at this

set_option maxHeartbeats 4000000 in
theorem div64_core (x low y s Y yn1 yn0 UU u10 u1 un0 qi ri QQ : Nat) (hx0 : 0 < x) (hx : x < y) (hsb : (64 : Int) - ((blen y : Nat) : Int) = (s : Int)) (hs : s ≤ 63) (hy : y < B64)
    (eY : IntKind.u64.wrap ((y : Int) * 2 ^ s) = (Y : Int)) (eyn1 : (Y : Int) / 4294967296 = (yn1 : Int)) (eyn0 : bits BinOp.and IntKind.u64 (Y : Int) 4294967295 = (yn0 : Int))
    (eU : bits BinOp.or IntKind.u64 (IntKind.u64.wrap ((x : Int) * 2 ^ s)) ((low : Int) / 2 ^ (64 - s)) = (UU : Int)) (eu10 : IntKind.u64.wrap ((low : Int) * 2 ^ s) = (u10 : Int))
    (eun1 : (u10 : Int) / 4294967296 = (u1 : Int)) (eun0 : bits BinOp.and IntKind.u64 (u10 : Int) 4294967295 = (un0 : Int)) (hh : Half Y yn1 yn0 UU u1)
    (eq : IntKind.u64.wrap ((UU : Int) / (yn1 : Int)) = (qi : Int)) (eqm : IntKind.u64.wrap ((qi : Int) * (yn1 : Int)) = (qi : Int) * (yn1 : Int)) (eri : IntKind.u64.wrap ((UU : Int) - (qi : Int) * (yn1 : Int)) = (ri : Int))
    (hrel : HalfRel Y yn1 yn0 UU u1 qi ri) (hQQ : QQ = (UU * 4294967296 + u1) / Y)
    (V qj rj Q0 : Nat) (eV : IntKind.u64.wrap (IntKind.u64.wrap (IntKind.u64.wrap ((UU : Int) * 4294967296) + (u1 : Int)) - IntKind.u64.wrap ((QQ : Int) * (Y : Int))) = (V : Int)) (hh2 : Half Y yn1 yn0 V un0)
    (eq2 : IntKind.u64.wrap ((V : Int) / (yn1 : Int)) = (qj : Int)) (eqm2 : IntKind.u64.wrap ((qj : Int) * (yn1 : Int)) = (qj : Int) * (yn1 : Int)) (eri2 : IntKind.u64.wrap ((V : Int) - (qj : Int) * (yn1 : Int)) = (rj : Int))
    (hrel2 : HalfRel Y yn1 yn0 V un0 qj rj) (hQ0 : Q0 = (V * 4294967296 + un0) / Y)
    (eQ : IntKind.u64.wrap (IntKind.u64.wrap ((QQ : Int) * 4294967296) + (Q0 : Int)) = (((x * B64 + low) / y : Nat) : Int))
    (eR : IntKind.u64.wrap (IntKind.u64.wrap (IntKind.u64.wrap ((V : Int) * 4294967296) + (un0 : Int)) - IntKind.u64.wrap ((Q0 : Int) * (Y : Int))) / 2 ^ s = (((x * B64 + low) % y : Nat) : Int)) (w : World) :
    Calls Tryz.prog 115 #[.int .u64 x, .int .u64 low, .int .u64 y] w (RetDiv w ((x * B64 + low) / y) ((x * B64 + low) % y)) := by
  have hy0 : ((y : Int) == 0) = false := by rw [beq_eq_false_iff_ne]; omega
  have hx1 : ((x : Int) == 0) = false := by rw [beq_eq_false_iff_ne]; omega
  have hy1 : ¬ ((y : Int) ≤ (x : Int)) := by omega
  have hyn : ¬ ((yn1 : Int) = 0) := by have := hh.h1; omega
  have hyn' : 1 ≤ (yn1 : Int) := by have := hh.h1; omega
  have HLZ := Lib.hid (lz64_any y hy w)
  rw [hsb] at HLZ
  have HH := Lib.hid hh
  have HREL := Lib.hid hrel
  have HQQ := Lib.hid hQQ
  have HH2 := Lib.hid hh2
  have HREL2 := Lib.hid hrel2
  have HQ0 := Lib.hid hQ0
  have EQ := Lib.hid eQ
  have ER := Lib.hid eR
  clear hsb hh hrel hQQ hh2 hrel2 hQ0 eQ eR
  go_enter Tryz.func115, Tryz.ntmps115
  go_wp2_with fail
  refine HLZ.out.mono ?_
  rintro e w' ⟨rfl, rfl⟩
  go_upto_block 0 with fail
  go_cut [15, 16] (fun tq tr wx => w = wx ∧ tq = .int .u64 (QQ : Int) ∧ ∃ r0 : Nat, tr = .int .u64 (r0 : Int))
  case first =>
    go_wp2_with fail
    go_loop [15, 16] (fun tq tr => ∃ q r : Nat, tq = .int .u64 (q : Int) ∧ tr = .int .u64 (r : Int) ∧ Hid (HalfRel Y yn1 yn0 UU u1 q r)) (fun tq _ => (intOf tq).toNat)
    case atStart => exact ⟨qi, ri, rfl, rfl, HREL.out⟩
    case round =>
      obtain ⟨q, r, rfl, rfl, hk⟩ := hrel
      have hr := hk.out.r
      have hqle := hk.out.le
      have hyn2 := HH.out.h2
      have hyn0 := HH.out.h0
      have hu1 := HH.out.u1
      by_cases hbig : 4294967296 ≤ q ∨ 4294967296 * r + u1 < q * yn0
      · have hlt : (UU * 4294967296 + u1) / Y < q := by
          rcases hbig with h | h
          · exact half_big HH.out h
          · exact half_gt HH.out hk.out h
        obtain ⟨n1, n2, n3, n4⟩ := half_next HH.out hk.out hlt
        have N3 := Lib.hid n3
        have N4 := Lib.hid n4
        have eq1 : IntKind.u64.wrap ((q : Int) - 1) = ((q - 1 : Nat) : Int) := by
          have h := u64_small (n := q - 1) (by rw [B64_eq]; omega)
          rwa [show ((q - 1 : Nat) : Int) = (q : Int) - 1 by omega] at h ⊢
        have er1 : IntKind.u64.wrap ((r : Int) + (yn1 : Int)) = (r : Int) + (yn1 : Int) := u64_add' (by rw [B64_eq]; omega)
        clear n3 n4 hlt
        by_cases hq : 4294967296 ≤ q
        · have t1 : (4294967296 : Int) ≤ (q : Int) := by omega
          clear hbig
          by_cases hb : 4294967296 ≤ r + yn1
          · have t2 : (4294967296 : Int) ≤ (r : Int) + (yn1 : Int) := by omega
            have HQ := Lib.hid (N4.out hb)
            go_wp2_with fail
            go_meet
            refine ⟨rfl, ?_, r + yn1, by go_num⟩
            rw [HQ.out, ← HQQ.out]
          · have t2 : ¬ (4294967296 : Int) ≤ (r : Int) + (yn1 : Int) := by omega
            have HQ := Lib.hid (N3.out (by omega))
            go_wp2_with fail
            go_round
            case rel => exact ⟨q - 1, r + yn1, rfl, by go_num, HQ.out⟩
            case measure => simp [intOf]; omega
        · have t1 : ¬ (4294967296 : Int) ≤ (q : Int) := by omega
          have hg : 4294967296 * r + u1 < q * yn0 := by
            rcases hbig with h | h
            · omega
            · exact h
          have em1 : IntKind.u64.wrap ((q : Int) * (yn0 : Int)) = (q : Int) * (yn0 : Int) := u64_mul (by
            have h1 : q * yn0 ≤ 4294967295 * 4294967295 := Nat.mul_le_mul (by omega) (by omega)
            rw [B64_eq]; omega)
          have em2 : IntKind.u64.wrap (4294967296 * (r : Int)) = 4294967296 * (r : Int) := u64_mul (a := 4294967296) (by rw [B64_eq]; omega)
          have em3 : IntKind.u64.wrap (4294967296 * (r : Int) + (u1 : Int)) = 4294967296 * (r : Int) + (u1 : Int) := u64_add' (a := 4294967296 * r) (by rw [B64_eq]; omega)
          have t3 : 4294967296 * (r : Int) + (u1 : Int) < (q : Int) * (yn0 : Int) := by
            rw [← Int.natCast_mul]; omega
          clear hbig hg
          by_cases hb : 4294967296 ≤ r + yn1
          · have t2 : (4294967296 : Int) ≤ (r : Int) + (yn1 : Int) := by omega
            have HQ := Lib.hid (N4.out hb)
            go_wp2_with fail
            go_meet
            refine ⟨rfl, ?_, r + yn1, by go_num⟩
            rw [HQ.out, ← HQQ.out]
          · have t2 : ¬ (4294967296 : Int) ≤ (r : Int) + (yn1 : Int) := by omega
            have HQ := Lib.hid (N3.out (by omega))
            go_wp2_with fail
            go_round
            case rel => exact ⟨q - 1, r + yn1, rfl, by go_num, HQ.out⟩
            case measure => simp [intOf]; omega
      · have hq : ¬ 4294967296 ≤ q := fun h => hbig (.inl h)
        have hg : q * yn0 ≤ 4294967296 * r + u1 := Nat.le_of_not_lt fun h => hbig (.inr h)
        have HQ := Lib.hid (half_done HH.out hk.out hg)
        have t1 : ¬ (4294967296 : Int) ≤ (q : Int) := by omega
        have em1 : IntKind.u64.wrap ((q : Int) * (yn0 : Int)) = (q : Int) * (yn0 : Int) := u64_mul (by
          have h1 : q * yn0 ≤ 4294967295 * 4294967295 := Nat.mul_le_mul (by omega) (by omega)
          rw [B64_eq]; omega)
        have em2 : IntKind.u64.wrap (4294967296 * (r : Int)) = 4294967296 * (r : Int) := u64_mul (a := 4294967296) (by rw [B64_eq]; omega)
        have em3 : IntKind.u64.wrap (4294967296 * (r : Int) + (u1 : Int)) = 4294967296 * (r : Int) + (u1 : Int) := u64_add' (a := 4294967296 * r) (by rw [B64_eq]; omega)
        have t3 : ¬ 4294967296 * (r : Int) + (u1 : Int) < (q : Int) * (yn0 : Int) := by
          rw [← Int.natCast_mul]; omega
        clear hbig hg
        go_wp2_with fail
        go_meet
        refine ⟨rfl, ?_, r, rfl⟩
        rw [HQ.out, ← HQQ.out]
  case rest =>
    obtain ⟨rfl, rfl, r0, rfl⟩ := hcut
    go_upto_block 2 with fail
    go_cut [18, 16] (fun tq tr wx => w = wx ∧ tq = .int .u64 (Q0 : Int) ∧ ∃ r0 : Nat, tr = .int .u64 (r0 : Int))
    case first =>
      go_wp2_with fail
      go_loop [18, 16] (fun tq tr => ∃ q r : Nat, tq = .int .u64 (q : Int) ∧ tr = .int .u64 (r : Int) ∧ Hid (HalfRel Y yn1 yn0 V un0 q r)) (fun tq _ => (intOf tq).toNat)
      case atStart => exact ⟨qj, rj, rfl, rfl, HREL2.out⟩
      case round =>
        obtain ⟨q, r, rfl, rfl, hk⟩ := hrel
        have hr := hk.out.r
        have hqle := hk.out.le
        have hyn2 := HH2.out.h2
        have hyn0 := HH2.out.h0
        have hun0 := HH2.out.u1
        by_cases hbig : 4294967296 ≤ q ∨ 4294967296 * r + un0 < q * yn0
        · have hlt : (V * 4294967296 + un0) / Y < q := by
            rcases hbig with h | h
            · exact half_big HH2.out h
            · exact half_gt HH2.out hk.out h
          obtain ⟨n1, n2, n3, n4⟩ := half_next HH2.out hk.out hlt
          have N3 := Lib.hid n3
          have N4 := Lib.hid n4
          have eq1 : IntKind.u64.wrap ((q : Int) - 1) = ((q - 1 : Nat) : Int) := by
            have h := u64_small (n := q - 1) (by rw [B64_eq]; omega)
            rwa [show ((q - 1 : Nat) : Int) = (q : Int) - 1 by omega] at h ⊢
          have er1 : IntKind.u64.wrap ((r : Int) + (yn1 : Int)) = (r : Int) + (yn1 : Int) := u64_add' (by rw [B64_eq]; omega)
          clear n3 n4 hlt
          by_cases hq : 4294967296 ≤ q
          · have t1 : (4294967296 : Int) ≤ (q : Int) := by omega
            clear hbig
            by_cases hb : 4294967296 ≤ r + yn1
            · have t2 : (4294967296 : Int) ≤ (r : Int) + (yn1 : Int) := by omega
              have HQ := Lib.hid (N4.out hb)
              go_wp2_with fail
              go_meet
              refine ⟨rfl, ?_, r + yn1, by go_num⟩
              rw [HQ.out, ← HQ0.out]
            · have t2 : ¬ (4294967296 : Int) ≤ (r : Int) + (yn1 : Int) := by omega
              have HQ := Lib.hid (N3.out (by omega))
              go_wp2_with fail
              go_round
              case rel => exact ⟨q - 1, r + yn1, rfl, by go_num, HQ.out⟩
              case measure => simp [intOf]; omega
          · have t1 : ¬ (4294967296 : Int) ≤ (q : Int) := by omega
            have hg : 4294967296 * r + un0 < q * yn0 := by
              rcases hbig with h | h
              · omega
              · exact h
            have em1 : IntKind.u64.wrap ((q : Int) * (yn0 : Int)) = (q : Int) * (yn0 : Int) := u64_mul (by
              have h1 : q * yn0 ≤ 4294967295 * 4294967295 := Nat.mul_le_mul (by omega) (by omega)
              rw [B64_eq]; omega)
            have em2 : IntKind.u64.wrap (4294967296 * (r : Int)) = 4294967296 * (r : Int) := u64_mul (a := 4294967296) (by rw [B64_eq]; omega)
            have em3 : IntKind.u64.wrap (4294967296 * (r : Int) + (un0 : Int)) = 4294967296 * (r : Int) + (un0 : Int) := u64_add' (a := 4294967296 * r) (by rw [B64_eq]; omega)
            have t3 : 4294967296 * (r : Int) + (un0 : Int) < (q : Int) * (yn0 : Int) := by
              rw [← Int.natCast_mul]; omega
            clear hbig hg
            by_cases hb : 4294967296 ≤ r + yn1
            · have t2 : (4294967296 : Int) ≤ (r : Int) + (yn1 : Int) := by omega
              have HQ := Lib.hid (N4.out hb)
              go_wp2_with fail
              go_meet
              refine ⟨rfl, ?_, r + yn1, by go_num⟩
              rw [HQ.out, ← HQ0.out]
            · have t2 : ¬ (4294967296 : Int) ≤ (r : Int) + (yn1 : Int) := by omega
              have HQ := Lib.hid (N3.out (by omega))
              go_wp2_with fail
              go_round
              case rel => exact ⟨q - 1, r + yn1, rfl, by go_num, HQ.out⟩
              case measure => simp [intOf]; omega
        · have hq : ¬ 4294967296 ≤ q := fun h => hbig (.inl h)
          have hg : q * yn0 ≤ 4294967296 * r + un0 := Nat.le_of_not_lt fun h => hbig (.inr h)
          have HQ := Lib.hid (half_done HH2.out hk.out hg)
          have t1 : ¬ (4294967296 : Int) ≤ (q : Int) := by omega
          have em1 : IntKind.u64.wrap ((q : Int) * (yn0 : Int)) = (q : Int) * (yn0 : Int) := u64_mul (by
            have h1 : q * yn0 ≤ 4294967295 * 4294967295 := Nat.mul_le_mul (by omega) (by omega)
            rw [B64_eq]; omega)
          have em2 : IntKind.u64.wrap (4294967296 * (r : Int)) = 4294967296 * (r : Int) := u64_mul (a := 4294967296) (by rw [B64_eq]; omega)
          have em3 : IntKind.u64.wrap (4294967296 * (r : Int) + (un0 : Int)) = 4294967296 * (r : Int) + (un0 : Int) := u64_add' (a := 4294967296 * r) (by rw [B64_eq]; omega)
          have t3 : ¬ 4294967296 * (r : Int) + (un0 : Int) < (q : Int) * (yn0 : Int) := by
            rw [← Int.natCast_mul]; omega
          clear hbig hg
          go_wp2_with fail
          go_meet
          refine ⟨rfl, ?_, r, rfl⟩
          rw [HQ.out, ← HQ0.out]
    case rest =>
      obtain ⟨rfl, rfl, r1, rfl⟩ := hcut
      go_wp2_with fail
      go_ret2
      rw [EQ.out, ER.out]
      exact ⟨rfl, 0, rfl⟩
end Go.Proofs.YtmbnlhedbedcdaaGreatDoor

/- math/bits.Div64, whole. -/
namespace Go.Proofs.YtmbnlhedbedcdaaGreatDoor
open Go.RowKit

theorem u64_and_mask (a : Nat) (ha : a < B64) : bits BinOp.and IntKind.u64 (a : Int) 4294967295 = ((a % 4294967296 : Nat) : Int) := by
  have h := u64_and_nat a 4294967295 (by rw [B64_eq] at ha; exact ha) (by omega)
  rw [show a &&& 4294967295 = a % 4294967296 from Nat.and_two_pow_sub_one_eq_mod a 32] at h
  exact h

theorem u64_rest {U u q Y v : Nat} (h : U * 4294967296 + u = q * Y + v) (hv : v < B64) :
    IntKind.u64.wrap (IntKind.u64.wrap (IntKind.u64.wrap ((U : Int) * 4294967296) + (u : Int)) - IntKind.u64.wrap ((q : Int) * (Y : Int))) = (v : Int) := by
  rw [B64_eq] at hv
  simp only [IntKind.wrap_u64]
  have e : ((q * Y : Nat) : Int) = (q : Int) * (Y : Int) := Int.natCast_mul q Y
  rw [← e]
  generalize q * Y = p at *
  omega
theorem u64_quot {q1 q0 q : Nat} (h : q1 * 4294967296 + q0 = q) (hq : q < B64) : IntKind.u64.wrap (IntKind.u64.wrap ((q1 : Int) * 4294967296) + (q0 : Int)) = (q : Int) := by
  rw [B64_eq] at hq
  simp only [IntKind.wrap_u64]
  omega

theorem regroup (U u : Nat) : U * 18446744073709551616 + u = (U * 4294967296 + u / 4294967296) * 4294967296 + u % 4294967296 := by omega
theorem div64_pos (x low y : Nat) (hx0 : 0 < x) (hx : x < y) (hl : low < B64) (hy : y < B64) (w : World) :
    Calls Tryz.prog 115 #[.int .u64 x, .int .u64 low, .int .u64 y] w (RetDiv w ((x * B64 + low) / y) ((x * B64 + low) % y)) := by
  have hb := blen_digit hy
  have hb1 : 1 ≤ blen y := by
    rcases Nat.eq_zero_or_pos (blen y) with h | h
    · have := blen_lt y
      rw [h] at this
      omega
    · exact h
  obtain ⟨s, hs⟩ : ∃ s, s + blen y = 64 := ⟨64 - blen y, by omega⟩
  have hs64 : s ≤ 64 := by omega
  have hY1 : y * 2 ^ s < B64 := by
    have h1 := blen_lt y
    rw [B64_pow, ← hs, Nat.add_comm, Nat.pow_add]
    exact Nat.mul_lt_mul_of_pos_right h1 (Nat.pow_pos (by omega))
  have hY2 : 9223372036854775808 ≤ y * 2 ^ s := by
    have h1 := blen_le (n := y) (k := blen y - 1) (by omega)
    have h2 : 2 ^ (blen y - 1) * 2 ^ s ≤ y * 2 ^ s := Nat.mul_le_mul_right _ h1
    rw [← Nat.pow_add, show blen y - 1 + s = 63 by omega] at h2
    exact h2
  have hYe : y * 2 ^ s / 4294967296 * 4294967296 + y * 2 ^ s % 4294967296 = y * 2 ^ s := Nat.div_add_mod' _ _
  have hxs : x * 2 ^ s < y * 2 ^ s := Nat.mul_lt_mul_of_pos_right hx (Nat.pow_pos (by omega))
  have hlo : lo (x * 2 ^ s) = x * 2 ^ s := lo_of_lt (by omega)
  have hlh := lo_hi (low * 2 ^ s)
  have hN : (x * B64 + low) * 2 ^ s = (x * 2 ^ s + hi (low * 2 ^ s)) * B64 + lo (low * 2 ^ s) := by
    have e : x * B64 * 2 ^ s = x * 2 ^ s * B64 := Nat.mul_right_comm _ _ _
    have e2 : hi (low * 2 ^ s) * B64 = B64 * hi (low * 2 ^ s) := Nat.mul_comm _ _
    rw [Nat.add_mul, Nat.add_mul, e, e2]
    omega
  have hUY : x * 2 ^ s + hi (low * 2 ^ s) < y * 2 ^ s := by
    have h1 : (x * B64 + low) * 2 ^ s < y * B64 * 2 ^ s := Nat.mul_lt_mul_of_pos_right (by
      have : (x + 1) * B64 ≤ y * B64 := Nat.mul_le_mul_right _ hx
      rw [Nat.succ_mul] at this
      omega) (Nat.pow_pos (by omega))
    rw [hN, Nat.mul_right_comm] at h1
    have h2 := lo_lt (low * 2 ^ s)
    refine Nat.lt_of_mul_lt_mul_right (a := B64) ?_
    omega
  generalize hY : y * 2 ^ s = Y at *
  generalize hU : x * 2 ^ s + hi (low * 2 ^ s) = U at *
  have hu := lo_lt (low * 2 ^ s)
  generalize hu10 : lo (low * 2 ^ s) = u10 at *
  have B := B64_eq
  have ey1 : ((Y : Int)) / 4294967296 = ((Y / 4294967296 : Nat) : Int) := by omega
  have ey0 := u64_and_mask Y hY1
  have eu1 : ((u10 : Int)) / 4294967296 = ((u10 / 4294967296 : Nat) : Int) := by omega
  have eu0 := u64_and_mask u10 hu
  have hq3 : Y / 4294967296 < 4294967296 := by omega
  have hq4 : 2147483648 ≤ Y / 4294967296 := by omega
  have hq5 : Y % 4294967296 < 4294967296 := by omega
  have hq6 : u10 / 4294967296 < 4294967296 := by omega
  have hq7 : u10 % 4294967296 < 4294967296 := by omega
  have hrg := regroup U u10
  rewrite [← B] at hrg
  generalize hy1 : Y / 4294967296 = y1 at *
  generalize hy0 : Y % 4294967296 = y0 at *
  generalize hu1 : u10 / 4294967296 = u1 at *
  generalize hu0 : u10 % 4294967296 = u0 at *
  have hh1 : Half Y y1 y0 U u1 := ⟨hYe.symm, hq5, hq4, hq3, hUY, hq6⟩
  have hr1 := half_start hh1
  have hd1 := Nat.div_add_mod (U * 4294967296 + u1) Y
  have hv1 := Nat.mod_lt (U * 4294967296 + u1) hh1.pos
  have hq1 := hh1.lt
  generalize hQ1 : (U * 4294967296 + u1) / Y = Q1 at *
  generalize hV : (U * 4294967296 + u1) % Y = V at *
  have hh2 : Half Y y1 y0 V u0 := ⟨hYe.symm, hq5, hq4, hq3, hv1, hq7⟩
  have hr2 := half_start hh2
  obtain ⟨Q0, hQ0⟩ : ∃ Q0, Q0 = (V * 4294967296 + u0) / Y := ⟨_, rfl⟩
  obtain ⟨R, hR⟩ : ∃ R, R = (V * 4294967296 + u0) % Y := ⟨_, rfl⟩
  have hd2 : Y * Q0 + R = V * 4294967296 + u0 := by rewrite [hQ0, hR]; exact Nat.div_add_mod _ _
  have hv2 : R < Y := by rewrite [hR]; exact Nat.mod_lt _ hh1.pos
  obtain ⟨g1, g2⟩ := halves (y := y) (s := s) (hiw := x) (low := low) (Y := Y) (N := (x * B64 + low) * 2 ^ s) (U32 := U) (un1 := u1) (un0 := u0) (q1 := Q1) (U21 := V) (q0 := Q0)
    hY.symm rfl (hN.trans hrg) (Nat.lt_of_le_of_lt (Nat.zero_le _) hx) hQ1.symm hV.symm hQ0
  rewrite [← hR] at g2
  have hquo : (x * B64 + low) / y < B64 := by
    refine Nat.div_lt_of_lt_mul ?_
    have : (x + 1) * B64 ≤ y * B64 := Nat.mul_le_mul_right _ hx
    rewrite [Nat.succ_mul] at this
    omega
  have f1 := Nat.div_add_mod' U y1
  have f2 := Nat.div_add_mod' V y1
  have hU64 : U < B64 := Nat.lt_trans hUY hY1
  have hV64 : V < B64 := Nat.lt_trans hv1 hY1
  have hR64 : R < B64 := Nat.lt_trans hv2 hY1
  have a1 : IntKind.u64.wrap ((U : Int) / (y1 : Int)) = ((U / y1 : Nat) : Int) := u64_small (n := U / y1) (Nat.lt_of_le_of_lt (Nat.div_le_self _ _) hU64)
  have a2 : IntKind.u64.wrap ((V : Int) / (y1 : Int)) = ((V / y1 : Nat) : Int) := u64_small (n := V / y1) (Nat.lt_of_le_of_lt (Nat.div_le_self _ _) hV64)
  have a3 := u64_mul (a := U / y1) (b := y1) (Nat.lt_of_le_of_lt (Nat.div_mul_le_self _ _) hU64)
  have a4 := u64_mul (a := V / y1) (b := y1) (Nat.lt_of_le_of_lt (Nat.div_mul_le_self _ _) hV64)
  have a5 : IntKind.u64.wrap ((U : Int) - ((U / y1 : Nat) : Int) * (y1 : Int)) = ((U % y1 : Nat) : Int) := by
    rewrite [← Int.natCast_mul]; exact u64_sub f1 hU64
  have a6 : IntKind.u64.wrap ((V : Int) - ((V / y1 : Nat) : Int) * (y1 : Int)) = ((V % y1 : Nat) : Int) := by
    rewrite [← Int.natCast_mul]; exact u64_sub f2 hV64
  have a7 := u64_rest (U := U) (u := u1) (q := Q1) (Y := Y) (v := V) (by rewrite [Nat.mul_comm Q1 Y]; exact hd1.symm) hV64
  have a8 := u64_rest (U := V) (u := u0) (q := Q0) (Y := Y) (v := R) (by rewrite [Nat.mul_comm Q0 Y]; exact hd2.symm) hR64
  have a9 : IntKind.u64.wrap ((y : Int) * 2 ^ s) = (Y : Int) := by
    have := u64_small (n := y * 2 ^ s) (by rw [hY]; exact hY1)
    rewrite [Int.natCast_mul] at this
    have e : ((2 ^ s : Nat) : Int) = (2 : Int) ^ s := by push_cast; rfl
    rewrite [e] at this
    rewrite [this, ← hY, Int.natCast_mul, e]
    rfl
  have a10 : IntKind.u64.wrap ((low : Int) * 2 ^ s) = (u10 : Int) := by
    have := u64_wrap_nat (low * 2 ^ s)
    rewrite [hu10, Int.natCast_mul] at this
    have e : ((2 ^ s : Nat) : Int) = (2 : Int) ^ s := by push_cast; rfl
    rewrite [e] at this
    exact this
  have a11 := raise_or (x := x) (y := low) hl hs64
  rewrite [hlo, hU] at a11
  have a12 : IntKind.u64.wrap (IntKind.u64.wrap (IntKind.u64.wrap ((V : Int) * 4294967296) + (u0 : Int)) - IntKind.u64.wrap ((Q0 : Int) * (Y : Int))) / 2 ^ s = (((x * B64 + low) % y : Nat) : Int) := by
    rewrite [a8, ← g2]
    have e : ((2 ^ s : Nat) : Int) = (2 : Int) ^ s := by push_cast; rfl
    rewrite [Int.natCast_ediv, e]
    rfl
  exact div64_core x low y s Y y1 y0 U u10 u1 u0 (U / y1) (U % y1) Q1 hx0 hx (by omega) (by omega) hy a9 ey1 ey0 a11 a10 eu1 eu0 hh1 a1 a3 a5 hr1 hQ1.symm V (V / y1) (V % y1) Q0 a7 hh2 a2 a4 a6 hr2 hQ0 (u64_quot g1 hquo) a12 w

/-- Div64, whatever the digits, the upper one below the divisor. -/
theorem div64_any (x low y : Nat) (hx : x < y) (hl : low < B64) (hy : y < B64) (w : World) :
    Calls Tryz.prog 115 #[.int .u64 x, .int .u64 low, .int .u64 y] w (RetDiv w ((x * B64 + low) / y) ((x * B64 + low) % y)) := by
  rcases Nat.eq_zero_or_pos x with h0 | h0
  · subst h0
    rw [Nat.zero_mul, Nat.zero_add]
    exact div64_zero low y hl hx w
  · exact div64_pos x low y h0 hx hl hy w
end Go.Proofs.YtmbnlhedbedcdaaGreatDoor

/- Divisions by one digit; what is taken out and given back. -/
namespace Go.Proofs.YtmbnlhedbedcdaaGreatDoor
open Go.RowKit

theorem rep_set {n k q : Nat} {qs : List Nat} (h : k < n) : (List.replicate (n - k) 0 ++ qs).set (n - 1 - k) q = List.replicate (n - (k + 1)) 0 ++ (q :: qs) := by
  rw [show n - k = (n - (k + 1)) + 1 by omega, List.replicate_succ', List.append_assoc, List.set_append_right _ _ (by rw [List.length_replicate]; omega), List.length_replicate,
    show n - 1 - k - (n - (k + 1)) = 0 by omega]
  rfl
theorem divd_round {x r b q r' v Q : Nat} (hv : v = Q * b + r) (hq : q * b + r' = r * B64 + x) : x + B64 * v = (q + B64 * Q) * b + r' := by
  rw [hv, Nat.mul_add, Nat.add_mul, Nat.mul_assoc, Nat.mul_comm B64 r]
  omega
theorem div_digit_lt {r x b : Nat} (hr : r < b) (hx : x < B64) : (r * B64 + x) / b < B64 := by
  refine Nat.div_lt_of_lt_mul ?_
  have : (r + 1) * B64 ≤ b * B64 := Nat.mul_le_mul_right _ hr
  rw [Nat.succ_mul] at this
  omega

structure DivdRel (w wr : World) (g : Nat) (X : List Nat) (b : Nat) (cy i : Value) : Prop where
  ex : ∃ (k r : Nat) (qs : List Nat), k ≤ X.length ∧ i = .int .i64 k ∧ cy = .int .u64 r ∧ r < b ∧ qs.length = k ∧ Digs qs ∧ val (X.drop (X.length - k)) = val qs * b + r ∧ Blk wr g (List.replicate (X.length - k) 0 ++ qs)
  own : w.grownBy wr (some g)

structure DivdPost (w : World) (g : Nat) (X : List Nat) (b : Nat) (e : Ending) (w' : World) : Prop where
  ret : e = .returned (.int .u64 ((val X % b : Nat) : Int))
  ex : ∃ qs : List Nat, qs.length = X.length ∧ Digs qs ∧ val qs = val X / b ∧ Blk w' g qs
  own : w.grownBy w' (some g)

theorem divd_step {w wr : World} {g k r b : Nat} {X qs : List Nat} (hX : Digs X) (hlt : k < X.length) (hr : r < b) (hqd : Digs qs) (hql : qs.length = k) (hv : val (X.drop (X.length - k)) = val qs * b + r)
    (hblk : Blk wr g (List.replicate (X.length - k) 0 ++ qs)) (hO : w.grownBy wr (some g)) (n : Nat) :
    DivdRel w ((wr.setCell ⟨g, X.length - 1 - k, none⟩ (.int .u64 (((r * B64 + dg X (X.length - 1 - k)) / b : Nat) : Int))).drewN n) g X b (.int .u64 (((r * B64 + dg X (X.length - 1 - k)) % b : Nat) : Int)) (.int .i64 ((k : Int) + 1)) := by
  refine ⟨⟨k + 1, (r * B64 + dg X (X.length - 1 - k)) % b, ((r * B64 + dg X (X.length - 1 - k)) / b) :: qs, by omega, by simp, rfl, Nat.mod_lt _ (by omega), by simp [hql], Digs.cons (div_digit_lt hr (dg_lt hX _)) hqd, ?_, ?_⟩, ?_⟩
  · rw [show X.length - (k + 1) = X.length - 1 - k by omega, drop_pred (by omega), val_cons, val_cons, show X.length - 1 - k + 1 = X.length - k by omega]
    exact divd_round hv (Nat.div_add_mod' _ _)
  · have h := hblk.set_ (X.length - 1 - k) ((r * B64 + dg X (X.length - 1 - k)) / b)
    rw [rep_set hlt] at h
    exact h.drewN n
  · exact grown_drewN (grown_set hO _ _) n

set_option maxHeartbeats 1000000 in
theorem divd_any (w : World) (g capQ c b : Nat) (X : List Nat) (A : Option Addr) (hblk : Blk w g (List.replicate X.length 0)) (hA : Num w A X) (hne : 0 < X.length → ∀ p, A = some p → p.block ≠ g)
    (hb : 0 < b) (hb64 : b < B64) (hn : X.length ≤ 1099511627776) :
    Calls Tryz.prog 94 #[.slice (some ⟨g, 0, none⟩) X.length capQ, .slice A X.length c, .int .u64 b] w (DivdPost w g X b) := by
  have HA := Lib.hid hA
  have HBLK0 := Lib.hid hblk
  have HNE := Lib.hid hne
  have HB := Lib.hid hb
  have HB64 := Lib.hid hb64
  clear hA hblk hne hb hb64
  go_enter Tryz.func94, Tryz.ntmps94
  go_wp2_with fail
  go_loopw [7, 12] (fun cy i wr => DivdRel w wr g X b cy i) (fun _ i _ => X.length - (intOf i).toNat)
  case atStart =>
    exact ⟨⟨0, 0, [], Nat.zero_le _, rfl, rfl, HB.out, rfl, Digs.nil, by simp [val_nil], by rw [Nat.sub_zero, List.append_nil]; exact HBLK0.out⟩, World.grownBy.refl _ _⟩
  case round =>
    obtain ⟨⟨k, r, qs, hk, rfl, rfl, hr, hql, hqd, hv, hblk⟩, hO⟩ := hrel
    by_cases hlt : k < X.length
    · obtain ⟨b1, o1, rfl, hb1, hc1⟩ := HA.out.at_ (by omega)
      have h1 := (World.cell?_of_block (hO.block b1 hb1 (by intro e; injection e with e; exact HNE.out (by omega) ⟨b1, o1, none⟩ rfl e))).trans (hc1 (X.length - 1 - k) (by omega))
      have hlt' : (k : Int) < (X.length : Int) := by omega
      have ho := hblk.cell (i := X.length - 1 - k) (by rw [List.length_append, List.length_replicate]; omega)
      have hf := hblk.frozen (X.length - 1 - k)
      have HD := Lib.hid (div64_any r (dg X (X.length - 1 - k)) b hr (dg_lt HA.out.1 _) HB64.out wr)
      have HS := Lib.hid (divd_step HA.out.1 hlt hr hqd hql hv hblk hO)
      clear hc1 hblk hv hql hO
      go_wp2_with fail
      refine HD.out.mono ?_
      rintro e w' ⟨rfl, q, rfl⟩
      go_wp2_with fail
      go_roundw
      case rel => exact HS.out q
      case measure => simp [intOf]; omega
    · have hkn : k = X.length := by omega
      have HE : Hid (DivdPost w g X b (.returned (.int .u64 (r : Int))) wr) := by
        subst hkn
        rw [Nat.sub_self, List.drop_zero] at hv
        rw [Nat.sub_self, List.replicate_zero, List.nil_append] at hblk
        refine ⟨?_, ⟨qs, hql, hqd, ?_, hblk⟩, hO⟩
        · rw [hv, Nat.mul_comm, Nat.mul_add_mod, Nat.mod_eq_of_lt hr]
        · rw [hv, Nat.mul_comm, Nat.mul_add_div HB.out, Nat.div_eq_of_lt hr, Nat.add_zero]
      clear hblk hv hql hkn hO
      go_wp2
      go_ret
      exact HE.out

structure RestRel (w wr : World) (X : List Nat) (b : Nat) (cy i : Value) : Prop where
  ex : ∃ (k r Q : Nat), k ≤ X.length ∧ i = .int .i64 k ∧ cy = .int .u64 r ∧ r < b ∧ val (X.drop (X.length - k)) = Q * b + r
  drew : ∃ n, wr = w.drewN n

set_option maxHeartbeats 1000000 in
theorem rest_any (w : World) (c b : Nat) (X : List Nat) (A : Option Addr) (hA : Num w A X) (hb : 0 < b) (hb64 : b < B64) (hn : X.length ≤ 1099511627776) :
    Calls Tryz.prog 104 #[.slice A X.length c, .int .u64 b] w fun e w' => e = .returned (.int .u64 ((val X % b : Nat) : Int)) ∧ ∃ n, w' = w.drewN n := by
  have HA := Lib.hid hA
  have HB := Lib.hid hb
  have HB64 := Lib.hid hb64
  clear hA hb hb64
  go_enter Tryz.func104, Tryz.ntmps104
  go_wp2_with fail
  go_loopw [5, 9] (fun cy i wr => RestRel w wr X b cy i) (fun _ i _ => X.length - (intOf i).toNat)
  case atStart =>
    exact ⟨⟨0, 0, 0, Nat.zero_le _, rfl, rfl, HB.out, by simp [val_nil]⟩, 0, rfl⟩
  case round =>
    obtain ⟨⟨k, r, Q, hk, rfl, rfl, hr, hv⟩, n, rfl⟩ := hrel
    by_cases hlt : k < X.length
    · obtain ⟨b1, o1, rfl, hb1, hc1⟩ := HA.out.at_ (by omega)
      have h1 := hc1 (X.length - 1 - k) (by omega)
      have hlt' : (k : Int) < (X.length : Int) := by omega
      have HD := Lib.hid (div64_any r (dg X (X.length - 1 - k)) b hr (dg_lt HA.out.1 _) HB64.out (w.drewN n))
      have HS : Hid (∀ m, RestRel w ((w.drewN n).drewN m) X b (.int .u64 (((r * B64 + dg X (X.length - 1 - k)) % b : Nat) : Int)) (.int .i64 ((k : Int) + 1))) := by
        intro m
        refine ⟨⟨k + 1, (r * B64 + dg X (X.length - 1 - k)) % b, ((r * B64 + dg X (X.length - 1 - k)) / b) + B64 * Q, by omega, by simp, rfl, Nat.mod_lt _ HB.out, ?_⟩, n + m, by rw [World.drewN_drewN]⟩
        rw [show X.length - (k + 1) = X.length - 1 - k by omega, drop_pred (by omega), val_cons, show X.length - 1 - k + 1 = X.length - k by omega]
        exact divd_round hv (Nat.div_add_mod' _ _)
      clear hc1 hv
      go_wp2_with fail
      refine HD.out.mono ?_
      rintro e w' ⟨rfl, q, rfl⟩
      go_wp2_with fail
      go_roundw
      case rel =>
        have h := HS.out q
        rw [World.drewN_drewN] at h
        exact h
      case measure => simp [intOf]; omega
    · have hkn : k = X.length := by omega
      have HE : Hid (val X % b = r) := by
        subst hkn
        rw [Nat.sub_self, List.drop_zero] at hv
        show _ = _
        rw [hv, Nat.mul_comm, Nat.mul_add_mod, Nat.mod_eq_of_lt hr]
      clear hv hkn
      go_wp2
      go_ret
      rw [HE.out]
      exact ⟨rfl, n, rfl⟩

structure TakeRel (w wr : World) (g off : Nat) (cs Y : List Nat) (x : Nat) (cy bo i : Value) : Prop where
  ex : ∃ (k c b : Nat) (zs : List Nat), k ≤ Y.length ∧ i = .int .i64 k ∧ cy = .int .u64 c ∧ bo = .int .u64 b ∧ c < B64 ∧ b ≤ 1 ∧ zs.length = k ∧ Digs zs ∧
    val zs + val (Y.take k) * x = val ((cs.drop off).take k) + B64 ^ k * (c + b) ∧ Blk wr g (mid cs off zs)
  only : Only g w wr

/-- What takeProduct leaves: it borrowed from beyond just if bo is true. -/
structure TakePost (w : World) (g off : Nat) (cs Y : List Nat) (x : Nat) (e : Ending) (w' : World) : Prop where
  ex : ∃ (zs : List Nat) (b : Nat), b ≤ 1 ∧ e = .returned (.bool (b != 0)) ∧ zs.length = Y.length + 1 ∧ Digs zs ∧ val zs + val Y * x = val ((cs.drop off).take (Y.length + 1)) + B64 ^ (Y.length + 1) * b ∧ Blk w' g (mid cs off zs)
  only : Only g w w'

theorem take_round {v t s p c b y x sk low c' l b' : Nat} (hv : v + t * x = s + p * (c + b)) (h1 : low + B64 * c' = y * x + c) (h2 : l + low + b = sk + B64 * b') :
    v + p * l + (t + p * y) * x = s + p * sk + p * B64 * (c' + b') := by
  have e1 : p * l + p * low + p * b = p * sk + p * (B64 * b') := by rw [← Nat.mul_add, ← Nat.mul_add, h2, Nat.mul_add]
  have e2 : p * low + p * (B64 * c') = p * (y * x) + p * c := by rw [← Nat.mul_add, h1, Nat.mul_add]
  rw [Nat.add_mul, Nat.mul_assoc p y x, Nat.mul_assoc p B64, Nat.mul_add B64, Nat.mul_add p (B64 * c')]
  rw [Nat.mul_add] at hv
  omega

theorem take_step {w wr : World} {g off : Nat} {cs Y : List Nat} {x k c b : Nat} {zs : List Nat} (hlt : k < Y.length) (hoff : off + Y.length < cs.length) (hcs : Digs cs) (hY : Digs Y) (hx : x < B64)
    (hc : c < B64) (hb : b ≤ 1) (hzl : zs.length = k) (hzd : Digs zs) (hv : val zs + val (Y.take k) * x = val ((cs.drop off).take k) + B64 ^ k * (c + b)) (hblk : Blk wr g (mid cs off zs)) (hO : Only g w wr) :
    TakeRel w (wr.setCell ⟨g, off + k, none⟩ (.int .u64 ((slo (dg cs (off + k)) (lo (dg Y k * x + c)) b : Nat) : Int))) g off cs Y x
      (.int .u64 ((hi (dg Y k * x + c) : Nat) : Int)) (.int .u64 ((sbo (dg cs (off + k)) (lo (dg Y k * x + c)) b : Nat) : Int)) (.int .i64 ((k : Int) + 1)) := by
  refine ⟨⟨k + 1, _, _, zs ++ [slo (dg cs (off + k)) (lo (dg Y k * x + c)) b], by omega, by simp, rfl, rfl, hi_prod_lt (dg_lt hY k) hx hc, sbo_le _ _ _, by simp [hzl], hzd.snoc (slo_lt _ _ _), ?_, ?_⟩, hO.set _ _⟩
  · rw [val_take_dg, val_take_dg, val_snoc, Nat.pow_succ, hzl, dg_drop]
    exact take_round hv (lo_hi _) (slo_sbo (dg_lt hcs _) (lo_lt _) hb)
  · have h := hblk.set_ (off + k) (slo (dg cs (off + k)) (lo (dg Y k * x + c)) b)
    have hs := mid_set (cs := cs) (zs := zs) (off := off) (by omega) (slo (dg cs (off + k)) (lo (dg Y k * x + c)) b)
    rw [hzl] at hs
    rwa [hs] at h

theorem take_end {w wr : World} {g off : Nat} {cs Y : List Nat} {x c b : Nat} {zs : List Nat} (hoff : off + Y.length < cs.length) (hcs : Digs cs)
    (hc : c < B64) (hb : b ≤ 1) (hzl : zs.length = Y.length) (hzd : Digs zs) (hv : val zs + val Y * x = val ((cs.drop off).take Y.length) + B64 ^ Y.length * (c + b)) (hblk : Blk wr g (mid cs off zs)) (hO : Only g w wr) :
    TakePost w g off cs Y x (.returned (.bool (sbo (dg cs (off + Y.length)) c b != 0))) (wr.setCell ⟨g, off + Y.length, none⟩ (.int .u64 ((slo (dg cs (off + Y.length)) c b : Nat) : Int))) := by
  refine ⟨⟨zs ++ [slo (dg cs (off + Y.length)) c b], _, sbo_le _ _ _, rfl, by simp [hzl], hzd.snoc (slo_lt _ _ _), ?_, ?_⟩, hO.set _ _⟩
  · rw [val_take_dg, val_snoc, hzl, dg_drop, Nat.pow_succ]
    have h := slo_sbo (x := dg cs (off + Y.length)) (y := c) (b := b) (dg_lt hcs _) hc hb
    generalize B64 ^ Y.length = p at *
    have e1 : p * slo (dg cs (off + Y.length)) c b + p * c + p * b = p * dg cs (off + Y.length) + p * (B64 * sbo (dg cs (off + Y.length)) c b) := by
      rw [← Nat.mul_add, ← Nat.mul_add, h, Nat.mul_add]
    rw [Nat.mul_add] at hv
    rw [Nat.mul_assoc]
    omega
  · have h := hblk.set_ (off + Y.length) (slo (dg cs (off + Y.length)) c b)
    have hs := mid_set (cs := cs) (zs := zs) (off := off) (by omega) (slo (dg cs (off + Y.length)) c b)
    rw [hzl] at hs
    rwa [hs] at h

theorem bne_cast (b : Nat) : (((b : Nat) : Int) != 0) = (b != 0) := by
  cases b with
  | zero => rfl
  | succ n =>
    have h1 : (((n + 1 : Nat) : Int) != 0) = true := by rw [bne_iff_ne]; omega
    have h2 : ((n + 1) != 0) = true := by rw [bne_iff_ne]; omega
    rw [h1, h2]

set_option maxHeartbeats 1000000 in
theorem take_any (w : World) (g off capP d x : Nat) (cs Y : List Nat) (B : Option Addr) (hblk : Blk w g cs) (hcs : Digs cs) (hoff : off + Y.length < cs.length) (hB : Num w B Y)
    (hne : 0 < Y.length → ∀ p, B = some p → p.block ≠ g) (hx : x < B64) (hn : Y.length ≤ 1099511627776) :
    Calls Tryz.prog 151 #[.slice (some ⟨g, off, none⟩) (Y.length + 1) capP, .slice B Y.length d, .int .u64 x] w (TakePost w g off cs Y x) := by
  have HB := Lib.hid hB
  have HBLK0 := Lib.hid hblk
  have HNE := Lib.hid hne
  have HX := Lib.hid hx
  clear hB hblk hne hx
  go_enter Tryz.func151, Tryz.ntmps151
  go_wp2_with fail
  go_loopw [7, 8, 14] (fun cy bo i wr => TakeRel w wr g off cs Y x cy bo i) (fun _ _ i _ => Y.length - (intOf i).toNat)
  case atStart =>
    exact ⟨⟨0, 0, 0, [], Nat.zero_le _, rfl, rfl, rfl, B64_pos, Nat.zero_le _, rfl, Digs.nil, by simp [val_nil], by rw [mid_nil]; exact HBLK0.out⟩, Only.refl _ _⟩
  case round =>
    obtain ⟨⟨k, c, b, zs, hk, rfl, rfl, rfl, hc, hb, hzl, hzd, hv, hblk⟩, hO⟩ := hrel
    by_cases hlt : k < Y.length
    · obtain ⟨b1, o1, rfl, hb1, hc1⟩ := HB.out.at_ (by omega)
      have h1 := (hO.cell (p := ⟨b1, o1 + k, none⟩) (show b1 ≠ g from HNE.out (by omega) ⟨b1, o1, none⟩ rfl)).trans (hc1 k hlt)
      have hlt' : (k : Int) < (Y.length : Int) := by omega
      have ho : (wr.cell? ⟨g, off + k, none⟩) = some (.int .u64 ((dg cs (off + k) : Nat) : Int)) := by
        rw [hblk.cell (by rw [mid_length (by omega)]; omega), dg_mid_above (by omega) (by omega)]
      have hf : wr.frozen? ⟨g, off + k, none⟩ = false := hblk.frozen _
      have hsub := run_sub (dg cs (off + k)) (lo (dg Y k * x + c)) b hb
      have HP := Lib.hid (product_any (dg Y k) x c (dg_lt HB.out.1 k) HX.out hc wr)
      have HS := Lib.hid (take_step hlt hoff hcs HB.out.1 HX.out hc hb hzl hzd hv hblk hO)
      clear hc1 hblk hv hzl
      go_wp2_with fail
      refine HP.out.mono ?_
      rintro e w' ⟨rfl, rfl⟩
      go_wp2_with fail
      go_roundw
      case rel => exact HS.out
      case measure => simp [intOf]; omega
    · have hkn : k = Y.length := by omega
      have ho : (wr.cell? ⟨g, off + Y.length, none⟩) = some (.int .u64 ((dg cs (off + Y.length) : Nat) : Int)) := by
        rw [hblk.cell (by rw [mid_length (by omega)]; omega), dg_mid_above (by omega) (by omega)]
      have hf : wr.frozen? ⟨g, off + Y.length, none⟩ = false := hblk.frozen _
      have hsub := run_sub (dg cs (off + Y.length)) c b hb
      have HE : Hid (TakePost w g off cs Y x (.returned (.bool (sbo (dg cs (off + Y.length)) c b != 0))) (wr.setCell ⟨g, off + Y.length, none⟩ (.int .u64 ((slo (dg cs (off + Y.length)) c b : Nat) : Int)))) := by
        subst hkn
        rw [List.take_length] at hv
        exact take_end hoff hcs hc hb hzl hzd hv hblk hO
      have HN := Lib.hid (bne_cast (sbo (dg cs (off + Y.length)) c b))
      clear hblk hv hzl
      have hkn' := Lib.hid hkn
      clear hkn
      go_wp2_with fail
      go_ret
      rw [HN.out]
      exact HE.out
end Go.Proofs.YtmbnlhedbedcdaaGreatDoor

/- Long division: giving back, the guess, one digit of the quotient. -/
namespace Go.Proofs.YtmbnlhedbedcdaaGreatDoor
open Go.RowKit

structure GiveRel (w wr : World) (g off m : Nat) (cs Y : List Nat) (B : Option Addr) (d : Nat) (cy i : Value) : Prop where
  ex : ∃ (k c : Nat) (zs : List Nat), k ≤ m ∧ i = .int .i64 k ∧ cy = .int .u64 c ∧ c ≤ 1 ∧ zs.length = k ∧ Digs zs ∧ val zs + B64 ^ k * c = val ((cs.drop off).take k) + val (Y.take k) ∧ Blk wr g (mid cs off zs)
  cap : wr.cell? ⟨w.heap.size, 0, none⟩ = some (.slice B Y.length d)
  own : w.grownBy wr (some g)
  num : Num wr B Y

structure GivePost (w : World) (g off m : Nat) (cs Y : List Nat) (e : Ending) (w' : World) : Prop where
  ex : ∃ (zs : List Nat) (c : Nat), c ≤ 1 ∧ e = .returned (.bool (c != 0)) ∧ zs.length = m ∧ Digs zs ∧ val zs + B64 ^ m * c = val ((cs.drop off).take m) + val Y ∧ Blk w' g (mid cs off zs)
  own : w.grownBy w' (some g)

theorem give_step {w wr : World} {g off m k c d : Nat} {cs Y zs : List Nat} {B : Option Addr} (hlt : k < m) (hoff : off + m ≤ cs.length) (hg : g < w.heap.size) (hcs : Digs cs) (hc : c ≤ 1)
    (hzl : zs.length = k) (hzd : Digs zs) (hv : val zs + B64 ^ k * c = val ((cs.drop off).take k) + val (Y.take k)) (hblk : Blk wr g (mid cs off zs)) (hcap : wr.cell? ⟨w.heap.size, 0, none⟩ = some (.slice B Y.length d))
    (hown : w.grownBy wr (some g)) (hnum : Num wr B Y) (hne : 0 < Y.length → ∀ p, B = some p → p.block ≠ g) (n : Nat) :
    GiveRel w ((wr.setCell ⟨g, off + k, none⟩ (.int .u64 ((lo (dg cs (off + k) + dg Y k + c) : Nat) : Int))).drewN n) g off m cs Y B d (.int .u64 ((hi (dg cs (off + k) + dg Y k + c) : Nat) : Int)) (.int .i64 ((k : Int) + 1)) := by
  refine ⟨⟨k + 1, hi (dg cs (off + k) + dg Y k + c), zs ++ [lo (dg cs (off + k) + dg Y k + c)], by omega, by simp, rfl, hi_le_one (dg_lt hcs _) (dg_lt hnum.1 _) hc, by simp [hzl], hzd.snoc (lo_lt _), ?_, ?_⟩, ?_, grown_drewN (grown_set hown _ _) n, (hnum.set_far hne).drewN n⟩
  · rw [val_take_dg, val_take_dg, val_snoc, Nat.pow_succ, hzl, dg_drop]
    have := add_round (p := B64 ^ k) hv (lo_hi (dg cs (off + k) + dg Y k + c))
    omega
  · have h := hblk.set_ (off + k) (lo (dg cs (off + k) + dg Y k + c))
    have hs := mid_set (cs := cs) (zs := zs) (off := off) (by omega) (lo (dg cs (off + k) + dg Y k + c))
    rw [hzl] at hs
    rw [hs] at h
    exact h.drewN n
  · exact (World.cell?_setCell_other wr _ _ _ (by intro e; injection e with e1; omega)).trans hcap

set_option maxHeartbeats 2000000 in
theorem give_any (w : World) (g off m capP d : Nat) (cs Y : List Nat) (B : Option Addr) (hblk : Blk w g cs) (hcs : Digs cs) (hoff : off + m ≤ cs.length) (hB : Num w B Y)
    (hne : 0 < Y.length → ∀ p, B = some p → p.block ≠ g) (hm : Y.length ≤ m) (hn : m ≤ 1099511627776) :
    Calls Tryz.prog 152 #[.slice (some ⟨g, off, none⟩) m capP, .slice B Y.length d] w (GivePost w g off m cs Y) := by
  have HB := Lib.hid hB
  have HBLK0 := Lib.hid hblk
  have HNE := Lib.hid hne
  have hg := hblk.lt
  clear hB hblk hne
  go_enter Tryz.func152, Tryz.ntmps152
  go_wp2_with fail
  refine (digitOf_any _ _ _ _).mono ?_
  rintro e w' ⟨rfl, rfl⟩
  go_wp2_with fail
  go_loopw [6, 12] (fun cy i wr => GiveRel w wr g off m cs Y B d cy i) (fun _ i _ => m - (intOf i).toNat)
  case atStart =>
    exact ⟨⟨0, 0, [], Nat.zero_le _, rfl, rfl, Nat.zero_le _, rfl, Digs.nil, by simp [val_nil], by rw [mid_nil]; exact HBLK0.out.alloc _⟩, cell_of_one (heap_alloc_new w _), World.grownBy_alloc _ _ _, HB.out.alloc _⟩
  case round =>
    obtain ⟨⟨k, c, zs, hk, rfl, rfl, hc, hzl, hzd, hv, hblk⟩, hcap, hown, hnum⟩ := hrel
    by_cases hlt : k < m
    · have hlt' : (k : Int) < (m : Int) := by omega
      have ho : (wr.cell? ⟨g, off + k, none⟩) = some (.int .u64 ((dg cs (off + k) : Nat) : Int)) := by
        rw [hblk.cell (by rw [mid_length (by omega)]; omega), dg_mid_above (by omega) (by omega)]
      have hf : wr.frozen? ⟨g, off + k, none⟩ = false := hblk.frozen _
      have hadd := run_add (dg cs (off + k)) (dg Y k) c hc
      have HD := Lib.hid (digit_any wr.drew w.heap.size B d k Y hnum.drew (by omega) hcap)
      have HS := Lib.hid (give_step hlt hoff hg hcs hc hzl hzd hv hblk hcap hown hnum HNE.out)
      clear hblk hv hzl hcap hown hnum
      go_wp2_with fail
      go_region_with (first | (go_at_call 153; refine HD.out.mono ?_; rintro e w' ⟨rfl, rfl⟩))
      all_goals
        go_wp2
        go_roundw
        case rel => exact HS.out 1
        case measure => simp [intOf]; omega
    · have hkn : k = m := by omega
      have HE : Hid (GivePost w g off m cs Y (.returned (.bool (c != 0))) wr) := by
        subst hkn
        refine ⟨⟨zs, c, hc, rfl, hzl, hzd, ?_, hblk⟩, hown⟩
        rw [List.take_of_length_le hm] at hv
        exact hv
      have HN := Lib.hid (bne_cast c)
      clear hblk hv hzl hkn hcap hown hnum
      go_wp2_with fail
      go_ret
      rw [HN.out]
      exact HE.out

/-- The quotient's digit is not above what the top two or three digits allow. -/
theorem quot_two {S Y : List Nat} {n : Nat} (hS : Digs S) (hl : S.length = Y.length + 1) (hn : Y.length = n + 2) :
    val S / val Y * dg Y (n + 1) ≤ dg S (n + 2) * B64 + dg S (n + 1) := by
  have h1 := val_take_add S (n + 1)
  rw [Nat.min_eq_left (by omega), drop_pred (by omega), val_cons, drop_pred (by omega), val_cons, List.drop_of_length_le (by omega)] at h1
  simp only [val_nil, Nat.mul_zero, Nat.add_zero] at h1
  have h2 := val_take_add Y (n + 1)
  rw [Nat.min_eq_left (by omega), drop_pred (by omega), val_cons, List.drop_of_length_le (by omega)] at h2
  simp only [val_nil, Nat.mul_zero, Nat.add_zero] at h2
  have h3 := val_lt (hS.take (n + 1))
  rw [List.length_take, Nat.min_eq_left (by omega)] at h3
  have h4 := Nat.div_mul_le_self (val S) (val Y)
  generalize val S / val Y = Q at *
  have h5 : B64 ^ (n + 1) * (Q * dg Y (n + 1)) ≤ Q * val Y := by
    rw [Nat.mul_left_comm]
    exact Nat.mul_le_mul_left _ (by omega)
  have h6 : Q * dg Y (n + 1) < (dg S (n + 1) + B64 * dg S (n + 1 + 1)) + 1 := by
    refine Nat.lt_of_mul_lt_mul_left (a := B64 ^ (n + 1)) ?_
    rw [Nat.mul_succ]
    omega
  rw [Nat.mul_comm (dg S (n + 2))]
  exact Nat.le_trans (Nat.le_of_lt_succ h6) (Nat.le_of_eq (Nat.add_comm _ _))
theorem quot_three {S Y : List Nat} {n t r : Nat} (hS : Digs S) (hl : S.length = Y.length + 1) (hn : Y.length = n + 2) (ht : t ≤ val S / val Y)
    (hr : t * dg Y (n + 1) + r = dg S (n + 2) * B64 + dg S (n + 1)) : t * dg Y n ≤ r * B64 + dg S n := by
  have h1 := val_take_add S n
  rw [Nat.min_eq_left (by omega), drop_pred (by omega), val_cons, drop_pred (by omega), val_cons, drop_pred (by omega), val_cons, List.drop_of_length_le (by omega)] at h1
  simp only [val_nil, Nat.mul_zero, Nat.add_zero] at h1
  have h2 := val_take_add Y n
  rw [Nat.min_eq_left (by omega), drop_pred (by omega), val_cons, drop_pred (by omega), val_cons, List.drop_of_length_le (by omega)] at h2
  simp only [val_nil, Nat.mul_zero, Nat.add_zero] at h2
  have h3 := val_lt (hS.take n)
  rw [List.length_take, Nat.min_eq_left (by omega)] at h3
  have h4 := Nat.le_trans (Nat.mul_le_mul_right (val Y) ht) (Nat.div_mul_le_self (val S) (val Y))
  rw [show n + 1 + 1 = n + 2 by omega] at h1
  have e1 : dg S (n + 1) + B64 * dg S (n + 2) = t * dg Y (n + 1) + r := by rw [hr, Nat.mul_comm B64]; omega
  rw [e1] at h1
  have h5 : B64 ^ n * (t * (dg Y n + B64 * dg Y (n + 1))) ≤ t * val Y := by
    rw [Nat.mul_left_comm]
    exact Nat.mul_le_mul_left _ (by omega)
  have h6 : t * (dg Y n + B64 * dg Y (n + 1)) < dg S n + B64 * (t * dg Y (n + 1) + r) + 1 := by
    refine Nat.lt_of_mul_lt_mul_left (a := B64 ^ n) ?_
    rw [Nat.mul_succ]
    omega
  have e2 : t * (dg Y n + B64 * dg Y (n + 1)) = t * dg Y n + B64 * (t * dg Y (n + 1)) := by rw [Nat.mul_add, Nat.mul_left_comm]
  rw [e2, Nat.mul_add] at h6
  rw [Nat.mul_comm r]
  omega

theorem quiet_add {P : Program} {f : FuncId} {args : Array Value} {w : World} {a n : Nat} {v : Value}
    (h : Calls P f args (w.drewN (a + n)) fun e w' => e = .returned v ∧ ∃ m, w' = (w.drewN (a + n)).drewN m) :
    Calls P f args (w.drewN (a + n)) fun e w'' => e = .returned v ∧ ∃ m, w'' = w.drewN (a + m) :=
  h.mono fun _ _ ⟨he, m, hm⟩ => ⟨he, n + m, by rw [hm, World.drewN_drewN, Nat.add_assoc]⟩

/-- What is told of a guess. -/
def GuessPost (w : World) (Q : Nat) (e : Ending) (w' : World) : Prop := ∃ q : Nat, e = .returned (.int .u64 (q : Int)) ∧ q < B64 ∧ Q ≤ q ∧ ∃ n, w' = w.drewN n

structure GuessRel (Q top nx p3 p2 : Nat) (t r h l : Nat) : Prop where
  kq : Q ≤ t
  kt : t < B64
  kr : r < B64
  kh : h < B64
  kl : l < B64
  e1 : h * B64 + l = t * nx
  e2 : t * top + r = p3 * B64 + p2

theorem guess_next {Q top nx p3 p2 p1 t r h l : Nat} (hk : GuessRel Q top nx p3 p2 t r h l) (hnx : nx < B64) (hq : t ≤ Q → t * nx ≤ r * B64 + p1) (hg : r * B64 + p1 < h * B64 + l) :
    1 ≤ t ∧ sbo l nx 0 ≤ h ∧ Q ≤ t - 1 ∧ (hi (r + top) = 0 → GuessRel Q top nx p3 p2 (t - 1) (lo (r + top)) (h - sbo l nx 0) (slo l nx 0)) := by
  have ht : Q < t := by
    rcases Nat.lt_or_ge Q t with h1 | h1
    · exact h1
    · have := hq h1
      have := hk.e1
      omega
  have h1 := slo_sbo hk.kl hnx (show 0 ≤ 1 by omega)
  have h2 : (t - 1) * nx + nx = t * nx := by rw [← Nat.succ_mul]; congr 1; omega
  have h3 : sbo l nx 0 ≤ h := by
    rcases Nat.eq_zero_or_pos h with h0 | h0
    · unfold sbo
      rw [if_neg]
      · omega
      · have h4 := hk.e1
        subst h0
        omega
    · have := sbo_le l nx 0
      omega
  refine ⟨by omega, h3, by omega, fun hc => ⟨by omega, by have := hk.kt; omega, lo_lt _, by have := hk.kh; omega, slo_lt _ _ _, ?_, ?_⟩⟩
  · have h5 := hk.e1
    have h6 : (h - sbo l nx 0) * B64 + sbo l nx 0 * B64 = h * B64 := by rw [← Nat.add_mul]; congr 1; omega
    have h7 : B64 * sbo l nx 0 = sbo l nx 0 * B64 := Nat.mul_comm _ _
    omega
  · have h5 := lo_hi (r + top)
    rw [hc, Nat.mul_zero, Nat.add_zero] at h5
    have h6 : (t - 1) * top + top = t * top := by rw [← Nat.succ_mul]; congr 1; omega
    have := hk.e2
    omega

theorem lex_lt {r h p l : Nat} (hp : p < B64) (hl : l < B64) : (r * B64 + p < h * B64 + l) ↔ (r < h ∨ (h = r ∧ p < l)) := by
  constructor
  · intro h1
    rcases Nat.lt_trichotomy r h with h2 | h2 | h2
    · exact .inl h2
    · subst h2; exact .inr ⟨rfl, by omega⟩
    · have : (h + 1) * B64 ≤ r * B64 := Nat.mul_le_mul_right _ h2
      rw [Nat.succ_mul] at this
      omega
  · rintro (h2 | ⟨rfl, h2⟩)
    · have : (r + 1) * B64 ≤ h * B64 := Nat.mul_le_mul_right _ h2
      rw [Nat.succ_mul] at this
      omega
    · omega

set_option maxHeartbeats 4000000 in
theorem guess_any (w : World) (A B : Option Addr) (capP d n : Nat) (S Y : List Nat) (hA : Num w A S) (hB : Num w B Y) (hl : S.length = Y.length + 1) (hn : Y.length = n + 2) (hN : n ≤ 1099511627776) (hQ : val S / val Y < B64) :
    Calls Tryz.prog 150 #[.slice A (n + 3) capP, .slice B (n + 2) d] w (GuessPost w (val S / val Y)) := by
  have HQ2 := Lib.hid (quot_two hA.1 hl hn)
  have HQ3 : Hid (∀ t r, t * dg Y (n + 1) + r = dg S (n + 2) * B64 + dg S (n + 1) → t ≤ val S / val Y → t * dg Y n ≤ r * B64 + dg S n) := fun t r h1 h2 => quot_three hA.1 hl hn h2 h1
  obtain ⟨b1, o1, rfl, hb1, hc1⟩ := hA.at_ (by omega)
  obtain ⟨b2, o2, rfl, hb2, hc2⟩ := hB.at_ (by omega)
  have c1 := hc1 (n + 2) (by omega)
  have c2 := hc1 (n + 1) (by omega)
  have c3 := hc1 n (by omega)
  have c4 := hc2 (n + 1) (by omega)
  have c5 := hc2 n (by omega)
  have d1 := dg_lt hA.1 (n + 2)
  have d2 := dg_lt hA.1 (n + 1)
  have d3 := dg_lt hA.1 n
  have d4 := dg_lt hB.1 (n + 1)
  have d5 := dg_lt hB.1 n
  generalize val S / val Y = Q at *
  generalize dg S (n + 2) = p3 at *
  generalize dg S (n + 1) = p2 at *
  generalize dg S n = p1 at *
  generalize dg Y (n + 1) = top at *
  generalize dg Y n = nx at *
  clear hc1 hc2 hA hB hl hn
  have i1 : ((n : Int) + 1) < (n : Int) + 2 := by omega
  have w1 : IntKind.i64.wrap ((n : Int) + 2 - 1) = (n : Int) + 1 := by
    rw [show (n : Int) + 2 - 1 = (n : Int) + 1 by omega]; exact IntWalk.i64_in _ (by omega)
  have w2 : IntKind.i64.wrap ((n : Int) + 2 - 2) = (n : Int) := by
    rw [show (n : Int) + 2 - 2 = (n : Int) by omega]; exact IntWalk.i64_in _ (by omega)
  have tn1 : ((n : Int) + 1).toNat = n + 1 := by omega
  have tn2 : ((n : Int) + 2).toNat = n + 2 := by omega
  by_cases hpt : top ≤ p3
  · have hpt' : (top : Int) ≤ (p3 : Int) := by omega
    have HF : Hid (Q ≤ 18446744073709551615) := by
      show Q ≤ 18446744073709551615
      rw [B64_eq] at hQ
      omega
    clear hQ
    go_enter Tryz.func150, Tryz.ntmps150
    go_wp2_with fail
    go_quiet (fail)
    go_wp2_with fail
    go_ret
    exact ⟨18446744073709551615, rfl, by rw [B64_eq]; omega, HF.out, _, rfl⟩
  · have hpt' : ¬ (top : Int) ≤ (p3 : Int) := by omega
    have HP1 : Hid ((p3 * B64 + p2) / top < B64) := div_digit_lt (by omega) d2
    have HP2 : Hid ((p3 * B64 + p2) % top < B64) := by
      have := Nat.mod_lt (p3 * B64 + p2) (show top > 0 by omega)
      exact Nat.lt_trans this d4
    have HP3 : Hid ((p3 * B64 + p2) / top * top + (p3 * B64 + p2) % top = p3 * B64 + p2) := Nat.div_add_mod' _ _
    have HP4 : Hid (Q ≤ (p3 * B64 + p2) / top) := by
      show Q ≤ (p3 * B64 + p2) / top
      rw [Nat.le_div_iff_mul_le (by omega)]
      exact HQ2.out
    have HD : Hid (∀ W : World, Calls Tryz.prog 115 #[.int .u64 p3, .int .u64 p2, .int .u64 top] W (RetDiv W ((p3 * B64 + p2) / top) ((p3 * B64 + p2) % top))) := fun W => div64_any p3 p2 top (by omega) d2 d4 W
    go_enter Tryz.func150, Tryz.ntmps150
    go_wp2_with fail
    go_quiet (fail)
    go_wp2_with fail
    generalize (p3 * B64 + p2) / top = t0 at *
    generalize (p3 * B64 + p2) % top = r0 at *
    go_quiet ((go_at_call 115; exact quiet_add (HD.out _)))
    go_wp2_with fail
    refine (mul64_any _ _ HP1.out d5 _).mono ?_
    rintro e w' ⟨rfl, rfl⟩
    go_wp2_with fail
    have HR0 : Hid (GuessRel Q top nx p3 p2 t0 r0 (hi (t0 * nx)) (lo (t0 * nx))) :=
      ⟨HP4.out, HP1.out, HP2.out, hi_prod_lt0 HP1.out d5, lo_lt _, by have := lo_hi (t0 * nx); rw [Nat.mul_comm] ; omega, HP3.out⟩
    clear hQ
    go_loop [8, 9, 10, 11] (fun t r h l => ∃ t' r' h' l' : Nat, t = .int .u64 (t' : Int) ∧ r = .int .u64 (r' : Int) ∧ h = .int .u64 (h' : Int) ∧ l = .int .u64 (l' : Int) ∧ Hid (GuessRel Q top nx p3 p2 t' r' h' l')) (fun t _ _ _ => (intOf t).toNat)
    case atStart => exact ⟨t0, r0, _, _, rfl, rfl, rfl, rfl, HR0⟩
    case round =>
      obtain ⟨t, r, h, l, rfl, rfl, rfl, rfl, hk⟩ := hrel
      have hxt := hk.out.kt
      have hxl := hk.out.kl
      by_cases hc : r * B64 + p1 < h * B64 + l
      · obtain ⟨n1, n2, n3, n4⟩ := guess_next hk.out d5 (fun hle => HQ3.out t r hk.out.e2 hle) hc
        have N3 := Lib.hid n3
        have N4 := Lib.hid n4
        have hxt2 : t - 1 < B64 := by omega
        have HT2 := Lib.hid hxt2
        have eq1 : IntKind.u64.wrap ((t : Int) - 1) = ((t - 1 : Nat) : Int) := u64_sub (a := t) (b := 1) (by omega) hxt
        have eq2 : IntKind.u64.wrap ((h : Int) - ((sbo l nx 0 : Nat) : Int)) = ((h - sbo l nx 0 : Nat) : Int) := u64_sub (by omega) hk.out.kh
        have hsub := run_sub0 l nx
        have hadd := run_add0 r top
        have hlex := (lex_lt d3 hxl).1 hc
        clear hc n3 n4 hxt2
        by_cases hca : hi (r + top) = 0
        · have HR := Lib.hid (N4.out hca)
          have hca' : (((hi (r + top) : Nat) : Int) != 0) = false := by rw [hca]; rfl
          clear hca
          rcases hlex with hl1 | ⟨hl1, hl2⟩
          · have f1 : (r : Int) < (h : Int) := by omega
            clear hl1
            go_wp2_with fail
            go_round
            case rel => exact ⟨t - 1, _, _, _, rfl, rfl, rfl, rfl, HR⟩
            case measure => simp [intOf]; omega
          · have f1 : ¬ (r : Int) < (h : Int) := by omega
            have f2 : ((h : Int) == (r : Int)) = true := by rw [hl1]; simp
            have f3 : (p1 : Int) < (l : Int) := by omega
            clear hl1 hl2
            go_wp2_with fail
            go_round
            case rel => exact ⟨t - 1, _, _, _, rfl, rfl, rfl, rfl, HR⟩
            case measure => simp [intOf]; omega
        · have hca' : (((hi (r + top) : Nat) : Int) != 0) = true := by rw [bne_iff_ne]; omega
          clear hca
          rcases hlex with hl1 | ⟨hl1, hl2⟩
          · have f1 : (r : Int) < (h : Int) := by omega
            clear hl1
            go_wp2_with fail
            go_ret
            exact ⟨t - 1, rfl, HT2.out, N3.out, _, rfl⟩
          · have f1 : ¬ (r : Int) < (h : Int) := by omega
            have f2 : ((h : Int) == (r : Int)) = true := by rw [hl1]; simp
            have f3 : (p1 : Int) < (l : Int) := by omega
            clear hl1 hl2
            go_wp2_with fail
            go_ret
            exact ⟨t - 1, rfl, HT2.out, N3.out, _, rfl⟩
      · have hlex := mt (lex_lt d3 hxl).2 hc
        have f1 : ¬ (r : Int) < (h : Int) := fun hx => hlex (.inl (by omega))
        by_cases hl1 : h = r
        · have f2 : ((h : Int) == (r : Int)) = true := by rw [hl1]; simp
          have f3 : ¬ (p1 : Int) < (l : Int) := fun hx => hlex (.inr ⟨hl1, by omega⟩)
          clear hl1 hlex hc
          go_wp2_with fail
          go_ret
          exact ⟨t, rfl, hk.out.kt, hk.out.kq, _, rfl⟩
        · have f2 : ((h : Int) == (r : Int)) = false := by rw [beq_eq_false_iff_ne]; omega
          clear hl1 hlex hc
          go_wp2_with fail
          go_ret
          exact ⟨t, rfl, hk.out.kt, hk.out.kq, _, rfl⟩
end Go.Proofs.YtmbnlhedbedcdaaGreatDoor

/- Long division: one digit of the quotient, all of them. -/
namespace Go.Proofs.YtmbnlhedbedcdaaGreatDoor
open Go.RowKit

structure OutPost (w : World) (g off : Nat) (cs Y : List Nat) (e : Ending) (w' : World) : Prop where
  ret : e = .returned (.int .u64 ((val ((cs.drop off).take (Y.length + 1)) / val Y : Nat) : Int))
  ex : ∃ zs : List Nat, zs.length = Y.length + 1 ∧ Digs zs ∧ val zs = val ((cs.drop off).take (Y.length + 1)) % val Y ∧ Blk w' g (mid cs off zs)
  own : w.grownBy w' (some g)

/-- Where the taking out stands: below is true, and too much has been taken, or it isn't, and the rest is right. -/
def OutAt (P D n : Nat) (t : Nat) (zs : List Nat) : Bool → Prop
  | true => val zs + t * D = P + B64 ^ n ∧ P < t * D
  | false => val zs + t * D = P ∧ val zs < D

structure OutRel (w wr : World) (g off : Nat) (cs Y : List Nat) (B : Option Addr) (tv bv : Value) : Prop where
  ex : ∃ (t : Nat) (b : Bool) (zs : List Nat), tv = .int .u64 (t : Int) ∧ bv = .bool b ∧ t < B64 ∧ zs.length = Y.length + 1 ∧ Digs zs ∧ OutAt (val ((cs.drop off).take (Y.length + 1))) (val Y) (Y.length + 1) t zs b ∧ Blk wr g (mid cs off zs)
  own : w.grownBy wr (some g)
  num : Num wr B Y

theorem grown_trans {a b c : World} {row : Option Nat} (h : a.grownBy b row) (k : b.grownBy c row) : a.grownBy c row :=
  ⟨k.os.trans h.os, k.tape.trans h.tape, k.output.trans h.output, Nat.le_trans h.size k.size, fun i hi hne => (k.block i (Nat.lt_of_lt_of_le hi h.size) hne).trans (h.block i hi hne)⟩
theorem grown_of_only {a b : World} {g : Nat} (h : Only g a b) : a.grownBy b (some g) :=
  ⟨h.os, h.tape, h.output, Nat.le_of_eq h.size.symm, fun i _ hne => h.block i (by rintro rfl; exact hne rfl)⟩
theorem Num.grown {w w' : World} {g : Nat} {A : Option Addr} {xs : List Nat} (h : Num w A xs) (hO : w.grownBy w' (some g)) (hne : 0 < xs.length → ∀ p, A = some p → p.block ≠ g) : Num w' A xs :=
  ⟨h.1, fun hn => by
    obtain ⟨b, off, e, hlt, hc⟩ := h.2 hn
    have hb : b ≠ g := hne (List.length_pos_iff.2 hn) _ e
    exact ⟨b, off, e, Nat.lt_of_lt_of_le hlt hO.size, fun i hi => (World.cell?_of_block (hO.block b hlt (by intro e2; injection e2 with e3; exact hb e3))).trans (hc i hi)⟩⟩

theorem mid_mid {cs zs ys : List Nat} {off : Nat} (h : zs.length = ys.length) (hl : off + zs.length ≤ cs.length) : mid (mid cs off zs) off ys = mid cs off ys := by
  unfold mid
  have h1 : (cs.take off).length = off := by rw [List.length_take]; omega
  rw [List.take_append_of_le_length (by omega), List.take_of_length_le (Nat.le_of_eq h1), ← h, List.drop_append, h1, List.drop_of_length_le (by omega), List.nil_append, show off + zs.length - off = zs.length by omega, List.drop_left]
theorem drop_take_mid {cs zs : List Nat} {off : Nat} (hl : off + zs.length ≤ cs.length) : ((mid cs off zs).drop off).take zs.length = zs := by
  unfold mid
  have h1 : (cs.take off).length = off := by rw [List.length_take]; omega
  rw [List.drop_append, h1, List.drop_of_length_le (by omega), List.nil_append, Nat.sub_self, List.drop_zero, List.take_left]

theorem out_start {P D n q b : Nat} {zs : List Nat} (hb : b ≤ 1) (hv : val zs + D * q = P + B64 ^ n * b) (hz : val zs < B64 ^ n) (hQ : P / D ≤ q) (hD : 0 < D) : OutAt P D n q zs (b != 0) := by
  rw [Nat.mul_comm D] at hv
  rcases Nat.eq_zero_or_pos b with h0 | h0
  · subst h0
    rw [Nat.mul_zero, Nat.add_zero] at hv
    refine ⟨hv, ?_⟩
    have h1 : P < (q + 1) * D := (Nat.div_lt_iff_lt_mul hD).1 (by omega)
    rw [Nat.succ_mul] at h1
    omega
  · have : b = 1 := by omega
    subst this
    rw [Nat.mul_one] at hv
    exact ⟨hv, by omega⟩
theorem out_next {P D n t c : Nat} {zs ys : List Nat} (hc : c ≤ 1) (h : OutAt P D n t zs true) (hv : val ys + B64 ^ n * c = val zs + D) (hz : val zs < B64 ^ n) (hy : val ys < B64 ^ n) : 1 ≤ t ∧ OutAt P D n (t - 1) ys (!(c != 0)) := by
  obtain ⟨h1, h2⟩ := h
  have ht : 1 ≤ t := by
    rcases Nat.eq_zero_or_pos t with h0 | h0
    · subst h0; omega
    · exact h0
  have h3 : (t - 1) * D + D = t * D := by rw [← Nat.succ_mul]; congr 1; omega
  refine ⟨ht, ?_⟩
  rcases Nat.eq_zero_or_pos c with h0 | h0
  · subst h0
    rw [Nat.mul_zero, Nat.add_zero] at hv
    exact ⟨by omega, by omega⟩
  · have : c = 1 := by omega
    subst this
    rw [Nat.mul_one] at hv
    exact ⟨by omega, by omega⟩

set_option maxHeartbeats 2000000 in
theorem takeOut_any (w : World) (g off capP d n : Nat) (cs Y : List Nat) (B : Option Addr) (hblk : Blk w g cs) (hcs : Digs cs) (hoff : off + (Y.length + 1) ≤ cs.length) (hB : Num w B Y) (hn : Y.length = n + 2)
    (hne : 0 < Y.length → ∀ p, B = some p → p.block ≠ g) (hN : n ≤ 1099511627770) (hY : 0 < val Y) (hP : val ((cs.drop off).take (Y.length + 1)) < val Y * B64) :
    Calls Tryz.prog 118 #[.slice (some ⟨g, off, none⟩) (n + 3) capP, .slice B (n + 2) d] w (OutPost w g off cs Y) := by
  have hSl : ((cs.drop off).take (Y.length + 1)).length = Y.length + 1 := by rw [List.length_take, List.length_drop]; omega
  have hS : Num w (some ⟨g, off, none⟩) ((cs.drop off).take (Y.length + 1)) := (hblk.num_drop hcs off).take _
  have hQ : val ((cs.drop off).take (Y.length + 1)) / val Y < B64 := Nat.div_lt_of_lt_mul hP
  have HG := Lib.hid (guess_any w (some ⟨g, off, none⟩) B capP d n _ Y hS hB hSl hn (by omega) hQ)
  have HB := Lib.hid hB
  have HNE := Lib.hid hne
  have HY := Lib.hid hY
  have HN := Lib.hid hn
  have HBLK := Lib.hid hblk
  have HT : Hid (∀ (W : World) (xs : List Nat) (x : Nat), Blk W g xs → Digs xs → off + Y.length < xs.length → Num W B Y → x < B64 → Calls Tryz.prog 151 #[.slice (some ⟨g, off, none⟩) (n + 3) capP, .slice B (n + 2) d, .int .u64 x] W (TakePost W g off xs Y x)) := by
    intro W xs x h1 h2 h3 h4 h5
    have h := take_any W g off capP d x xs Y B h1 h2 h3 h4 hne h5 (by omega)
    rw [hn] at h
    exact h
  have HV : Hid (∀ (W : World) (xs : List Nat), Blk W g xs → Digs xs → off + (Y.length + 1) ≤ xs.length → Num W B Y → Calls Tryz.prog 152 #[.slice (some ⟨g, off, none⟩) (n + 3) capP, .slice B (n + 2) d] W (GivePost W g off (Y.length + 1) xs Y)) := by
    intro W xs h1 h2 h3 h4
    have h := give_any W g off (Y.length + 1) capP d xs Y B h1 h2 h3 h4 hne (by omega) (by omega)
    rw [hn] at h
    rw [hn]
    exact h
  clear hB hne hS hSl hP hQ hY hn hblk
  go_enter Tryz.func118, Tryz.ntmps118
  go_wp2_with fail
  refine HG.out.mono ?_
  rintro e w' ⟨q, rfl, hq, hQq, m, rfl⟩
  have HQq := Lib.hid hQq
  clear hQq HG
  go_wp2_with fail
  refine (HT.out (w.drewN m) cs q (HBLK.out.drewN m) hcs (by omega) (HB.out.drewN m) hq).mono ?_
  rintro e w1 ⟨⟨zs, b, hb, rfl, hzl, hzd, hv, hblk1⟩, hO1⟩
  have HS0 : Hid (OutRel w w1 g off cs Y B (.int .u64 (q : Int)) (.bool (b != 0))) := by
    have hz := val_lt hzd
    rw [hzl] at hz
    have hO2 : w.grownBy w1 (some g) := grown_trans (grown_drewN (World.grownBy.refl w _) m) (grown_of_only hO1)
    exact ⟨⟨q, _, zs, rfl, rfl, hq, hzl, hzd, out_start hb hv hz HQq.out HY.out, hblk1⟩, hO2, HB.out.grown hO2 HNE.out⟩
  clear hv hzl hblk1 hO1
  go_wp2_with fail
  go_loopw [5, 6] (fun tv bv wr => OutRel w wr g off cs Y B tv bv) (fun tv _ _ => (intOf tv).toNat)
  case atStart => exact HS0.out
  case round =>
    obtain ⟨⟨t, b', zs', rfl, rfl, ht, hzl, hzd, hat, hblk⟩, hown, hnum⟩ := hrel
    cases b' with
    | true =>
      have hml := mid_length (cs := cs) (zs := zs') (off := off) (by omega)
      have HG2 := Lib.hid (HV.out _ _ hblk (hcs.mid hzd off) (by omega) hnum)
      have HAT := Lib.hid hat
      have HZL := Lib.hid hzl
      have HOWN := Lib.hid hown
      have HNUM := Lib.hid hnum
      clear hat hblk hzl hown hnum hml
      go_wp2_with fail
      refine HG2.out.mono ?_
      rintro e w2 ⟨⟨ys, c, hc, rfl, hyl, hyd, hv, hblk2⟩, hown2⟩
      have hv2 : val ys + B64 ^ (Y.length + 1) * c = val zs' + val Y := by
        have h := drop_take_mid (cs := cs) (zs := zs') (off := off) (by rw [HZL.out]; omega)
        rw [HZL.out] at h
        rwa [h] at hv
      have hz1 := val_lt hzd
      rw [HZL.out] at hz1
      have hz2 := val_lt hyd
      rw [hyl] at hz2
      obtain ⟨ht1, hat2⟩ := out_next hc HAT.out hv2 hz1 hz2
      rw [mid_mid (by rw [HZL.out, hyl]) (by rw [HZL.out]; omega)] at hblk2
      have HR : Hid (OutRel w w2 g off cs Y B (.int .u64 ((t - 1 : Nat) : Int)) (.bool (!(c != 0)))) := by
        have hO3 := grown_trans HOWN.out hown2
        exact ⟨⟨t - 1, _, ys, rfl, rfl, by omega, hyl, hyd, hat2, hblk2⟩, hO3, HB.out.grown hO3 HNE.out⟩
      have eq1 : IntKind.u64.wrap ((t : Int) - 1) = ((t - 1 : Nat) : Int) := u64_sub (a := t) (b := 1) (by omega) ht
      clear hv hv2 hz1 hz2 hyl hblk2 hown2 hat2
      go_wp2_with fail
      go_roundw
      case rel => exact HR.out
      case measure => simp [intOf]; omega
    | false =>
      have HE : Hid (OutPost w g off cs Y (.returned (.int .u64 (t : Int))) wr) := by
        obtain ⟨h1, h2⟩ := hat
        have h3 : val ((cs.drop off).take (Y.length + 1)) = val Y * t + val zs' := by rw [← h1, Nat.mul_comm t]; omega
        refine ⟨?_, ⟨zs', hzl, hzd, ?_, hblk⟩, hown⟩
        · rw [h3, Nat.mul_add_div HY.out, Nat.div_eq_of_lt h2, Nat.add_zero]
        · rw [h3, Nat.mul_add_mod, Nat.mod_eq_of_lt h2]
      clear hat hblk hzl hown hnum
      go_wp2_with fail
      go_ret
      exact HE.out
end Go.Proofs.YtmbnlhedbedcdaaGreatDoor

/- Long division, whole. -/
namespace Go.Proofs.YtmbnlhedbedcdaaGreatDoor
open Go.RowKit

/-- cut hands back a view of what it was handed, unless nothing is left. -/
def RetC (w : World) (A : Option Addr) (c n : Nat) (e : Ending) (w' : World) : Prop :=
  ∃ A' c', e = .returned (.slice A' (dig n).length c') ∧ (dig n).length ≤ c' ∧ Num w A' (dig n) ∧ w = w' ∧ (0 < (dig n).length → A' = A ∧ c' = c)

set_option maxHeartbeats 400000 in
theorem cut_at (w : World) (A : Option Addr) (c : Nat) (xs : List Nat) (h : Num w A xs) (hn : xs.length ≤ 1099511627776) (hc : xs.length ≤ c) :
    Calls Tryz.prog 77 #[.slice A xs.length c] w (RetC w A c (val xs)) := by
  have hd := h.1
  have HX := Lib.hid h
  clear h
  go_enter Tryz.func77, Tryz.ntmps77
  go_wp2
  go_loop [3] (fun n => ∃ k : Nat, k ≤ xs.length ∧ n = .int .i64 k ∧ Hid (val (xs.take k) = val xs)) (fun n => (intOf n).toNat)
  case atStart => exact ⟨xs.length, Nat.le_refl _, rfl, by rw [List.take_length]; exact rfl⟩
  case round =>
    obtain ⟨k, hk, rfl, hv⟩ := hrel
    by_cases h0 : k = 0
    · subst h0
      go_wp2
      go_ret
      have h1 := dig_take_of hd hk hv.out (.inl rfl)
      rw [List.take_zero] at h1
      refine ⟨none, 0, ?_, by rw [h1]; simp, by rw [h1]; exact Num.nil _ _, rfl, by rw [h1]; intro h; simp at h⟩
      rw [h1]; rfl
    · obtain ⟨b, off, rfl, hb, hcell⟩ := HX.out.at_ (by omega)
      have hck := hcell (k - 1) (by omega)
      clear hcell
      by_cases hz : dg xs (k - 1) = 0
      · have hz' : (((dg xs (k - 1) : Nat) : Int) == 0) = true := by rw [hz]; rfl
        have HZ := Lib.hid hz
        clear hz
        go_wp2
        go_round
        case rel => exact ⟨k - 1, by omega, by congr 1; omega, (val_take_pred h0 HZ.out).trans hv.out⟩
        case measure => simp [intOf]; omega
      · have hz' : (((dg xs (k - 1) : Nat) : Int) == 0) = false := by
          rw [beq_eq_false_iff_ne]; omega
        go_wp2
        go_ret
        have h1 := dig_take_of hd hk hv.out (.inr hz)
        have h2 : (dig (val xs)).length = k := by rw [h1, List.length_take]; omega
        refine ⟨some ⟨b, off, none⟩, c, ?_, by omega, by rw [h1]; exact HX.out.take k, rfl, fun _ => ⟨rfl, rfl⟩⟩
        rw [h2]; rfl

theorem mid_all {cs zs : List Nat} (h : zs.length = cs.length) : mid cs 0 zs = zs := by
  unfold mid
  rw [List.take_zero, List.nil_append, Nat.zero_add, List.drop_of_length_le (by omega), List.append_nil]

structure LongRel (w wr : World) (g0 g1 g2 n m : Nat) (Z0 Z1 : List Nat) (i : Value) : Prop where
  ex : ∃ (k : Nat) (qs cs : List Nat), k ≤ m ∧ i = .int .i64 k ∧ cs.length = m + n ∧ Digs cs ∧ qs.length = k ∧ Digs qs ∧ cs.take (m - k) = Z0.take (m - k) ∧
    val (Z0.drop (m - k)) = val qs * val Z1 + val (cs.drop (m - k)) ∧ val (cs.drop (m - k)) < val Z1 ∧ Blk wr g0 cs ∧ Blk wr g2 (List.replicate (m - k) 0 ++ qs)
  div : Blk wr g1 Z1
  below : Below w.heap.size w wr

theorem long_part {cs Z1 : List Nat} {m n k j : Nat} (hcs : Digs cs) (hcl : cs.length = m + n) (hZ : Digs Z1) (hZl : Z1.length = n) (hj : j + k + 1 = m) (hlt : val (cs.drop (m - k)) < val Z1) :
    val ((cs.drop j).take (Z1.length + 1)) = dg cs j + B64 * val (cs.drop (m - k)) ∧ val (cs.drop j) = dg cs j + B64 * val (cs.drop (m - k)) := by
  have h1 : val (cs.drop j) = dg cs j + B64 * val (cs.drop (m - k)) := by rw [drop_pred (by omega), val_cons, show j + 1 = m - k by omega]
  refine ⟨?_, h1⟩
  rw [← h1]
  have h2 := val_lt hZ
  have h3 := dg_lt hcs j
  have h4 : val (cs.drop j) < B64 ^ (Z1.length + 1) := by
    rw [h1, Nat.pow_succ]
    have h5 : B64 * (val (cs.drop (m - k)) + 1) ≤ B64 * B64 ^ Z1.length := Nat.mul_le_mul_left _ (by omega)
    rw [Nat.mul_add, Nat.mul_one] at h5
    rw [Nat.mul_comm (B64 ^ Z1.length)]
    omega
  exact val_take_of_le (Nat.le_refl _) h4

theorem long_step {w wr w1 : World} {g0 g1 g2 n m k j : Nat} {Z0 Z1 qs cs zs : List Nat} (hk : k < m) (hj : j + k + 1 = m) (hg02 : g0 ≠ g2) (hg12 : g1 ≠ g2) (hg01 : g0 ≠ g1) (hw0 : w.heap.size ≤ g0) (hw2 : w.heap.size ≤ g2) (hcl : cs.length = m + n) (hcs : Digs cs) (hql : qs.length = k) (hqd : Digs qs)
    (hZ1 : Digs Z1) (hZl : Z1.length = n) (hZ0l : Z0.length = m + n)
    (ht : cs.take (m - k) = Z0.take (m - k)) (hv : val (Z0.drop (m - k)) = val qs * val Z1 + val (cs.drop (m - k))) (hlt : val (cs.drop (m - k)) < val Z1) (hq : Blk wr g2 (List.replicate (m - k) 0 ++ qs))
    (hdiv : Blk wr g1 Z1) (hbw : Below w.heap.size w wr)
    (hzl : zs.length = Z1.length + 1) (hzd : Digs zs) (hz : val zs = val ((cs.drop j).take (Z1.length + 1)) % val Z1) (hblk : Blk w1 g0 (mid cs j zs)) (hown : wr.grownBy w1 (some g0)) :
    LongRel w (w1.setCell ⟨g2, j, none⟩ (.int .u64 ((val ((cs.drop j).take (Z1.length + 1)) / val Z1 : Nat) : Int))) g0 g1 g2 n m Z0 Z1 (.int .i64 ((k : Int) + 1)) := by
  obtain ⟨hp1, hp2⟩ := long_part hcs hcl hZ1 hZl hj hlt
  have hq1 : Blk w1 g2 (List.replicate (m - k) 0 ++ qs) := hq.of_heap (hown.block g2 hq.lt (by intro e; injection e with e; exact hg02 e.symm))
  have hd1 : Blk w1 g1 Z1 := hdiv.of_heap (hown.block g1 hdiv.lt (by intro e; injection e with e; exact hg01 e.symm))
  have hmm : m - (k + 1) = j := by omega
  have hD : 0 < val Z1 := by omega
  have hzs : val ((mid cs j zs).drop j) = val zs := by
    unfold mid
    have h1 : (cs.take j).length = j := by rw [List.length_take]; omega
    rw [List.drop_append, h1, List.drop_of_length_le (by omega), List.nil_append, Nat.sub_self, List.drop_zero, val_append]
    have h2 : val (cs.drop (j + zs.length)) = 0 := by
      have h3 := val_take_add (cs.drop j) zs.length
      rw [List.drop_drop, hzl, hp1, hp2] at h3
      rcases Nat.eq_zero_or_pos (val (cs.drop (j + (Z1.length + 1)))) with h4 | h4
      · rw [hzl]; exact h4
      · have : 0 < B64 ^ min (Z1.length + 1) (cs.drop j).length * val (cs.drop (j + (Z1.length + 1))) := Nat.mul_pos (pow_pos' _) h4
        omega
    rw [h2, Nat.mul_zero, Nat.add_zero]
  refine ⟨⟨k + 1, (val ((cs.drop j).take (Z1.length + 1)) / val Z1) :: qs, mid cs j zs, by omega, by simp, ?_, hcs.mid hzd j, by simp [hql], Digs.cons ?_ hqd, ?_, ?_, ?_, ?_, ?_⟩, ?_, ?_⟩
  · rw [mid_length (by omega), hcl]
  · rw [hp1, Nat.add_comm, Nat.mul_comm]
    exact div_digit_lt hlt (dg_lt hcs j)
  · rw [hmm]
    unfold mid
    rw [List.take_append_of_le_length (by rw [List.length_take]; omega), List.take_take, Nat.min_self]
    have h5 : (cs.take (m - k)).take j = (Z0.take (m - k)).take j := by rw [ht]
    rw [List.take_take, List.take_take, Nat.min_eq_left (by omega)] at h5
    exact h5
  · rw [hmm, hzs, hz, val_cons, drop_pred (xs := Z0) (by omega), val_cons, show j + 1 = m - k by omega, hv]
    have h6 : dg Z0 j = dg cs j := by
      have h7 : dg (Z0.take (m - k)) j = dg (cs.take (m - k)) j := by rw [ht]
      rwa [dg_take (by omega), dg_take (by omega)] at h7
    rw [h6, hp1]
    have h8 := Nat.div_add_mod' (dg cs j + B64 * val (cs.drop (m - k))) (val Z1)
    rw [Nat.mul_add, Nat.add_mul, Nat.mul_assoc]
    omega
  · rw [hmm, hzs, hz]
    exact Nat.mod_lt _ hD
  · exact hblk.far hg02 _
  · rw [hmm]
    have h := hq1.set_ j (val ((cs.drop j).take (Z1.length + 1)) / val Z1)
    have e := rep_set (n := m) (k := k) (q := val ((cs.drop j).take (Z1.length + 1)) / val Z1) (qs := qs) hk
    rw [show m - 1 - k = j by omega, hmm] at e
    rwa [e] at h
  · exact hd1.far hg12 _
  · exact (hbw.grown hown (by have := hbw.size; omega) (by intro i hi; injection hi with hi; omega)).setCell hw2 _

/-- A quotient and a rest, the rest in memory of the call's own. -/
def RetQR (w : World) (q r : Nat) (e : Ending) (w' : World) : Prop :=
  ∃ A c B d g zs, e = .returned (.tuple #[.slice A (dig q).length c, .slice B (dig r).length d]) ∧ (dig q).length ≤ c ∧ (dig r).length ≤ d ∧ Num w' A (dig q) ∧ Num w' B (dig r) ∧ Below w.heap.size w w' ∧
    w.heap.size ≤ g ∧ Blk w' g zs ∧ Digs zs ∧ (dig r).length ≤ zs.length ∧ zs.take (dig r).length = dig r ∧ (0 < (dig r).length → B = some ⟨g, 0, none⟩ ∧ d = zs.length)
end Go.Proofs.YtmbnlhedbedcdaaGreatDoor

/- Long division, walked. -/
namespace Go.Proofs.YtmbnlhedbedcdaaGreatDoor
open Go.RowKit

/-- The upshift that sets the top bit. -/
theorem norm_top {Y : List Nat} {n s : Nat} (hn : Y.length = n) (h2 : 1 ≤ n) (hs : s + blen (dg Y (n - 1)) = 64) (htop : dg Y (n - 1) ≠ 0) :
    rc Y s n = 0 ∧ B64 ^ n ≤ val Y * 2 ^ s * 2 ∧ s ≤ 63 := by
  have hb := blen_lt (dg Y (n - 1))
  have hb1 : 1 ≤ blen (dg Y (n - 1)) := by
    rcases Nat.eq_zero_or_pos (blen (dg Y (n - 1))) with h | h
    · rw [h] at hb; omega
    · exact h
  have hl := blen_le (n := dg Y (n - 1)) (k := blen (dg Y (n - 1)) - 1) (by omega)
  have e1 : dg Y (n - 1) * 2 ^ s < B64 := by
    rw [B64_pow, ← hs, Nat.add_comm, Nat.pow_add]
    exact Nat.mul_lt_mul_of_pos_right hb (Nat.pow_pos (by omega))
  refine ⟨?_, ?_, by omega⟩
  · unfold rc
    rw [if_neg (by omega), hi_of_lt e1]
  · have h1 := val_take_dg Y (n - 1)
    rw [show n - 1 + 1 = n by omega, ← hn, List.take_length, hn] at h1
    have h3 : B64 ^ (n - 1) * dg Y (n - 1) ≤ val Y := by omega
    have h4 : 2 ^ (blen (dg Y (n - 1)) - 1) * 2 ^ s * 2 = B64 := by
      rw [← Nat.pow_add, ← Nat.pow_succ, B64_pow]
      congr 1
      omega
    have h5 : B64 ^ n = B64 ^ (n - 1) * B64 := by rw [← Nat.pow_succ]; congr 1; omega
    have h6 : B64 ^ (n - 1) * B64 = B64 ^ (n - 1) * 2 ^ (blen (dg Y (n - 1)) - 1) * (2 ^ s * 2) := by
      have e : B64 ^ (n - 1) * B64 = B64 ^ (n - 1) * (2 ^ (blen (dg Y (n - 1)) - 1) * 2 ^ s * 2) := congrArg (fun t => B64 ^ (n - 1) * t) h4.symm
      rw [e, Nat.mul_assoc, Nat.mul_assoc]
    have h7 : B64 ^ (n - 1) * 2 ^ (blen (dg Y (n - 1)) - 1) ≤ val Y := Nat.le_trans (Nat.mul_le_mul_left _ hl) h3
    rw [h5, h6, Nat.mul_assoc (val Y)]
    exact Nat.mul_le_mul_right _ h7

theorem long_start {X Z0 : List Nat} {n M s D : Nat} (hX : Digs X) (hv : val Z0 = val X * 2 ^ s) (hl : Z0.length = M + n) (hM : M + n = X.length + 1) (hn : 1 ≤ n) (hD : B64 ^ n ≤ D * 2) (hs : s ≤ 63) : val (Z0.drop M) < D := by
  have h1 := val_take_add Z0 M
  rw [Nat.min_eq_left (by omega)] at h1
  have h2 := val_lt hX
  have h3 : val X * 2 ^ s < B64 ^ X.length * 2 ^ s := Nat.mul_lt_mul_of_pos_right h2 (Nat.pow_pos (by omega))
  have h4 : B64 ^ X.length * 2 ^ s = B64 ^ M * (B64 ^ (n - 1) * 2 ^ s) := by
    rw [← Nat.mul_assoc, ← Nat.pow_add]
    congr 2
    omega
  have h5 : val (Z0.drop M) < B64 ^ (n - 1) * 2 ^ s := by
    refine Nat.lt_of_mul_lt_mul_left (a := B64 ^ M) ?_
    omega
  have h6 : B64 ^ (n - 1) * 2 ^ s * 2 ≤ B64 ^ n := by
    have e : B64 ^ n = B64 ^ (n - 1) * B64 := by rw [← Nat.pow_succ]; congr 1; omega
    rw [e, Nat.mul_assoc]
    refine Nat.mul_le_mul_left _ ?_
    rw [B64_pow, ← Nat.pow_succ]
    exact Nat.pow_le_pow_right (by omega) (by omega)
  omega

theorem long_end {x y q r s v : Nat} (hy : 0 < y) (hv : x * 2 ^ s = q * (y * 2 ^ s) + r) (hr : r < y * 2 ^ s) (hz : v = r / 2 ^ s) : q = x / y ∧ v = x % y := by
  have hp : 0 < 2 ^ s := Nat.pow_pos (by omega)
  have hyp : 0 < y * 2 ^ s := Nat.mul_pos hy hp
  have e1 : x / y = q := by
    rw [← Nat.mul_div_mul_right x y hp, hv, Nat.mul_comm q, Nat.mul_add_div hyp, Nat.div_eq_of_lt hr, Nat.add_zero]
  have e2 : x % y * 2 ^ s = r := by
    rw [← Nat.mul_mod_mul_right, hv, Nat.mul_comm q, Nat.mul_add_mod, Nat.mod_eq_of_lt hr]
  refine ⟨e1.symm, ?_⟩
  rw [hz, ← e2, Nat.mul_div_cancel _ hp]
theorem mid_take {cs zs : List Nat} : (mid cs 0 zs).take zs.length = zs := by
  unfold mid
  rw [List.take_zero, List.nil_append, List.take_left]

set_option maxHeartbeats 4000000 in
theorem long_any (w : World) (A B : Option Addr) (c d n s M : Nat) (X Y : List Nat) (hA : Num w A X) (hB : Num w B Y) (hX : X.length ≤ 8589934592) (hn : Y.length = n) (h2 : 2 ≤ n) (hle : n ≤ X.length)
    (hs : s + blen (dg Y (n - 1)) = 64) (htop : dg Y (n - 1) ≠ 0) (hM : M + n = X.length + 1) :
    Calls Tryz.prog 95 #[.slice A X.length c, .slice B n d] w (RetQR w (val X / val Y) (val X % val Y)) := by
  obtain ⟨hrc, hnorm, hs63⟩ := norm_top hn (by omega) hs htop
  obtain ⟨b2, o2, rfl, hb2, hc2⟩ := hB.at_ (by omega)
  have ht := hc2 (n - 1) (by omega)
  have htd := dg_lt hB.1 (n - 1)
  have hsb : (64 : Int) - ((blen (dg Y (n - 1)) : Nat) : Int) = (s : Int) := by omega
  have HLZ := Lib.hid (lz64_any _ htd w)
  rw [hsb] at HLZ
  have HA := Lib.hid hA
  have HB := Lib.hid hB
  have HN := Lib.hid hn
  have HRC := Lib.hid hrc
  have HNORM := Lib.hid hnorm
  have hm1 := run_make_u64' ((X.length : Int) + 1) (X.length + 1) (by omega) (by omega)
  have hm2 := run_make_u64 n (by omega)
  have hm3 := run_make_u64' ((X.length : Int) - (n : Int) + 1) M (by omega) (by omega)
  clear hA hB hn hs hsb hrc hnorm htd hc2
  go_enter Tryz.func95, Tryz.ntmps95
  go_wp2_with fail
  refine HLZ.out.mono ?_
  rintro e w' ⟨rfl, rfl⟩
  clear HLZ
  go_wp2_with fail
  refine (raise_any (w.alloc (.cells (madeCells #[.int .u64 0] (X.length + 1)) 36)) w.heap.size 0 (X.length + 1) (X.length + 1) s c (List.replicate (X.length + 1) 0) X A (Blk.made _ _) (by rw [List.length_replicate]; omega)
    (HA.out.alloc _) (HA.out.ne (Nat.le_refl _)) hs63 (by omega) (by omega)).mono ?_
  rintro e w1 ⟨rfl, ⟨Z0, hz0l, hz0d, hz0v, hblk0⟩, hown1⟩
  have hZ0 := raise_whole rfl hz0v
  rw [mid_all (by rw [List.length_replicate]; omega)] at hblk0
  have hB1 : Below w.heap.size w w1 := ((Below.refl _ _).alloc (Nat.le_refl _) _).grown hown1 (by simp) (by intro k hk; injection hk with hk; omega)
  have HZ0 := Lib.hid hZ0
  have HBLK0 := Lib.hid hblk0
  have HB1 := Lib.hid hB1
  have HZ0L := Lib.hid hz0l
  have HZ0D := Lib.hid hz0d
  clear hz0v hZ0 hblk0 hown1 hB1 hz0l hz0d
  go_wp2_with fail
  have HBN := Lib.hid (HB.out.below HB1.out)
  have hr2 := raise_any (w1.alloc (.cells (madeCells #[.int .u64 0] n) 36)) w1.heap.size 0 n n s d (List.replicate n 0) Y (some ⟨b2, o2, none⟩) (Blk.made _ _) (by rw [List.length_replicate]; omega)
    (HBN.out.alloc _) (HBN.out.ne (Nat.le_refl _)) hs63 (by omega) (by rw [HN.out]; omega)
  rw [HN.out] at hr2
  refine hr2.mono ?_
  clear hr2
  rintro e w2 ⟨rfl, ⟨Z1, hz1l, hz1d, hz1v, hblk1⟩, hown2⟩
  rw [HRC.out, Nat.mul_zero, Nat.add_zero, List.take_of_length_le (Nat.le_of_eq HN.out)] at hz1v
  rw [mid_all (by rw [List.length_replicate]; omega)] at hblk1
  have hB2 : Below w1.heap.size w1 w2 := ((Below.refl _ _).alloc (Nat.le_refl _) _).grown hown2 (by simp) (by intro k hk; injection hk with hk; omega)
  have HBLK0' := Lib.hid (HBLK0.out.below hB2 HBLK0.out.lt)
  have HB2 := Lib.hid (HB1.out.trans (hB2.mono HB1.out.size))
  have HBLK1 := Lib.hid hblk1
  have HZ1 := Lib.hid hz1v
  have HZ1L := Lib.hid hz1l
  have HZ1D := Lib.hid hz1d
  have hsz1 := HBLK0.out.lt
  clear hz1v hblk1 hown2 hB2 hz1l hz1d HBLK0
  go_wp2_with fail
  have hw12 := HB2.out.size
  go_loopw [44] (fun i wr => LongRel w wr w.heap.size w1.heap.size w2.heap.size n M Z0 Z1 i) (fun i _ => M - (intOf i).toNat)
  case atStart =>
    have hl := HZ0L.out
    refine ⟨⟨0, [], Z0, Nat.zero_le _, rfl, by omega, HZ0D.out, rfl, Digs.nil, rfl, by rw [val_nil, Nat.zero_mul, Nat.zero_add], ?_, HBLK0'.out.alloc _, by rw [Nat.sub_zero, List.append_nil]; exact Blk.made _ _⟩, HBLK1.out.alloc _, HB2.out.alloc HB2.out.size _⟩
    exact long_start HA.out.1 HZ0.out (by omega) hM (by omega) (by rw [HZ1.out]; exact HNORM.out) hs63
  case round =>
    obtain ⟨⟨k, qs, cs, hk, rfl, hcl, hcs, hql, hqd, htk, hv, hlt, hblk, hq⟩, hdiv, hbw⟩ := hrel
    have h01 : w.heap.size ≠ w1.heap.size := Nat.ne_of_lt hsz1
    have h12 : w1.heap.size < w2.heap.size := HBLK1.out.lt
    by_cases hkm : k < M
    · obtain ⟨j, hj⟩ : ∃ j, j + k + 1 = M := ⟨M - 1 - k, by omega⟩
      have hji : (M : Int) - 1 - (k : Int) = (j : Int) := by omega
      have hkm' : (k : Int) < (M : Int) := by omega
      have hjm : (j : Int) < (M : Int) := by omega
      have hcapne : ¬ (X.length + 1 = j) := by omega
      have hj0 : (0 : Int) ≤ (j : Int) + (n : Int) + 1 := by omega
      have hjx : j + n ≤ X.length := by omega
      have hjx' : (j : Int) + (n : Int) ≤ (X.length : Int) := by omega
      have htn : ((j : Int) + (n : Int) + 1).toNat = j + n + 1 := by omega
      have hsub : j + n + 1 - j = n + 1 := by omega
      obtain ⟨n', hn'⟩ : ∃ n', n' + 2 = n := ⟨n - 2, by omega⟩
      have hD : 0 < val Z1 := by omega
      obtain ⟨hp1, hp2⟩ := long_part hcs hcl HZ1D.out HZ1L.out hj hlt
      have hP : val ((cs.drop j).take (Z1.length + 1)) < val Z1 * B64 := by
        have h5 : B64 * (val (cs.drop (M - k)) + 1) ≤ B64 * val Z1 := Nat.mul_le_mul_left _ hlt
        have h6 := dg_lt hcs j
        rw [Nat.mul_add, Nat.mul_one] at h5
        rw [hp1, Nat.mul_comm (val Z1)]
        omega
      have hT := takeOut_any wr w.heap.size j (X.length + 1 - j) n n' cs Z1 (some ⟨w1.heap.size, 0, none⟩) hblk hcs (by rw [HZ1L.out]; omega) (hdiv.num HZ1D.out) (by rw [HZ1L.out]; omega) (by intro _ p e; injection e with e; rw [← e]; exact h01.symm) (by omega) hD hP
      rw [show n' + 3 = n + 1 by omega, show n' + 2 = n by omega] at hT
      have HT := Lib.hid hT
      have HS : Hid (∀ (w3 : World) (zs : List Nat), zs.length = Z1.length + 1 → Digs zs → val zs = val ((cs.drop j).take (Z1.length + 1)) % val Z1 → Blk w3 w.heap.size (mid cs j zs) → wr.grownBy w3 (some w.heap.size) →
          LongRel w (w3.setCell ⟨w2.heap.size, j, none⟩ (.int .u64 ((val ((cs.drop j).take (Z1.length + 1)) / val Z1 : Nat) : Int))) w.heap.size w1.heap.size w2.heap.size n M Z0 Z1 (.int .i64 ((k : Int) + 1))) := by
        intro w3 zs g1 g2 g3 g4 g5
        exact long_step hkm hj (by omega) (by omega) h01 (Nat.le_refl _) (by omega) hcl hcs hql hqd HZ1D.out HZ1L.out (by rw [HZ0L.out]; omega) htk hv hlt hq hdiv hbw g1 g2 g3 g4 g5
      have HQ := Lib.hid hq
      have HQL := Lib.hid hql
      clear hT hP hp1 hp2 hD hblk hq hdiv hbw hv hlt htk hcl hql hn' hj
      go_wp2_with fail
      refine HT.out.mono ?_
      rintro e w3 ⟨rfl, ⟨zs, hzl, hzd, hz, hblk3⟩, hown3⟩
      have hq3 : Blk w3 w2.heap.size (List.replicate (M - k) 0 ++ qs) := HQ.out.of_heap (hown3.block _ HQ.out.lt (by intro e; injection e with e; omega))
      have ho := hq3.cell (i := j) (by rw [List.length_append, List.length_replicate]; omega)
      have hf := hq3.frozen j
      have HR := Lib.hid (HS.out w3 zs hzl hzd hz hblk3 hown3)
      clear hz hblk3 hown3 hq3 hzl
      go_wp2_with fail
      go_roundw
      case rel => exact HR.out
      case measure => simp [intOf]; omega
    · have hkM : k = M := by omega
      rw [hkM, Nat.sub_self, List.drop_zero, List.drop_zero] at hv
      rw [hkM, Nat.sub_self, List.drop_zero] at hlt
      rw [hkM, Nat.sub_self, List.replicate_zero, List.nil_append] at hq
      have hyp : 0 < val Y := by
        rcases Nat.eq_zero_or_pos (val Y) with h0 | h0
        · rw [HZ1.out, h0, Nat.zero_mul] at hlt; omega
        · exact h0
      have hXl : ((cs.drop 0).take n).length = n := by rw [List.length_take, List.length_drop]; omega
      have hXv : val ((cs.drop 0).take n) = val cs := by
        rw [List.drop_zero]
        refine val_take_of_le (Nat.le_refl _) ?_
        have := val_lt HZ1D.out
        rw [HZ1L.out] at this
        omega
      rw [HZ0.out, HZ1.out] at hv
      rw [HZ1.out] at hlt
      have HEND : Hid (∀ v, v = val cs / 2 ^ s → val qs = val X / val Y ∧ v = val X % val Y) := fun v hvv => long_end hyp hv hlt hvv
      have hL := lower_any wr w.heap.size 0 (X.length + 1) s (X.length + 1) cs ((cs.drop 0).take n) (some ⟨w.heap.size, 0, none⟩) hblk (by rw [hXl]; omega) (Src.self hcs) hs63 (by rw [hXl]; omega)
      rw [hXl] at hL
      have HL := Lib.hid hL
      have HXV := Lib.hid hXv
      have HQ := Lib.hid hq
      have HQL : Hid (qs.length = M) := by show qs.length = M; omega
      have HBW := Lib.hid hbw
      have HCL := Lib.hid hcl
      have hnx : n ≤ X.length + 1 := by omega
      have hnx' : (n : Int) ≤ (X.length : Int) + 1 := by omega
      have HKM := Lib.hid hkM
      clear hL hXv hq hbw hblk hdiv hv hlt htk hyp hql hcl hkM hXl
      go_wp2_with fail
      refine HL.out.mono ?_
      rintro e w3 ⟨rfl, ⟨zs, hzl, hzd, hz, hblk3⟩, hown3⟩
      have hXl : ((cs.drop 0).take n).length = n := by rw [List.length_take, List.length_drop, HCL.out]; omega
      rw [hXl] at hzl
      rw [HXV.out] at hz
      obtain ⟨e1, e2⟩ := HEND.out _ hz
      have hq3 : Blk w3 w2.heap.size qs := HQ.out.of_heap (hown3.block _ HQ.out.lt (by intro e; injection e with e; omega))
      have hcut1 := cut_any w3 _ M qs (hq3.num hqd) (by rw [HQL.out]; omega) (by rw [HQL.out]; omega)
      rw [HQL.out, e1] at hcut1
      have hnum : Num w3 (some ⟨w.heap.size, 0, none⟩) zs := by
        have h := (hblk3.num (hcs.mid hzd 0)).take zs.length
        rwa [mid_take] at h
      have hcut2 := cut_at w3 _ (X.length + 1) zs hnum (by omega) (by omega)
      rw [hzl, e2] at hcut2
      have HC1 := Lib.hid hcut1
      have HC2 := Lib.hid hcut2
      have HFIN : Hid (Below w.heap.size w w3 ∧ Blk w3 w.heap.size (mid cs 0 zs) ∧ Digs (mid cs 0 zs) ∧ (mid cs 0 zs).length = X.length + 1 ∧ (dig (val X % val Y)).length ≤ n ∧ (mid cs 0 zs).take (dig (val X % val Y)).length = dig (val X % val Y)) := by
        have hl : (dig (val X % val Y)).length ≤ n := by rw [← e2, ← hzl]; exact dig_length_val hzd
        refine ⟨HBW.out.grown hown3 HBW.out.size (by intro i hi; injection hi with hi; omega), hblk3, hcs.mid hzd 0, by rw [mid_length (by rw [HCL.out]; omega), HCL.out]; omega, hl, ?_⟩
        have h := dig_take_self hzd
        rw [e2] at h
        have h2 : (mid cs 0 zs).take (dig (val X % val Y)).length = zs.take (dig (val X % val Y)).length := by
          have h3 : ((mid cs 0 zs).take zs.length).take (dig (val X % val Y)).length = zs.take (dig (val X % val Y)).length := by rw [mid_take]
          rwa [List.take_take, Nat.min_eq_left (by omega)] at h3
        rw [h2]
        exact h.symm
      clear hcut1 hcut2 hnum hq3 hz hblk3 hown3 hzl hXl e1 e2
      go_wp2_with fail
      refine HC1.out.mono ?_
      rintro e w4 ⟨A1, c1, rfl, hc1, ha1, rfl⟩
      go_wp2_with fail
      refine HC2.out.mono ?_
      rintro e w4 ⟨A2, c2, rfl, hc2, ha2, rfl, hc2'⟩
      have HA1 := Lib.hid ha1
      have HA2 := Lib.hid ha2
      have HC2' := Lib.hid hc2'
      clear ha1 ha2 hc2'
      go_wp2
      go_ret2
      obtain ⟨f1, f2, f3, f4, f5, f6⟩ := HFIN.out
      refine ⟨A1, c1, A2, c2, w.heap.size, _, rfl, hc1, hc2, HA1.out, HA2.out, f1, Nat.le_refl _, f2, f3, by omega, f6, fun hp => ?_⟩
      obtain ⟨g1, g2⟩ := HC2'.out hp
      exact ⟨g1, by omega⟩
end Go.Proofs.YtmbnlhedbedcdaaGreatDoor

/- DivMod. -/
namespace Go.Proofs.YtmbnlhedbedcdaaGreatDoor
open Go.RowKit

def RetDM (w : World) (q r : Nat) (e : Ending) (w' : World) : Prop :=
  ∃ A c B d, e = .returned (.tuple #[.slice A (dig q).length c, .slice B (dig r).length d]) ∧ (dig q).length ≤ c ∧ (dig r).length ≤ d ∧ Num w' A (dig q) ∧ Num w' B (dig r) ∧ Below w.heap.size w w'
theorem RetQR.dm {w : World} {q r : Nat} {e : Ending} {w' : World} (h : RetQR w q r e w') : RetDM w q r e w' := by
  obtain ⟨A, c, B, d, g, zs, h1, h2, h3, h4, h5, h6, _⟩ := h
  exact ⟨A, c, B, d, h1, h2, h3, h4, h5, h6⟩

theorem Blk.lit (w : World) (xs : List Nat) : Blk (w.alloc (.cells (xs.map dcell).toArray 36)) w.heap.size xs := heap_alloc_new w _
theorem Blk.lit1 (w : World) (x : Nat) : Blk (w.alloc (.cells #[.int .u64 (x : Int)] 36)) w.heap.size [x] := Blk.lit w [x]

/-- What DivMod tells of a and b. -/
def dmq (a b : Nat) : Nat := a / b
def dmr (a b : Nat) : Nat := if b = 0 then 0 else a % b

set_option maxHeartbeats 2000000 in
theorem divmod_any (w : World) (A B : Option Addr) (c d : Nat) (xs ys : List Nat) (ha : Num w A xs) (hb : Num w B ys) (hn : xs.length ≤ 8589934592) (hm : ys.length ≤ 8589934592)
    (hc : xs.length ≤ c) (hd : ys.length ≤ d) :
    Calls Tryz.prog 69 #[.slice A xs.length c, .slice B ys.length d] w (RetDM w (dmq (val xs) (val ys)) (dmr (val xs) (val ys))) := by
  have C1 := Lib.hid (cut_any w A c xs ha (by omega) hc)
  have C2 := Lib.hid (cut_any w B d ys hb (by omega) hd)
  have hl1 := dig_length_val ha.1
  have hl2 := dig_length_val hb.1
  clear ha hb
  generalize val xs = a at *
  generalize val ys = b at *
  by_cases hb0 : b = 0
  · have hq : Hid (dmq a b = 0 ∧ dmr a b = 0) := by subst hb0; exact ⟨Nat.div_zero a, rfl⟩
    have hbl : (((dig b).length : Int) == 0) = true := by rw [hb0, dig_zero]; rfl
    clear hb0
    go_enter Tryz.func69, Tryz.ntmps69
    go_wp2_with fail
    refine C1.out.mono ?_
    rintro e w' ⟨A', c', rfl, hc', ha', rfl⟩
    go_wp2_with fail
    refine C2.out.mono ?_
    rintro e w' ⟨B', d', rfl, hd', hb', rfl⟩
    clear ha' hb' C1 C2
    go_wp2_with fail
    go_ret2
    obtain ⟨e1, e2⟩ := hq.out
    rw [e1, e2]
    exact ⟨none, 0, none, 0, by rw [dig_zero]; rfl, by rw [dig_zero]; simp, by rw [dig_zero]; simp, by rw [dig_zero]; exact Num.nil _ _, by rw [dig_zero]; exact Num.nil _ _, Below.refl _ _⟩
  · have hdr : dmr a b = a % b := by unfold dmr; rw [if_neg hb0]
    have hlb0 : (dig b).length ≠ 0 := fun h => hb0 (dig_nil_iff.1 h)
    have hbl : (((dig b).length : Int) == 0) = false := by rw [beq_eq_false_iff_ne]; omega
    rcases Nat.lt_or_ge a b with hab | hab
    · have hq : Hid (dmq a b = 0 ∧ dmr a b = a) := ⟨Nat.div_eq_of_lt hab, by rw [hdr, Nat.mod_eq_of_lt hab]⟩
      have HCM : Hid (cmpv a b = -1) := cmpv_lt hab
      clear hdr hab
      go_enter Tryz.func69, Tryz.ntmps69
      go_wp2_with fail
      refine C1.out.mono ?_
      rintro e w' ⟨A', c', rfl, hc', ha', rfl⟩
      go_wp2_with fail
      refine C2.out.mono ?_
      rintro e w' ⟨B', d', rfl, hd', hb', rfl⟩
      have HCMP := cmp_any w A' B' c' d' (dig a) (dig b) ha' hb' (by omega) (by omega) hc' hd'
      rw [val_dig, val_dig, HCM.out] at HCMP
      have HC := Lib.hid HCMP
      have HA := Lib.hid ha'
      clear ha' hb' C1 C2 HCMP
      go_wp2_with fail
      refine HC.out.mono ?_
      rintro e w' ⟨rfl, q, rfl⟩
      have HT := trim_any (w.drewN q) A' c' (dig a) (HA.out.drewN q) (by omega) hc'
      rw [val_dig] at HT
      have HTT := Lib.hid HT
      clear HT
      go_wp2_with fail
      refine HTT.out.mono ?_
      rintro e w2 ⟨A2, c2, rfl, hc2, ha2, hb2⟩
      have HA2 := Lib.hid ha2
      have HB2 : Hid (Below w.heap.size w w2) := (below_drewN (Below.refl _ _) q).trans hb2
      clear ha2 hb2
      go_wp2_with fail
      go_ret2
      obtain ⟨e1, e2⟩ := hq.out
      rw [e1, e2]
      exact ⟨none, 0, A2, c2, by rw [dig_zero]; rfl, by rw [dig_zero]; simp, hc2, by rw [dig_zero]; exact Num.nil _ _, HA2.out, HB2.out⟩
    · have hz : ∃ z : Int, cmpv a b = z ∧ ¬ z < 0 := by
        rcases Nat.lt_or_ge b a with h | h
        · exact ⟨1, cmpv_gt h, by omega⟩
        · exact ⟨0, cmpv_eq (by omega), by omega⟩
      obtain ⟨z, hz1, hz2⟩ := hz
      have HCM := Lib.hid hz1
      have HDR : Hid (dmr a b = a % b) := hdr
      have hlab := dig_length_mono hab
      have hbpos : 0 < b := by omega
      clear hz1 hdr hab
      by_cases hone : (dig b).length = 1
      · have hone' : (((dig b).length : Int) == 1) = true := by rw [hone]; rfl
        have HONE := Lib.hid hone
        have hlt0 : (0 : Int) < ((dig b).length : Int) := by omega
        have hmk := run_make_u64 (dig a).length (by omega)
        have HBV : Hid (b = dg (dig b) 0) := by
          have h := val_take_dg (dig b) 0
          rw [List.take_of_length_le (by omega), val_dig, List.take_zero, val_nil, Nat.pow_zero, Nat.one_mul, Nat.zero_add] at h
          exact h
        clear hone
        go_enter Tryz.func69, Tryz.ntmps69
        go_wp2_with fail
        refine C1.out.mono ?_
        rintro e w' ⟨A', c', rfl, hc', ha', rfl⟩
        go_wp2_with fail
        refine C2.out.mono ?_
        rintro e w' ⟨B', d', rfl, hd', hb', rfl⟩
        have HCMP := cmp_any w A' B' c' d' (dig a) (dig b) ha' hb' (by omega) (by omega) hc' hd'
        rw [val_dig, val_dig, HCM.out] at HCMP
        have HC := Lib.hid HCMP
        have HA := Lib.hid ha'
        obtain ⟨b1, o1, rfl, hb1, hcell⟩ := hb'.at_ (by omega)
        have hx := hcell 0 (by omega)
        rw [← HBV.out, Nat.add_zero] at hx
        have hb64 : b < B64 := by
          have := dg_lt (dig_digs b) 0
          rwa [← HBV.out] at this
        have HB64 := Lib.hid hb64
        clear ha' hb' C1 C2 HCMP hcell hb64
        go_wp2_with fail
        refine HC.out.mono ?_
        rintro e w' ⟨rfl, q, rfl⟩
        have hx2 : ((w.drewN q).alloc (.cells (madeCells #[.int .u64 0] (dig a).length) 36)).cell? ⟨b1, o1, none⟩ = some (.int .u64 (b : Int)) := (World.cell?_alloc_lt (w.drewN q) _ _ hb1).trans hx
        go_wp2_with fail
        have hD := divd_any ((w.drewN q).alloc (.cells (madeCells #[.int .u64 0] (dig a).length) 36)) w.heap.size (dig a).length c' b (dig a) A' (Blk.made (w.drewN q) _) ((HA.out.drewN q).alloc _) (HA.out.ne (Nat.le_refl _)) hbpos HB64.out (by omega)
        have HD := Lib.hid hD
        clear hD
        refine HD.out.mono ?_
        rintro e w2 ⟨he, ⟨qs, hql, hqd, hqv, hblk⟩, hown⟩
        rw [val_dig] at hqv he
        obtain ⟨r, hr⟩ : ∃ r, r = a % b := ⟨_, rfl⟩
        rw [← hr] at he
        subst he
        have HR := Lib.hid hr
        have hrb : r < b := by rw [hr]; exact Nat.mod_lt _ hbpos
        clear hr
        have hB2 : Below w.heap.size w w2 := ((below_drewN (Below.refl _ _) q).alloc (Nat.le_refl _) _).grown hown (by simp [World.drewN]) (by intro k hk; injection hk with hk; exact Nat.le_of_eq hk)
        have hcut := cut_any w2 _ (dig a).length qs (hblk.num hqd) (by omega) (by omega)
        rw [hql, hqv] at hcut
        have HCUT := Lib.hid hcut
        have HB2 := Lib.hid hB2
        clear hcut hblk hown hB2 hqv hql
        go_wp2_with fail
        refine HCUT.out.mono ?_
        rintro e w3 ⟨A2, c2, rfl, hc2, ha2, rfl⟩
        have HA2 := Lib.hid ha2
        clear ha2 HCUT
        go_wp2_with fail
        have hlit := Blk.lit1 w2 r
        have hcut := cut_any _ _ 1 [r] (hlit.num (Digs.cons (Nat.lt_trans hrb HB64.out) Digs.nil)) (by simp) (by simp)
        rw [val_cons, val_nil, Nat.mul_zero, Nat.add_zero, List.length_singleton] at hcut
        have HCUT := Lib.hid hcut
        clear hcut hlit
        refine HCUT.out.mono ?_
        rintro e w3 ⟨A3, c3, rfl, hc3, ha3, rfl⟩
        have HA3 := Lib.hid ha3
        clear ha3 HCUT
        go_wp2_with fail
        go_ret2
        rw [HDR.out, ← HR.out]
        exact ⟨A2, c2, A3, c3, rfl, hc2, hc3, HA2.out.alloc _, HA3.out, HB2.out.alloc HB2.out.size _⟩
      · have hone' : (((dig b).length : Int) == 1) = false := by rw [beq_eq_false_iff_ne]; omega
        have htop : dg (dig b) ((dig b).length - 1) ≠ 0 := by
          intro h
          have h1 := dig_top b
          rw [List.getLast?_eq_getElem?, List.getElem?_eq_getElem (by omega)] at h1
          rw [dg_of_lt (by omega)] at h
          exact h1 (by rw [h])
        have hbl64 := blen_digit (dg_lt (dig_digs b) ((dig b).length - 1))
        obtain ⟨s, hs⟩ : ∃ s, s + blen (dg (dig b) ((dig b).length - 1)) = 64 := ⟨64 - blen (dg (dig b) ((dig b).length - 1)), by omega⟩
        have HTOP := Lib.hid htop
        have HS := Lib.hid hs
        clear htop hs hbl64
        go_enter Tryz.func69, Tryz.ntmps69
        go_wp2_with fail
        refine C1.out.mono ?_
        rintro e w' ⟨A', c', rfl, hc', ha', rfl⟩
        go_wp2_with fail
        refine C2.out.mono ?_
        rintro e w' ⟨B', d', rfl, hd', hb', rfl⟩
        have HCMP := cmp_any w A' B' c' d' (dig a) (dig b) ha' hb' (by omega) (by omega) hc' hd'
        rw [val_dig, val_dig, HCM.out] at HCMP
        have HC := Lib.hid HCMP
        have hL : ∀ q, Calls Tryz.prog 95 #[.slice A' (dig a).length c', .slice B' (dig b).length d'] (w.drewN q) (RetQR (w.drewN q) (a / b) (a % b)) := by
          intro q
          have h := long_any (w.drewN q) A' B' c' d' (dig b).length s ((dig a).length - (dig b).length + 1) (dig a) (dig b) (ha'.drewN q) (hb'.drewN q) (by omega) rfl (by omega) hlab HS.out HTOP.out (by omega)
          rw [val_dig, val_dig] at h
          exact h
        have HL := Lib.hid hL
        clear ha' hb' C1 C2 HCMP hL
        go_wp2_with fail
        refine HC.out.mono ?_
        rintro e w' ⟨rfl, q, rfl⟩
        go_wp2_with fail
        refine (HL.out q).mono ?_
        rintro e w2 h2
        obtain ⟨A2, c2, A3, c3, rfl, hc2, hc3, ha2, ha3, hb2⟩ := h2.dm
        have HA2 := Lib.hid ha2
        have HA3 := Lib.hid ha3
        have HB2 : Hid (Below w.heap.size w w2) := (below_drewN (Below.refl _ _) q).trans hb2
        clear ha2 ha3 hb2 h2
        go_wp2_with fail
        go_ret2
        rw [HDR.out]
        exact ⟨A2, c2, A3, c3, rfl, hc2, hc3, HA2.out, HA3.out, HB2.out⟩
end Go.Proofs.YtmbnlhedbedcdaaGreatDoor
