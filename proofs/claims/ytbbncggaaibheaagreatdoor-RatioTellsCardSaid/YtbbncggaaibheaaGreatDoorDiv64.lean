/- math/bits.Div64: a quotient of two digits by one. -/
import Derived.Test.YtbbncggaaibheaaGreatDoorLower
import Derived.Deep.DeepCutAuto
import Derived.Deep.LoopGhost
import Derived.Deep.CutBlock
namespace Go.Proofs.YtbbncggaaibheaaGreatDoor
open Go.RowKit

/-- One half of the division: U32, u1 by Y of two halves yn1, yn0, the top bit set. -/
structure Half (Y yn1 yn0 U32 u1 : Nat) : Prop where
  y : Y = yn1 * 4294967296 + yn0
  h0 : yn0 < 4294967296
  h1 : 2147483648 ≤ yn1
  h2 : yn1 < 4294967296
  u : U32 < Y
  u1 : u1 < 4294967296
structure HalfRel (Y yn1 yn0 U32 u1 q r : Nat) : Prop where
  e : q * yn1 + r = U32
  ge : (U32 * 4294967296 + u1) / Y ≤ q
  le : q ≤ 4294967297
  r : r < 4294967296

section
variable {Y yn1 yn0 U32 u1 q r : Nat}
theorem Half.pos (h : Half Y yn1 yn0 U32 u1) : 0 < Y := by have := h.y; have := h.h1; omega
theorem Half.lt (h : Half Y yn1 yn0 U32 u1) : (U32 * 4294967296 + u1) / Y < 4294967296 := by
  refine Nat.div_lt_of_lt_mul ?_
  have h1 := h.u
  have h2 := h.u1
  omega
theorem half_start (h : Half Y yn1 yn0 U32 u1) : HalfRel Y yn1 yn0 U32 u1 (U32 / yn1) (U32 % yn1) := by
  have h1 := h.h1
  have h2 := h.h2
  have hm := Nat.mod_lt U32 (show yn1 > 0 by omega)
  refine ⟨Nat.div_add_mod' _ _, ?_, ?_, by omega⟩
  · rw [Nat.le_div_iff_mul_le (by omega)]
    have h3 := Nat.div_mul_le_self (U32 * 4294967296 + u1) Y
    generalize (U32 * 4294967296 + u1) / Y = Q at *
    have h4 : Q * Y = Q * yn1 * 4294967296 + Q * yn0 := by rw [h.y, Nat.mul_add, Nat.mul_assoc]
    have := h.u1
    omega
  · have h3 : U32 / yn1 < 4294967298 := by
      refine Nat.div_lt_of_lt_mul ?_
      have := h.u
      have := h.y
      have := h.h0
      omega
    omega
theorem half_next (h : Half Y yn1 yn0 U32 u1) (k : HalfRel Y yn1 yn0 U32 u1 q r) (hq : (U32 * 4294967296 + u1) / Y < q) :
    1 ≤ q ∧ r + yn1 < 8589934592 ∧ (r + yn1 < 4294967296 → HalfRel Y yn1 yn0 U32 u1 (q - 1) (r + yn1)) ∧ (4294967296 ≤ r + yn1 → q - 1 = (U32 * 4294967296 + u1) / Y) := by
  have e1 := k.e
  have h2 := h.h2
  have hr := k.r
  have hq1 : 1 ≤ q := Nat.lt_of_le_of_lt (Nat.zero_le _) hq
  have hq2 : (U32 * 4294967296 + u1) / Y ≤ q - 1 := Nat.le_sub_one_of_lt hq
  have e2 : (q - 1) * yn1 + (r + yn1) = U32 := by
    have : q * yn1 = (q - 1) * yn1 + yn1 := by rw [← Nat.succ_mul]; congr 1; omega
    omega
  refine ⟨hq1, by omega, fun hlt => ⟨e2, hq2, by have := k.le; omega, hlt⟩, fun hge => ?_⟩
  refine Nat.le_antisymm ?_ hq2
  rw [Nat.le_div_iff_mul_le h.pos, h.y, Nat.mul_add, ← Nat.mul_assoc]
  have h3 : (q - 1) * yn0 ≤ 4294967296 * 4294967295 := Nat.mul_le_mul (by have := k.le; omega) (by have := h.h0; omega)
  omega
theorem half_big (h : Half Y yn1 yn0 U32 u1) (hq : 4294967296 ≤ q) : (U32 * 4294967296 + u1) / Y < q := Nat.lt_of_lt_of_le h.lt hq
theorem half_gt (h : Half Y yn1 yn0 U32 u1) (k : HalfRel Y yn1 yn0 U32 u1 q r) (hq : 4294967296 * r + u1 < q * yn0) : (U32 * 4294967296 + u1) / Y < q := by
  refine (Nat.div_lt_iff_lt_mul h.pos).2 ?_
  have h4 : q * Y = q * yn1 * 4294967296 + q * yn0 := by rw [h.y, Nat.mul_add, Nat.mul_assoc]
  have := k.e
  omega
theorem half_done (h : Half Y yn1 yn0 U32 u1) (k : HalfRel Y yn1 yn0 U32 u1 q r) (hq : q * yn0 ≤ 4294967296 * r + u1) : q = (U32 * 4294967296 + u1) / Y := by
  refine Nat.le_antisymm ?_ k.ge
  rw [Nat.le_div_iff_mul_le h.pos]
  have h4 : q * Y = q * yn1 * 4294967296 + q * yn0 := by rw [h.y, Nat.mul_add, Nat.mul_assoc]
  have := k.e
  omega
end

/-- The whole division out of its halves. -/
theorem halves {y s hiw low Y N U32 un1 un0 q1 U21 q0 : Nat} (hY : Y = y * 2 ^ s) (hN : N = (hiw * B64 + low) * 2 ^ s) (hU : N = (U32 * 4294967296 + un1) * 4294967296 + un0)
    (hy : 0 < y) (hq1 : q1 = (U32 * 4294967296 + un1) / Y) (hU21 : U21 = (U32 * 4294967296 + un1) % Y) (hq0 : q0 = (U21 * 4294967296 + un0) / Y) :
    q1 * 4294967296 + q0 = (hiw * B64 + low) / y ∧ ((U21 * 4294967296 + un0) % Y) / 2 ^ s = (hiw * B64 + low) % y := by
  have hp : 0 < 2 ^ s := Nat.pow_pos (by omega)
  have hYp : 0 < Y := by rw [hY]; exact Nat.mul_pos hy hp
  have e1 : (hiw * B64 + low) / y = N / Y := by rw [hN, hY, Nat.mul_div_mul_right _ _ hp]
  have e2 : (hiw * B64 + low) % y = N % Y / 2 ^ s := by rw [hN, hY, Nat.mul_mod_mul_right, Nat.mul_div_cancel _ hp]
  have h3 := Nat.div_add_mod (U32 * 4294967296 + un1) Y
  have h4 := Nat.div_add_mod (U21 * 4294967296 + un0) Y
  rw [← hq1, ← hU21] at h3
  rw [← hq0] at h4
  have h5 : N = Y * (q1 * 4294967296 + q0) + (U21 * 4294967296 + un0) % Y := by
    have e : Y * (q1 * 4294967296 + q0) = Y * q1 * 4294967296 + Y * q0 := by rw [Nat.mul_add, Nat.mul_assoc]
    rw [e, hU]
    omega
  have h6 : (U21 * 4294967296 + un0) % Y < Y := Nat.mod_lt _ hYp
  rw [e1, e2]
  clear hU h3 h4 hN hq1 hU21 hq0 e1 e2
  generalize (U21 * 4294967296 + un0) % Y = R at h5 h6 ⊢
  generalize q1 * 4294967296 + q0 = Q at h5 ⊢
  subst h5
  refine ⟨?_, ?_⟩
  · rw [Nat.mul_add_div hYp, Nat.div_eq_of_lt h6, Nat.add_zero]
  · rw [Nat.mul_add_mod, Nat.mod_eq_of_lt h6]
/-- Two digits by one: what is told, quietly. -/
def RetDiv (w : World) (q r : Nat) (e : Ending) (w' : World) : Prop := e = .returned (.tuple #[.int .u64 ((q : Nat) : Int), .int .u64 ((r : Nat) : Int)]) ∧ ∃ k, w' = w.drewN k

set_option maxHeartbeats 1000000 in
theorem div64_zero (low y : Nat) (hl : low < B64) (hy : 0 < y) (w : World) :
    Calls Tryz.prog 190 #[.int .u64 0, .int .u64 low, .int .u64 y] w (RetDiv w (low / y) (low % y)) := by
  have hy0 : ((y : Int) == 0) = false := by rw [beq_eq_false_iff_ne]; omega
  have hy1 : ¬ ((y : Int) ≤ 0) := by omega
  have hy2 : 1 ≤ (y : Int) := by omega
  have hq : IntKind.u64.wrap ((low : Int) / (y : Int)) = (low : Int) / (y : Int) := u64_small (n := low / y) (Nat.lt_of_le_of_lt (Nat.div_le_self _ _) hl)
  clear hl
  go_enter Tryz.func190, Tryz.ntmps190
  go_wp2_with fail
  go_quiet (fail)
  go_wp2
  go_ret2
  exact ⟨rfl, _, rfl⟩

theorem u64_sub {a b n : Nat} (h : b + n = a) (ha : a < B64) : IntKind.u64.wrap ((a : Int) - (b : Int)) = ((n : Nat) : Int) := by
  have : (a : Int) - (b : Int) = ((n : Nat) : Int) := by omega
  rw [this]
  exact u64_small (by omega)
theorem u64_mul {a b : Nat} (h : a * b < B64) : IntKind.u64.wrap ((a : Int) * (b : Int)) = (a : Int) * (b : Int) := by
  have := u64_small h
  rwa [Int.natCast_mul] at this
theorem u64_add' {a b : Nat} (h : a + b < B64) : IntKind.u64.wrap ((a : Int) + (b : Int)) = (a : Int) + (b : Int) := by
  have := u64_small h
  rwa [Int.natCast_add] at this

set_option maxHeartbeats 4000000 in
theorem div64_core (x low y s Y yn1 yn0 UU u10 u1 un0 qi ri QQ : Nat) (hx0 : 0 < x) (hx : x < y) (hsb : (64 : Int) - ((blen y : Nat) : Int) = (s : Int)) (hs : s ≤ 63) (hy : y < B64)
    (eY : IntKind.u64.wrap ((y : Int) * 2 ^ s) = (Y : Int)) (eyn1 : (Y : Int) / 4294967296 = (yn1 : Int)) (eyn0 : bits BinOp.and IntKind.u64 (Y : Int) 4294967295 = (yn0 : Int))
    (eU : bits BinOp.or IntKind.u64 (IntKind.u64.wrap ((x : Int) * 2 ^ s)) ((low : Int) / 2 ^ (64 - s)) = (UU : Int)) (eu10 : IntKind.u64.wrap ((low : Int) * 2 ^ s) = (u10 : Int))
    (eun1 : (u10 : Int) / 4294967296 = (u1 : Int)) (eun0 : bits BinOp.and IntKind.u64 (u10 : Int) 4294967295 = (un0 : Int)) (hh : Half Y yn1 yn0 UU u1)
    (eq : IntKind.u64.wrap ((UU : Int) / (yn1 : Int)) = (qi : Int)) (eqm : IntKind.u64.wrap ((qi : Int) * (yn1 : Int)) = (qi : Int) * (yn1 : Int)) (eri : IntKind.u64.wrap ((UU : Int) - (qi : Int) * (yn1 : Int)) = (ri : Int))
    (hrel : HalfRel Y yn1 yn0 UU u1 qi ri) (hQQ : QQ = (UU * 4294967296 + u1) / Y)
    (V qj rj Q0 : Nat) (eV : IntKind.u64.wrap (IntKind.u64.wrap (IntKind.u64.wrap ((UU : Int) * 4294967296) + (u1 : Int)) - IntKind.u64.wrap ((QQ : Int) * (Y : Int))) = (V : Int)) (hh2 : Half Y yn1 yn0 V un0)
    (eq2 : IntKind.u64.wrap ((V : Int) / (yn1 : Int)) = (qj : Int)) (eqm2 : IntKind.u64.wrap ((qj : Int) * (yn1 : Int)) = (qj : Int) * (yn1 : Int)) (eri2 : IntKind.u64.wrap ((V : Int) - (qj : Int) * (yn1 : Int)) = (rj : Int))
    (hrel2 : HalfRel Y yn1 yn0 V un0 qj rj) (hQ0 : Q0 = (V * 4294967296 + un0) / Y)
    (eQ : IntKind.u64.wrap (IntKind.u64.wrap ((QQ : Int) * 4294967296) + (Q0 : Int)) = (((x * B64 + low) / y : Nat) : Int))
    (eR : IntKind.u64.wrap (IntKind.u64.wrap (IntKind.u64.wrap ((V : Int) * 4294967296) + (un0 : Int)) - IntKind.u64.wrap ((Q0 : Int) * (Y : Int))) / 2 ^ s = (((x * B64 + low) % y : Nat) : Int)) (w : World) :
    Calls Tryz.prog 190 #[.int .u64 x, .int .u64 low, .int .u64 y] w (RetDiv w ((x * B64 + low) / y) ((x * B64 + low) % y)) := by
  have hy0 : ((y : Int) == 0) = false := by rw [beq_eq_false_iff_ne]; omega
  have hx1 : ((x : Int) == 0) = false := by rw [beq_eq_false_iff_ne]; omega
  have hy1 : ¬ ((y : Int) ≤ (x : Int)) := by omega
  have hyn : ¬ ((yn1 : Int) = 0) := by have := hh.h1; omega
  have hyn' : 1 ≤ (yn1 : Int) := by have := hh.h1; omega
  have HLZ := Lib.hid (lz64_any y hy w)
  rw [hsb] at HLZ
  have HH := Lib.hid hh
  have HREL := Lib.hid hrel
  have HQQ := Lib.hid hQQ
  have HH2 := Lib.hid hh2
  have HREL2 := Lib.hid hrel2
  have HQ0 := Lib.hid hQ0
  have EQ := Lib.hid eQ
  have ER := Lib.hid eR
  clear hsb hh hrel hQQ hh2 hrel2 hQ0 eQ eR
  go_enter Tryz.func190, Tryz.ntmps190
  go_wp2_with fail
  refine HLZ.out.mono ?_
  rintro e w' ⟨rfl, rfl⟩
  go_upto_block 0 with fail
  go_cut [15, 16] (fun tq tr wx => w = wx ∧ tq = .int .u64 (QQ : Int) ∧ ∃ r0 : Nat, tr = .int .u64 (r0 : Int))
  case first =>
    go_wp2_with fail
    go_loop [15, 16] (fun tq tr => ∃ q r : Nat, tq = .int .u64 (q : Int) ∧ tr = .int .u64 (r : Int) ∧ Hid (HalfRel Y yn1 yn0 UU u1 q r)) (fun tq _ => (intOf tq).toNat)
    case atStart => exact ⟨qi, ri, rfl, rfl, HREL.out⟩
    case round =>
      obtain ⟨q, r, rfl, rfl, hk⟩ := hrel
      have hr := hk.out.r
      have hqle := hk.out.le
      have hyn2 := HH.out.h2
      have hyn0 := HH.out.h0
      have hu1 := HH.out.u1
      by_cases hbig : 4294967296 ≤ q ∨ 4294967296 * r + u1 < q * yn0
      · have hlt : (UU * 4294967296 + u1) / Y < q := by
          rcases hbig with h | h
          · exact half_big HH.out h
          · exact half_gt HH.out hk.out h
        obtain ⟨n1, n2, n3, n4⟩ := half_next HH.out hk.out hlt
        have N3 := Lib.hid n3
        have N4 := Lib.hid n4
        have eq1 : IntKind.u64.wrap ((q : Int) - 1) = ((q - 1 : Nat) : Int) := by
          have h := u64_small (n := q - 1) (by rw [B64_eq]; omega)
          rwa [show ((q - 1 : Nat) : Int) = (q : Int) - 1 by omega] at h ⊢
        have er1 : IntKind.u64.wrap ((r : Int) + (yn1 : Int)) = (r : Int) + (yn1 : Int) := u64_add' (by rw [B64_eq]; omega)
        clear n3 n4 hlt
        by_cases hq : 4294967296 ≤ q
        · have t1 : (4294967296 : Int) ≤ (q : Int) := by omega
          clear hbig
          by_cases hb : 4294967296 ≤ r + yn1
          · have t2 : (4294967296 : Int) ≤ (r : Int) + (yn1 : Int) := by omega
            have HQ := Lib.hid (N4.out hb)
            go_wp2_with fail
            go_meet
            refine ⟨rfl, ?_, r + yn1, by go_num⟩
            rw [HQ.out, ← HQQ.out]
          · have t2 : ¬ (4294967296 : Int) ≤ (r : Int) + (yn1 : Int) := by omega
            have HQ := Lib.hid (N3.out (by omega))
            go_wp2_with fail
            go_round
            case rel => exact ⟨q - 1, r + yn1, rfl, by go_num, HQ.out⟩
            case measure => simp [intOf]; omega
        · have t1 : ¬ (4294967296 : Int) ≤ (q : Int) := by omega
          have hg : 4294967296 * r + u1 < q * yn0 := by
            rcases hbig with h | h
            · omega
            · exact h
          have em1 : IntKind.u64.wrap ((q : Int) * (yn0 : Int)) = (q : Int) * (yn0 : Int) := u64_mul (by
            have h1 : q * yn0 ≤ 4294967295 * 4294967295 := Nat.mul_le_mul (by omega) (by omega)
            rw [B64_eq]; omega)
          have em2 : IntKind.u64.wrap (4294967296 * (r : Int)) = 4294967296 * (r : Int) := u64_mul (a := 4294967296) (by rw [B64_eq]; omega)
          have em3 : IntKind.u64.wrap (4294967296 * (r : Int) + (u1 : Int)) = 4294967296 * (r : Int) + (u1 : Int) := u64_add' (a := 4294967296 * r) (by rw [B64_eq]; omega)
          have t3 : 4294967296 * (r : Int) + (u1 : Int) < (q : Int) * (yn0 : Int) := by
            rw [← Int.natCast_mul]; omega
          clear hbig hg
          by_cases hb : 4294967296 ≤ r + yn1
          · have t2 : (4294967296 : Int) ≤ (r : Int) + (yn1 : Int) := by omega
            have HQ := Lib.hid (N4.out hb)
            go_wp2_with fail
            go_meet
            refine ⟨rfl, ?_, r + yn1, by go_num⟩
            rw [HQ.out, ← HQQ.out]
          · have t2 : ¬ (4294967296 : Int) ≤ (r : Int) + (yn1 : Int) := by omega
            have HQ := Lib.hid (N3.out (by omega))
            go_wp2_with fail
            go_round
            case rel => exact ⟨q - 1, r + yn1, rfl, by go_num, HQ.out⟩
            case measure => simp [intOf]; omega
      · have hq : ¬ 4294967296 ≤ q := fun h => hbig (.inl h)
        have hg : q * yn0 ≤ 4294967296 * r + u1 := Nat.le_of_not_lt fun h => hbig (.inr h)
        have HQ := Lib.hid (half_done HH.out hk.out hg)
        have t1 : ¬ (4294967296 : Int) ≤ (q : Int) := by omega
        have em1 : IntKind.u64.wrap ((q : Int) * (yn0 : Int)) = (q : Int) * (yn0 : Int) := u64_mul (by
          have h1 : q * yn0 ≤ 4294967295 * 4294967295 := Nat.mul_le_mul (by omega) (by omega)
          rw [B64_eq]; omega)
        have em2 : IntKind.u64.wrap (4294967296 * (r : Int)) = 4294967296 * (r : Int) := u64_mul (a := 4294967296) (by rw [B64_eq]; omega)
        have em3 : IntKind.u64.wrap (4294967296 * (r : Int) + (u1 : Int)) = 4294967296 * (r : Int) + (u1 : Int) := u64_add' (a := 4294967296 * r) (by rw [B64_eq]; omega)
        have t3 : ¬ 4294967296 * (r : Int) + (u1 : Int) < (q : Int) * (yn0 : Int) := by
          rw [← Int.natCast_mul]; omega
        clear hbig hg
        go_wp2_with fail
        go_meet
        refine ⟨rfl, ?_, r, rfl⟩
        rw [HQ.out, ← HQQ.out]
  case rest =>
    obtain ⟨rfl, rfl, r0, rfl⟩ := hcut
    go_upto_block 2 with fail
    go_cut [18, 16] (fun tq tr wx => w = wx ∧ tq = .int .u64 (Q0 : Int) ∧ ∃ r0 : Nat, tr = .int .u64 (r0 : Int))
    case first =>
      go_wp2_with fail
      go_loop [18, 16] (fun tq tr => ∃ q r : Nat, tq = .int .u64 (q : Int) ∧ tr = .int .u64 (r : Int) ∧ Hid (HalfRel Y yn1 yn0 V un0 q r)) (fun tq _ => (intOf tq).toNat)
      case atStart => exact ⟨qj, rj, rfl, rfl, HREL2.out⟩
      case round =>
        obtain ⟨q, r, rfl, rfl, hk⟩ := hrel
        have hr := hk.out.r
        have hqle := hk.out.le
        have hyn2 := HH2.out.h2
        have hyn0 := HH2.out.h0
        have hun0 := HH2.out.u1
        by_cases hbig : 4294967296 ≤ q ∨ 4294967296 * r + un0 < q * yn0
        · have hlt : (V * 4294967296 + un0) / Y < q := by
            rcases hbig with h | h
            · exact half_big HH2.out h
            · exact half_gt HH2.out hk.out h
          obtain ⟨n1, n2, n3, n4⟩ := half_next HH2.out hk.out hlt
          have N3 := Lib.hid n3
          have N4 := Lib.hid n4
          have eq1 : IntKind.u64.wrap ((q : Int) - 1) = ((q - 1 : Nat) : Int) := by
            have h := u64_small (n := q - 1) (by rw [B64_eq]; omega)
            rwa [show ((q - 1 : Nat) : Int) = (q : Int) - 1 by omega] at h ⊢
          have er1 : IntKind.u64.wrap ((r : Int) + (yn1 : Int)) = (r : Int) + (yn1 : Int) := u64_add' (by rw [B64_eq]; omega)
          clear n3 n4 hlt
          by_cases hq : 4294967296 ≤ q
          · have t1 : (4294967296 : Int) ≤ (q : Int) := by omega
            clear hbig
            by_cases hb : 4294967296 ≤ r + yn1
            · have t2 : (4294967296 : Int) ≤ (r : Int) + (yn1 : Int) := by omega
              have HQ := Lib.hid (N4.out hb)
              go_wp2_with fail
              go_meet
              refine ⟨rfl, ?_, r + yn1, by go_num⟩
              rw [HQ.out, ← HQ0.out]
            · have t2 : ¬ (4294967296 : Int) ≤ (r : Int) + (yn1 : Int) := by omega
              have HQ := Lib.hid (N3.out (by omega))
              go_wp2_with fail
              go_round
              case rel => exact ⟨q - 1, r + yn1, rfl, by go_num, HQ.out⟩
              case measure => simp [intOf]; omega
          · have t1 : ¬ (4294967296 : Int) ≤ (q : Int) := by omega
            have hg : 4294967296 * r + un0 < q * yn0 := by
              rcases hbig with h | h
              · omega
              · exact h
            have em1 : IntKind.u64.wrap ((q : Int) * (yn0 : Int)) = (q : Int) * (yn0 : Int) := u64_mul (by
              have h1 : q * yn0 ≤ 4294967295 * 4294967295 := Nat.mul_le_mul (by omega) (by omega)
              rw [B64_eq]; omega)
            have em2 : IntKind.u64.wrap (4294967296 * (r : Int)) = 4294967296 * (r : Int) := u64_mul (a := 4294967296) (by rw [B64_eq]; omega)
            have em3 : IntKind.u64.wrap (4294967296 * (r : Int) + (un0 : Int)) = 4294967296 * (r : Int) + (un0 : Int) := u64_add' (a := 4294967296 * r) (by rw [B64_eq]; omega)
            have t3 : 4294967296 * (r : Int) + (un0 : Int) < (q : Int) * (yn0 : Int) := by
              rw [← Int.natCast_mul]; omega
            clear hbig hg
            by_cases hb : 4294967296 ≤ r + yn1
            · have t2 : (4294967296 : Int) ≤ (r : Int) + (yn1 : Int) := by omega
              have HQ := Lib.hid (N4.out hb)
              go_wp2_with fail
              go_meet
              refine ⟨rfl, ?_, r + yn1, by go_num⟩
              rw [HQ.out, ← HQ0.out]
            · have t2 : ¬ (4294967296 : Int) ≤ (r : Int) + (yn1 : Int) := by omega
              have HQ := Lib.hid (N3.out (by omega))
              go_wp2_with fail
              go_round
              case rel => exact ⟨q - 1, r + yn1, rfl, by go_num, HQ.out⟩
              case measure => simp [intOf]; omega
        · have hq : ¬ 4294967296 ≤ q := fun h => hbig (.inl h)
          have hg : q * yn0 ≤ 4294967296 * r + un0 := Nat.le_of_not_lt fun h => hbig (.inr h)
          have HQ := Lib.hid (half_done HH2.out hk.out hg)
          have t1 : ¬ (4294967296 : Int) ≤ (q : Int) := by omega
          have em1 : IntKind.u64.wrap ((q : Int) * (yn0 : Int)) = (q : Int) * (yn0 : Int) := u64_mul (by
            have h1 : q * yn0 ≤ 4294967295 * 4294967295 := Nat.mul_le_mul (by omega) (by omega)
            rw [B64_eq]; omega)
          have em2 : IntKind.u64.wrap (4294967296 * (r : Int)) = 4294967296 * (r : Int) := u64_mul (a := 4294967296) (by rw [B64_eq]; omega)
          have em3 : IntKind.u64.wrap (4294967296 * (r : Int) + (un0 : Int)) = 4294967296 * (r : Int) + (un0 : Int) := u64_add' (a := 4294967296 * r) (by rw [B64_eq]; omega)
          have t3 : ¬ 4294967296 * (r : Int) + (un0 : Int) < (q : Int) * (yn0 : Int) := by
            rw [← Int.natCast_mul]; omega
          clear hbig hg
          go_wp2_with fail
          go_meet
          refine ⟨rfl, ?_, r, rfl⟩
          rw [HQ.out, ← HQ0.out]
    case rest =>
      obtain ⟨rfl, rfl, r1, rfl⟩ := hcut
      go_wp2_with fail
      go_ret2
      rw [EQ.out, ER.out]
      exact ⟨rfl, 0, rfl⟩
end Go.Proofs.YtbbncggaaibheaaGreatDoor