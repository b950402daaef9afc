/- The leading bits of two numbers; a mix turned round. -/
import Derived.Test.YtginajegbknfhaaLehmerMath
import Derived.BigRegion
namespace Go.Proofs.Ytginajegbknfhaa
open Go.RowKit

set_option maxHeartbeats 1000000 in
theorem turned_any (w : World) (t l : Nat) :
    Calls Try.prog 89 #[.agg #[.int .u64 (t : Int), .int .u64 (l : Int)]] w fun e w' => e = .returned (.agg #[.int .u64 (l : Int), .int .u64 (t : Int)]) ∧ Below w.heap.size w w' := by
  go_enter Try.func89, Try.ntmps89
  go_wp2
  refine bodyPost_ret (v := .agg #[.int .u64 (l : Int), .int .u64 (t : Int)]) (by simp [results, Try.results89, go_sem]) rfl ⟨rfl, ?_⟩
  exact ((Below.refl _ _).alloc (Nat.le_refl _) _).alloc (by simp) _

theorem quiet_left {P : Program} {f : FuncId} {args : Array Value} {w : World} {n : Nat} {v : Value}
    (h : Calls P f args (w.drewN n) fun e w' => e = .returned v ∧ w.drewN n = w') : Calls P f args (w.drewN n) fun e w'' => e = .returned v ∧ ∃ m, w'' = w.drewN m :=
  h.mono fun _ _ ⟨he, hm⟩ => ⟨he, n, hm.symm⟩

/-- The leading bits of a list of n digits, its top one raised by s. -/
def ld (X : List Nat) (n s : Nat) : Nat := lo (dg X (n - 1) * 2 ^ s) + hi (dg X (n - 2) * 2 ^ s)

theorem ld_near {X : List Nat} {n s : Nat} (hX : Digs X) (hl : X.length ≤ n) (h2 : 2 ≤ n) (hs : s ≤ 64) (ht : dg X (n - 1) * 2 ^ s < B64) :
    ld X n s * (B64 ^ (n - 2) * 2 ^ (64 - s)) ≤ val X ∧ val X < ld X n s * (B64 ^ (n - 2) * 2 ^ (64 - s)) + B64 ^ (n - 2) * 2 ^ (64 - s) := by
  have h1 := val_take_dg X (n - 1)
  have h3 := val_take_dg X (n - 2)
  rw [show n - 1 + 1 = n by omega, List.take_of_length_le hl] at h1
  rw [show n - 2 + 1 = n - 1 by omega] at h3
  have h4 := val_lt (hX.take (n - 2))
  have h5 : B64 ^ (X.take (n - 2)).length ≤ B64 ^ (n - 2) := Nat.pow_le_pow_right B64_pos (by rw [List.length_take]; omega)
  have hp : B64 ^ (n - 1) = B64 ^ (n - 2) * B64 := by rw [← Nat.pow_succ]; congr 1; omega
  rw [h3, hp] at h1
  have hlo : lo (dg X (n - 1) * 2 ^ s) = dg X (n - 1) * 2 ^ s := lo_of_lt ht
  have hlh := lo_hi (dg X (n - 2) * 2 ^ s)
  have hll := lo_lt (dg X (n - 2) * 2 ^ s)
  unfold ld
  rw [hlo]
  generalize val (X.take (n - 2)) = L at *
  generalize dg X (n - 1) = a at *
  generalize dg X (n - 2) = b at *
  generalize B64 ^ (n - 2) = P at *
  -- V = b + B64 a; V 2^s = B64 (a 2^s + hi (b 2^s)) + lo (b 2^s)
  have hsp := B64_split hs
  have hV : (b + B64 * a) * 2 ^ s = B64 * (a * 2 ^ s + hi (b * 2 ^ s)) + lo (b * 2 ^ s) := by
    rw [Nat.add_mul, Nat.mul_add, Nat.mul_assoc]
    omega
  generalize hx : a * 2 ^ s + hi (b * 2 ^ s) = x at *
  have hq : 0 < 2 ^ s := Nat.pow_pos (by omega)
  have k1 : x * 2 ^ (64 - s) ≤ b + B64 * a := by
    refine Nat.le_of_mul_le_mul_right (c := 2 ^ s) ?_ hq
    rw [Nat.mul_assoc, ← hsp, hV, Nat.mul_comm x]
    omega
  have k2 : b + B64 * a < x * 2 ^ (64 - s) + 2 ^ (64 - s) := by
    refine Nat.lt_of_mul_lt_mul_right (a := 2 ^ s) ?_
    have e5 : (x * 2 ^ (64 - s) + 2 ^ (64 - s)) * 2 ^ s = B64 * x + B64 := by rw [Nat.add_mul, Nat.mul_assoc, ← hsp, Nat.mul_comm x]
    rw [e5, hV]
    omega
  have e1 : val X = L + P * (b + B64 * a) := by rw [h1, Nat.mul_add, Nat.mul_assoc]; omega
  have e2 : x * (P * 2 ^ (64 - s)) = P * (x * 2 ^ (64 - s)) := Nat.mul_left_comm _ _ _
  have e3 : P * (x * 2 ^ (64 - s)) ≤ P * (b + B64 * a) := Nat.mul_le_mul_left _ k1
  have e4 : P * (b + B64 * a) + P ≤ P * (x * 2 ^ (64 - s) + 2 ^ (64 - s)) := by
    rw [← Nat.mul_succ]; exact Nat.mul_le_mul_left _ k2
  rw [Nat.mul_add P (x * 2 ^ (64 - s))] at e4
  rw [e1, e2]
  generalize P * (b + B64 * a) = v at *
  generalize P * (x * 2 ^ (64 - s)) = v' at *
  refine ⟨?_, ?_⟩ <;> omega

theorem ld_lead {X Y : List Nat} {n s : Nat} (hX : Digs X) (hY : Digs Y) (hxl : X.length = n) (hyl : Y.length ≤ n) (h2 : 2 ≤ n) (hs : s ≤ 63) (ht : dg X (n - 1) * 2 ^ s < B64) (hle : val Y ≤ val X) :
    Lead (val X) (val Y) (ld X n s) (ld Y n s) (B64 ^ (n - 2) * 2 ^ (64 - s)) := by
  have hty : dg Y (n - 1) ≤ dg X (n - 1) := by
    have h1 := val_take_dg X (n - 1)
    have h3 := val_take_dg Y (n - 1)
    rw [show n - 1 + 1 = n by omega, List.take_of_length_le (Nat.le_of_eq hxl)] at h1
    rw [show n - 1 + 1 = n by omega, List.take_of_length_le hyl] at h3
    have h4 := val_lt (hX.take (n - 1))
    have h5 : B64 ^ (X.take (n - 1)).length ≤ B64 ^ (n - 1) := Nat.pow_le_pow_right B64_pos (by rw [List.length_take]; omega)
    refine Nat.le_of_lt_succ (Nat.lt_of_mul_lt_mul_left (a := B64 ^ (n - 1)) ?_)
    rw [Nat.mul_succ]
    omega
  have hty2 : dg Y (n - 1) * 2 ^ s < B64 := Nat.lt_of_le_of_lt (Nat.mul_le_mul_right _ hty) ht
  obtain ⟨a1, a2⟩ := ld_near hX (Nat.le_of_eq hxl) h2 (by omega) ht
  obtain ⟨b1, b2⟩ := ld_near hY hyl h2 (by omega) hty2
  have hH : 0 < B64 ^ (n - 2) * 2 ^ (64 - s) := Nat.mul_pos (pow_pos' _) (Nat.pow_pos (by omega))
  refine ⟨a1, a2, b1, b2, hH, ?_, ?_, hle⟩
  · refine Nat.le_of_lt_succ (Nat.lt_of_mul_lt_mul_right (a := B64 ^ (n - 2) * 2 ^ (64 - s)) ?_)
    rw [Nat.succ_mul]
    omega
  · have h1 := raise_digit_lt hX (show s ≤ 64 by omega) (n - 1)
    rw [show rc X s (n - 1) = hi (dg X (n - 2) * 2 ^ s) by unfold rc; rw [if_neg (by omega)]; rfl] at h1
    exact h1

set_option maxHeartbeats 2000000 in
theorem at_any (w : World) (p pn ps n s c : Nat) (A : Option Addr) (X : List Nat) (hA : Num w A X) (hX : X.length ≤ 1099511627776) (hn : n ≤ 1099511627776) (h2 : 2 ≤ n) (hs : s ≤ 63)
    (hp : w.cell? ⟨p, 0, none⟩ = some (.slice A X.length c)) (hpn : w.cell? ⟨pn, 0, none⟩ = some (.int .i64 (n : Int))) (hps : w.cell? ⟨ps, 0, none⟩ = some (.int .u64 (s : Int))) :
    Calls Try.prog 96 #[.func (.func 84) #[] #[.pointer (some ⟨p, 0, none⟩)], .pointer (some ⟨pn, 0, none⟩), .pointer (some ⟨ps, 0, none⟩)] w
      fun e w' => e = .returned (.int .u64 ((ld X n s : Nat) : Int)) ∧ ∃ k, w' = w.drewN k := by
  have hs64 : s ≤ 64 := by omega
  have hw64 : IntKind.u64.wrap (64 - (s : Int)) = 64 - (s : Int) := by rw [IntKind.wrap_u64]; omega
  have hw1 : IntKind.i64.wrap ((n : Int) - 1) = (n : Int) - 1 := IntWalk.i64_in _ (by omega)
  have hw2 : IntKind.i64.wrap ((n : Int) - 2) = (n : Int) - 2 := IntWalk.i64_in _ (by omega)
  have H1 := Lib.hid (fun W : Nat => digit_z (w.drewN W) p A c (n - 1) ((n : Int) - 1) (by omega) X (hA.drewN W) hX hp)
  have H2 := Lib.hid (fun W : Nat => digit_z (w.drewN W) p A c (n - 2) ((n : Int) - 2) (by omega) X (hA.drewN W) hX hp)
  have HU : Hid (bits BinOp.or IntKind.u64 (IntKind.u64.wrap (((dg X (n - 1) : Nat) : Int) * 2 ^ s)) (((dg X (n - 2) : Nat) : Int) / 2 ^ (64 - s)) = ((ld X n s : Nat) : Int)) := raise_or (dg_lt hA.1 _) hs64
  clear hA hp
  go_enter Try.func96, Try.ntmps96
  go_wp2_with fail
  go_quiet ((go_at_call 84; first | with_reducible exact quiet_left (H1.out _) | with_reducible exact quiet_left (H2.out _)))
  go_wp2_with fail
  go_ret
  rw [HU.out]
  exact ⟨rfl, _, rfl⟩
end Go.Proofs.Ytginajegbknfhaa
