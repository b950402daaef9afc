/- Calls of limbs and math/bits that only compute: products, sums, views of digits. -/
import Derived.Test.YtmbnlhedbedcdaaGreatCut
import Derived.Test.YtmbnlhedbedcdaaGreatShelf
import Derived.Shelf.Spec.BitsCarry
import Derived.IntWalk
import Derived.BigQuiet
import Derived.Deep.QuietTactic
namespace Go.Proofs.YtmbnlhedbedcdaaGreat
open Go.RowKit

theorem run_add (x y c : Nat) (hc : c ≤ 1) (w : World) :
    (callFunc 157 #[.int .u64 x, .int .u64 y, .int .u64 c]).run Tryz.prog w =
      .ok (.value (.tuple #[.int .u64 ((lo (x + y + c) : Nat) : Int), .int .u64 ((hi (x + y + c) : Nat) : Int)])) w := by
  unfold lo hi
  rw [B64_eq, run_callFunc_extern Tryz.func157 (by kernel_rfl) (by kernel_rfl) (by kernel_rfl) (e := add64Entry) (by kernel_rfl), run_add64 x y c (by omega) (by omega) (by omega) (by omega)]
  simp only [Result.andThen]
  congr 5 <;> omega
theorem run_add0 (x y : Nat) (w : World) :
    (callFunc 157 #[.int .u64 x, .int .u64 y, .int .u64 0]).run Tryz.prog w =
      .ok (.value (.tuple #[.int .u64 ((lo (x + y) : Nat) : Int), .int .u64 ((hi (x + y) : Nat) : Int)])) w := run_add x y 0 (by omega) w
theorem run_sub (x y b : Nat) (hb : b ≤ 1) (w : World) :
    (callFunc 159 #[.int .u64 x, .int .u64 y, .int .u64 b]).run Tryz.prog w =
      .ok (.value (.tuple #[.int .u64 ((slo x y b : Nat) : Int), .int .u64 ((sbo x y b : Nat) : Int)])) w := by
  unfold slo sbo
  rw [B64_eq, run_callFunc_extern Tryz.func159 (by kernel_rfl) (by kernel_rfl) (by kernel_rfl) (e := sub64Entry) (by kernel_rfl), run_sub64 x y b hb]
  rfl
theorem run_sub0 (x y : Nat) (w : World) :
    (callFunc 159 #[.int .u64 x, .int .u64 y, .int .u64 0]).run Tryz.prog w =
      .ok (.value (.tuple #[.int .u64 ((slo x y 0 : Nat) : Int), .int .u64 ((sbo x y 0 : Nat) : Int)])) w := run_sub x y 0 (by omega) w

theorem mul64_any (x y : Nat) (hx : x < B64) (hy : y < B64) (w : World) :
    Calls Tryz.prog 198 #[.int .u64 x, .int .u64 y] w fun e w' => e = .returned (.tuple #[.int .u64 ((hi (x * y) : Nat) : Int), .int .u64 ((lo (x * y) : Nat) : Int)]) ∧ w = w' :=
  (Tryz.bits_Mul64 x y hx hy w).mono fun _ _ ⟨he, hw⟩ => ⟨he, hw.symm⟩

theorem u64_small {n : Nat} (h : n < B64) : IntKind.u64.wrap (n : Int) = (n : Int) := by
  rw [IntKind.wrap_u64]
  rw [B64_eq] at h
  omega

set_option maxHeartbeats 400000 in
theorem product_any (x y c : Nat) (hx : x < B64) (hy : y < B64) (hc : c < B64) (w : World) :
    Calls Tryz.prog 177 #[.int .u64 x, .int .u64 y, .int .u64 c] w fun e w' =>
      e = .returned (.tuple #[.int .u64 ((lo (x * y + c) : Nat) : Int), .int .u64 ((hi (x * y + c) : Nat) : Int)]) ∧ w = w' := by
  have ha := run_add0 (lo (x * y)) c
  have HU : Hid (IntKind.u64.wrap (((hi (x * y) : Nat) : Int) + ((hi (lo (x * y) + c) : Nat) : Int)) = ((hi (x * y + c) : Nat) : Int)) := by
    have h := u64_small (hi_prod_lt hx hy hc)
    rw [← hi_mul_add, Int.natCast_add] at h
    rw [← hi_mul_add, Int.natCast_add]
    exact h
  go_enter Tryz.func177, Tryz.ntmps177
  go_wp2_with (go_at_call 198; refine (mul64_any _ _ hx hy _).mono ?_; rintro e w' ⟨rfl, rfl⟩)
  go_outline
  go_ret2
  rw [HU.out, lo_mul_add]
  exact ⟨rfl, rfl⟩
end Go.Proofs.YtmbnlhedbedcdaaGreat
