/- Gcd where one of the two has one digit at most. -/
import Derived.Test.YtginajegbknfhaaDoorDivMod
namespace Go.Proofs.YtginajegbknfhaaDoor
open Go.RowKit

theorem quiet_first {P : Program} {f : FuncId} {args : Array Value} {w : World} {n : Nat} {v : Value}
    (h : Calls P f args (w.drewN n) fun e w' => e = .returned v ∧ ∃ m, w' = (w.drewN n).drewN m) : Calls P f args (w.drewN n) fun e w'' => e = .returned v ∧ ∃ m, w'' = w.drewN m :=
  h.mono fun _ _ ⟨he, m, hm⟩ => ⟨he, n + m, by rw [hm, World.drewN_drewN]⟩

theorem dig_one {x : Nat} (h0 : 0 < x) (h : x < B64) : dig x = [x] := by
  rw [dig_pos (by omega), Nat.mod_eq_of_lt h, Nat.div_eq_of_lt h, dig_zero]

structure GcdRel (w wr : World) (G : Nat) (xv yv : Value) : Prop where
  ex : ∃ x y : Nat, xv = .int .u64 (x : Int) ∧ yv = .int .u64 (y : Int) ∧ 0 < x ∧ x < B64 ∧ y < B64 ∧ Nat.gcd x y = G
  drew : ∃ n, wr = w.drewN n

end Go.Proofs.YtginajegbknfhaaDoor