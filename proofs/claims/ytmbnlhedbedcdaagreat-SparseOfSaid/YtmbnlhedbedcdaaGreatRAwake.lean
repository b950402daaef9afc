/- ratio's law: awake. -/
import Derived.Test.YtmbnlhedbedcdaaGreatQOps
import Derived.Test.YtmbnlhedbedcdaaGreatRAdd
namespace Go.Proofs.YtmbnlhedbedcdaaGreat.Q
open Go.RowKit

theorem ql_of {n d : Int} (h1 : -9223372036854775808 ≤ n) (h2 : n ≤ 9223372036854775807) (h3 : -9223372036854775808 ≤ d) (h4 : d ≤ 9223372036854775807) : ql (Rat.divInt n d) ≤ 1 := by
  have hn := zl_small h1 h2
  have hd := zl_small h3 h4
  rcases Int.lt_trichotomy d 0 with h | h | h
  · rw [← Rat.neg_divInt_neg]
    refine Nat.le_trans (ql_div (by omega)) ?_
    rw [zl_neg, zl_neg]
    omega
  · rw [h, Rat.divInt_zero]
    show max (zl 0) (dig 1).length ≤ 1
    have e1 : zl 0 ≤ 1 := zl_small (by omega) (by omega)
    have e2 : (dig 1).length ≤ 1 := dig_length_le (by rw [B64_eq]; omega)
    omega
  · refine Nat.le_trans (ql_div h) ?_
    omega
theorem field_den (s t : Bool) (A B : Option Addr) (n c m d : Nat) (w : World) : (Instr.field 27 (.agg #[.bool s, .slice A n c, .bool t, .slice B m d]) 1).run Tryz.prog w = .ok (.agg #[.bool t, .slice B m d]) w := by kernel_rfl
theorem field_abs (t : Bool) (B : Option Addr) (m d : Nat) (w : World) : (Instr.field 25 (.agg #[.bool t, .slice B m d]) 1).run Tryz.prog w = .ok (.slice B m d) w := by kernel_rfl

end Go.Proofs.YtmbnlhedbedcdaaGreat.Q