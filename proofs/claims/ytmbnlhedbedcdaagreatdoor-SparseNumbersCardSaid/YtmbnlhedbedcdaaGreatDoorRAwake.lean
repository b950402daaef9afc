/- ratio's law: awake. -/
import Derived.Test.YtmbnlhedbedcdaaGreatDoorRSame
import Derived.Test.YtmbnlhedbedcdaaGreatDoorRAdd
import Derived.Test.YtmbnlhedbedcdaaGreatDoorRParse
namespace Go.Proofs.YtmbnlhedbedcdaaGreatDoor.Q
open Go.RowKit
open Go.Proofs.YtmbnlhedbedcdaaGreatDoor.D (textOf parseV Tab RetS text_parse)

theorem ql_of {n d : Int} (h1 : -9223372036854775808 ≤ n) (h2 : n ≤ 9223372036854775807) (h3 : -9223372036854775808 ≤ d) (h4 : d ≤ 9223372036854775807) : ql (Rat.divInt n d) ≤ 1 := by
  have hn := zl_small h1 h2
  have hd := zl_small h3 h4
  rcases Int.lt_trichotomy d 0 with h | h | h
  · rw [← Rat.neg_divInt_neg]
    refine Nat.le_trans (ql_div (by omega)) ?_
    rw [zl_neg, zl_neg]
    omega
  · rw [h, Rat.divInt_zero]
    show max (zl 0) (dig 1).length ≤ 1
    have e1 : zl 0 ≤ 1 := zl_small (by omega) (by omega)
    have e2 : (dig 1).length ≤ 1 := dig_length_le (by rw [B64_eq]; omega)
    omega
  · refine Nat.le_trans (ql_div h) ?_
    omega
theorem tx_whole {q : Rat} (n : Int) (l : List UInt8) (h1 : q.den = 1) (h2 : q.num = n) (h : parseV l = (n, 0)) : qtext q = l := by
  unfold qtext
  rw [if_pos h1, h2]
  exact text_parse h
theorem tx_part {q : Rat} (n : Int) (d : Nat) (a b : List UInt8) (h1 : q.den = d) (hd : d ≠ 1) (h2 : q.num = n) (ha : parseV a = (n, 0)) (hb : parseV b = ((d : Int), 0)) : qtext q = a ++ 47 :: b := by
  unfold qtext
  rw [if_neg (by omega), h2, h1, text_parse ha, text_parse hb]

theorem field_den (s t : Bool) (A B : Option Addr) (n c m d : Nat) (w : World) : (Instr.field 26 (.agg #[.bool s, .slice A n c, .bool t, .slice B m d]) 1).run Tryz.prog w = .ok (.agg #[.bool t, .slice B m d]) w := by kernel_rfl
theorem field_abs (t : Bool) (B : Option Addr) (m d : Nat) (w : World) : (Instr.field 24 (.agg #[.bool t, .slice B m d]) 1).run Tryz.prog w = .ok (.slice B m d) w := by kernel_rfl

end Go.Proofs.YtmbnlhedbedcdaaGreatDoor.Q