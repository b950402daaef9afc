/- What the rows of digits list, and a world in which it lies so. -/
import Derived.Test.YtmbnlhedbedcdaaGreatDoorRows
import Derived.Test.YtmbnlhedbedcdaaGreatDoorDPre
import Derived.WalkKit
import Derived.ProofKit
import Derived.Lib.LaidIn
import Derived.Stop.LaidErr
import Derived.Lib.LaidTab
import Derived.LaidHandle
import Derived.Handed
import Derived.Stop.Joined
namespace Go.Proofs.YtmbnlhedbedcdaaGreatDoor.D
open Go.ChangeShapes Go.WideShapes Go.ChangeAt Go.RowKit

def litVal : DataW Unit → Value
  | .lit (.int k n) => .int k n
  | _ => .bool false
def cells1 : DataW Unit → List Value
  | .agg l => l.map litVal
  | _ => []
def cells2 : DataW Unit → List Value
  | .agg l => l.flatMap cells1
  | _ => []
def laidL : List (String × DataW Unit) := [("math/bits.deBruijn32tab", Rows.laid_math_bits_deBruijn32tab), ("math/bits.deBruijn64tab", Rows.laid_math_bits_deBruijn64tab), ("internal/strconv.uint64pow10", Rows.laid_internal_strconv_uint64pow10), ("unicode/utf8.acceptRanges", Rows.laid_unicode_utf8_acceptRanges), ("unicode/utf8.first", Rows.laid_unicode_utf8_first)]
/-- The settled world, the five variables' cells laid. -/
noncomputable def laidWorld (os : Os) : World :=
  let w0 := World.holding Tryz.prog os ⟨#[], #[], []⟩
  let put (h : Array Obj) (g : Nat) (cs : List Value) : Array Obj := h.modify g fun
    | .cells _ t frozen => .cells cs.toArray t frozen
    | o => o
  { w0 with heap := put (put (put (put (put w0.heap 6 (cells1 Rows.laid_math_bits_deBruijn32tab)) 7 (cells1 Rows.laid_math_bits_deBruijn64tab)) 5 (cells1 Rows.laid_internal_strconv_uint64pow10)) 1 (cells2 Rows.laid_unicode_utf8_acceptRanges)) 0 (cells1 Rows.laid_unicode_utf8_first) }
theorem laid_in (os : Os) (args : Array Value) : LaidIn Tryz.prog ((laidWorld os).forCall (fun _ _ => 0) ⟨#[], args, []⟩).memory laidL [6, 7, 5, 1, 0] :=
  LaidIn.of_run _ 8 (by kernel_rfl) (by kernel_rfl) (by kernel_rfl) (by kernel_rfl)
theorem laid_filter : (laidL.filter fun x => x.2.handleName?.isNone) = laidL := by kernel_rfl
theorem laid_met (os : Os) (args : Array Value) : laidMetH Tryz.prog laidL ((laidWorld os).forCall (fun _ _ => 0) ⟨#[], args, []⟩).memory :=
  laidMetH_of_parts (by rw [laid_filter]; exact (laid_in os args).met) (by kernel_rfl)
theorem laid_none : (laidL.filter fun x => x.2.handleName?.isSome) = [] := by kernel_rfl
theorem laid_plain {w : World} (h : laidMetH Tryz.prog laidL w) : laidMet Tryz.prog laidL w := by
  unfold laidMetH at h
  rw [laid_none] at h
  exact h
theorem pow_data : (Rows.laid_internal_strconv_uint64pow10 : DataW Unit) = Lib.tabData .u64 Lib.pow10Tab := by kernel_rfl
theorem gPow : Tryz.prog.globalNamed "internal/strconv.uint64pow10" = some 5 := by kernel_rfl
theorem tab_of_laid {w : World} (h : laidMetH Tryz.prog laidL w) : Tab w := by
  have h1 := laid_plain h
  unfold laidL at h1
  rw [pow_data] at h1
  have h2 := laidMet.tail (laidMet.tail h1)
  exact Lib.tabIs_of_head gPow (by kernel_rfl) Tryz.underlying184 Tryz.underlying36 (by kernel_rfl) (by kernel_rfl) h2
end Go.Proofs.YtmbnlhedbedcdaaGreatDoor.D
