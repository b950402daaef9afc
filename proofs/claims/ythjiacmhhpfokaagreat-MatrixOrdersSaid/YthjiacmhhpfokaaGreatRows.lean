/-
  No cell of these rows narrows 'for every input' (looked for: loops, veiled, ifaces, maps, wideKeys, modest, calm, conditions, laid).
  DERIVED. THE GIVEN ROWS OF THIS SEAT. 10 by the template 'for every input the law returns true; each argument reads behind the call as it read before'; 0 by the template 'total and deterministic' (their statements: YthjiacmhhpfokaaGreatTotals.lean).
  GIVEN WITH THE SEED: the statements are not yours to turn. If you find one false, say at which input.
  Laid BY PROGRAM, IN A SANDBOX (cutbox-rows.mjs): the forced cells as the released guide's own fill.sh prints them over the translation 84101dda93a90309… (all of the seat's roots in one cut). By AI agents, Wed Nov 11 2026. No macro, syntax, notation, axiom, sorry.
-/
import Derived.Test.YthjiacmhhpfokaaGreatChecked
import GoSem.Claim
import GoSem.ClaimJoined
import GoSem.ClaimMapViews
import Derived.JoinedTies
import Derived.KernelRfl
namespace Go.Proofs.YthjiacmhhpfokaaGreat
/- THE CELL 'sum', in the pinned program and in every row, IS THE sha256 OF THE DUMP (.gsa) THAT YthjiacmhhpfokaaGreatProg.lean LOADS. Nothing in Lean hashes anything: it is a label: what it is worth is what the hold of that sum in a sandbox is worth. -/
noncomputable def Tryz.pinned : Pinned := { name := "ythjiacmhhpfokaagreat", sum := "84101dda93a903093dccd1d026cc4f02d1738cf1424dbba80d9de72d9aecd7be", checked := Tryz.checked }
namespace Rows
def none {H : Type} : Left H := { results := [], args := [] }

/-- 'tripwirelaw05.SparseTells': WHATEVER THE INPUT: true; the input reads as it did. -/
def sparseTellsSpec : ChangeSpec := { name := "sparseTells", fn := fun _ => fun
  | [d1, d2, d3, d4, d5] => { results := [.lit (.bool true)], args := [d1, d2, d3, d4, d5] }
  | _ => none }
def sparseTellsRow : OpenClaim := { program := "ythjiacmhhpfokaagreat", sum := "84101dda93a903093dccd1d026cc4f02d1738cf1424dbba80d9de72d9aecd7be", func := "tripwire/tripwirelaw05.SparseTells", spec := "sparseTells", inPlace := ["math/bits.Sub64", "math/bits.Add64"], unfollowed := true, recurses := true, named := ["math/bits.divideError", "math/bits.overflowError"], apart := false }
def SparseTellsSaid : Prop := sparseTellsRow.holds Tryz.pinned (OpenSpec.ofChange sparseTellsSpec)

/-- ITS FALSE NEIGHBOUR: 'it returns false'. Refute it at one input. -/
def sparseTellsWrong : ChangeSpec := { name := "sparseTells", fn := fun _ => fun
  | [d1, d2, d3, d4, d5] => { results := [.lit (.bool false)], args := [d1, d2, d3, d4, d5] }
  | _ => none }
def SparseTellsWrongFalsely : Prop := sparseTellsRow.holds Tryz.pinned (OpenSpec.ofChange sparseTellsWrong)

/-- 'tripwirelaw06.MatrixNumbers': WHATEVER THE INPUT: true; the input reads as it did. -/
def matrixNumbersSpec : ChangeSpec := { name := "matrixNumbers", fn := fun _ => fun
  | [] => { results := [.lit (.bool true)], args := [] }
  | _ => none }
def matrixNumbersRow : OpenClaim := { program := "ythjiacmhhpfokaagreat", sum := "84101dda93a903093dccd1d026cc4f02d1738cf1424dbba80d9de72d9aecd7be", func := "tripwire/tripwirelaw06.MatrixNumbers", spec := "matrixNumbers", inPlace := ["math/bits.Sub64", "math/bits.Add64"], unfollowed := true, recurses := true, named := ["math/bits.divideError", "math/bits.overflowError"], apart := false }
def MatrixNumbersSaid : Prop := matrixNumbersRow.holds Tryz.pinned (OpenSpec.ofChange matrixNumbersSpec)

/-- ITS FALSE NEIGHBOUR: 'it returns false'. Refute it at one input. -/
def matrixNumbersWrong : ChangeSpec := { name := "matrixNumbers", fn := fun _ => fun
  | [] => { results := [.lit (.bool false)], args := [] }
  | _ => none }
def MatrixNumbersWrongFalsely : Prop := matrixNumbersRow.holds Tryz.pinned (OpenSpec.ofChange matrixNumbersWrong)

/-- 'tripwirelaw06.MatrixTells': WHATEVER THE INPUT: true; the input reads as it did. -/
def matrixTellsSpec : ChangeSpec := { name := "matrixTells", fn := fun _ => fun
  | [d1, d2, d3, d4] => { results := [.lit (.bool true)], args := [d1, d2, d3, d4] }
  | _ => none }
def matrixTellsRow : OpenClaim := { program := "ythjiacmhhpfokaagreat", sum := "84101dda93a903093dccd1d026cc4f02d1738cf1424dbba80d9de72d9aecd7be", func := "tripwire/tripwirelaw06.MatrixTells", spec := "matrixTells", inPlace := ["math/bits.Sub64", "math/bits.Add64"], unfollowed := true, recurses := true, named := ["math/bits.divideError", "math/bits.overflowError"], apart := false }
def MatrixTellsSaid : Prop := matrixTellsRow.holds Tryz.pinned (OpenSpec.ofChange matrixTellsSpec)

/-- ITS FALSE NEIGHBOUR: 'it returns false'. Refute it at one input. -/
def matrixTellsWrong : ChangeSpec := { name := "matrixTells", fn := fun _ => fun
  | [d1, d2, d3, d4] => { results := [.lit (.bool false)], args := [d1, d2, d3, d4] }
  | _ => none }
def MatrixTellsWrongFalsely : Prop := matrixTellsRow.holds Tryz.pinned (OpenSpec.ofChange matrixTellsWrong)

/-- 'tripwirelaw06.MatrixBoth': WHATEVER THE INPUT: true; the input reads as it did. -/
def matrixBothSpec : ChangeSpec := { name := "matrixBoth", fn := fun _ => fun
  | [d1, d2, d3, d4, d5, d6] => { results := [.lit (.bool true)], args := [d1, d2, d3, d4, d5, d6] }
  | _ => none }
def matrixBothRow : OpenClaim := { program := "ythjiacmhhpfokaagreat", sum := "84101dda93a903093dccd1d026cc4f02d1738cf1424dbba80d9de72d9aecd7be", func := "tripwire/tripwirelaw06.MatrixBoth", spec := "matrixBoth", inPlace := ["math/bits.Sub64", "math/bits.Add64"], unfollowed := true, recurses := true, named := ["math/bits.divideError", "math/bits.overflowError"], apart := false }
def MatrixBothSaid : Prop := matrixBothRow.holds Tryz.pinned (OpenSpec.ofChange matrixBothSpec)

/-- ITS FALSE NEIGHBOUR: 'it returns false'. Refute it at one input. -/
def matrixBothWrong : ChangeSpec := { name := "matrixBoth", fn := fun _ => fun
  | [d1, d2, d3, d4, d5, d6] => { results := [.lit (.bool false)], args := [d1, d2, d3, d4, d5, d6] }
  | _ => none }
def MatrixBothWrongFalsely : Prop := matrixBothRow.holds Tryz.pinned (OpenSpec.ofChange matrixBothWrong)

/-- 'tripwirelaw06.MatrixOrders': WHATEVER THE INPUT: true; the input reads as it did. -/
def matrixOrdersSpec : ChangeSpec := { name := "matrixOrders", fn := fun _ => fun
  | [d1, d2, d3] => { results := [.lit (.bool true)], args := [d1, d2, d3] }
  | _ => none }
def matrixOrdersRow : OpenClaim := { program := "ythjiacmhhpfokaagreat", sum := "84101dda93a903093dccd1d026cc4f02d1738cf1424dbba80d9de72d9aecd7be", func := "tripwire/tripwirelaw06.MatrixOrders", spec := "matrixOrders", inPlace := ["math/bits.Sub64", "math/bits.Add64"], unfollowed := true, recurses := true, named := ["math/bits.divideError", "math/bits.overflowError"], apart := false }
def MatrixOrdersSaid : Prop := matrixOrdersRow.holds Tryz.pinned (OpenSpec.ofChange matrixOrdersSpec)

/-- ITS FALSE NEIGHBOUR: 'it returns false'. Refute it at one input. -/
def matrixOrdersWrong : ChangeSpec := { name := "matrixOrders", fn := fun _ => fun
  | [d1, d2, d3] => { results := [.lit (.bool false)], args := [d1, d2, d3] }
  | _ => none }
def MatrixOrdersWrongFalsely : Prop := matrixOrdersRow.holds Tryz.pinned (OpenSpec.ofChange matrixOrdersWrong)

/-- 'tripwirelaw07.LuNumbers': WHATEVER THE INPUT: true; the input reads as it did. -/
def luNumbersSpec : ChangeSpec := { name := "luNumbers", fn := fun _ => fun
  | [] => { results := [.lit (.bool true)], args := [] }
  | _ => none }
def luNumbersRow : OpenClaim := { program := "ythjiacmhhpfokaagreat", sum := "84101dda93a903093dccd1d026cc4f02d1738cf1424dbba80d9de72d9aecd7be", func := "tripwire/tripwirelaw07.LuNumbers", spec := "luNumbers", inPlace := ["math/bits.Sub64", "math/bits.Add64"], unfollowed := true, recurses := true, named := ["math/bits.divideError", "math/bits.overflowError"], apart := false }
def LuNumbersSaid : Prop := luNumbersRow.holds Tryz.pinned (OpenSpec.ofChange luNumbersSpec)

/-- ITS FALSE NEIGHBOUR: 'it returns false'. Refute it at one input. -/
def luNumbersWrong : ChangeSpec := { name := "luNumbers", fn := fun _ => fun
  | [] => { results := [.lit (.bool false)], args := [] }
  | _ => none }
def LuNumbersWrongFalsely : Prop := luNumbersRow.holds Tryz.pinned (OpenSpec.ofChange luNumbersWrong)

/-- 'tripwirelaw07.LuTells': WHATEVER THE INPUT: true; the input reads as it did. -/
def luTellsSpec : ChangeSpec := { name := "luTells", fn := fun _ => fun
  | [d1, d2, d3, d4] => { results := [.lit (.bool true)], args := [d1, d2, d3, d4] }
  | _ => none }
def luTellsRow : OpenClaim := { program := "ythjiacmhhpfokaagreat", sum := "84101dda93a903093dccd1d026cc4f02d1738cf1424dbba80d9de72d9aecd7be", func := "tripwire/tripwirelaw07.LuTells", spec := "luTells", inPlace := ["math/bits.Sub64", "math/bits.Add64"], unfollowed := true, recurses := true, named := ["math/bits.divideError", "math/bits.overflowError"], apart := false }
def LuTellsSaid : Prop := luTellsRow.holds Tryz.pinned (OpenSpec.ofChange luTellsSpec)

/-- ITS FALSE NEIGHBOUR: 'it returns false'. Refute it at one input. -/
def luTellsWrong : ChangeSpec := { name := "luTells", fn := fun _ => fun
  | [d1, d2, d3, d4] => { results := [.lit (.bool false)], args := [d1, d2, d3, d4] }
  | _ => none }
def LuTellsWrongFalsely : Prop := luTellsRow.holds Tryz.pinned (OpenSpec.ofChange luTellsWrong)

/-- 'tripwirelaw07.LuNone': WHATEVER THE INPUT: true; the input reads as it did. -/
def luNoneSpec : ChangeSpec := { name := "luNone", fn := fun _ => fun
  | [d] => { results := [.lit (.bool true)], args := [d] }
  | _ => none }
def luNoneRow : OpenClaim := { program := "ythjiacmhhpfokaagreat", sum := "84101dda93a903093dccd1d026cc4f02d1738cf1424dbba80d9de72d9aecd7be", func := "tripwire/tripwirelaw07.LuNone", spec := "luNone", inPlace := ["math/bits.Sub64", "math/bits.Add64"], unfollowed := true, recurses := true, named := ["math/bits.divideError", "math/bits.overflowError"], apart := false }
def LuNoneSaid : Prop := luNoneRow.holds Tryz.pinned (OpenSpec.ofChange luNoneSpec)

/-- ITS FALSE NEIGHBOUR: 'it returns false'. Refute it at one input. -/
def luNoneWrong : ChangeSpec := { name := "luNone", fn := fun _ => fun
  | [d] => { results := [.lit (.bool false)], args := [d] }
  | _ => none }
def LuNoneWrongFalsely : Prop := luNoneRow.holds Tryz.pinned (OpenSpec.ofChange luNoneWrong)

/-- 'tripwirelaw07.LuSolves': WHATEVER THE INPUT: true; the input reads as it did. -/
def luSolvesSpec : ChangeSpec := { name := "luSolves", fn := fun _ => fun
  | [d1, d2, d3, d4] => { results := [.lit (.bool true)], args := [d1, d2, d3, d4] }
  | _ => none }
def luSolvesRow : OpenClaim := { program := "ythjiacmhhpfokaagreat", sum := "84101dda93a903093dccd1d026cc4f02d1738cf1424dbba80d9de72d9aecd7be", func := "tripwire/tripwirelaw07.LuSolves", spec := "luSolves", inPlace := ["math/bits.Sub64", "math/bits.Add64"], unfollowed := true, recurses := true, named := ["math/bits.divideError", "math/bits.overflowError"], apart := false }
def LuSolvesSaid : Prop := luSolvesRow.holds Tryz.pinned (OpenSpec.ofChange luSolvesSpec)

/-- ITS FALSE NEIGHBOUR: 'it returns false'. Refute it at one input. -/
def luSolvesWrong : ChangeSpec := { name := "luSolves", fn := fun _ => fun
  | [d1, d2, d3, d4] => { results := [.lit (.bool false)], args := [d1, d2, d3, d4] }
  | _ => none }
def LuSolvesWrongFalsely : Prop := luSolvesRow.holds Tryz.pinned (OpenSpec.ofChange luSolvesWrong)

/-- 'tripwirelaw07.LuSpans': WHATEVER THE INPUT: true; the input reads as it did. -/
def luSpansSpec : ChangeSpec := { name := "luSpans", fn := fun _ => fun
  | [d1, d2, d3] => { results := [.lit (.bool true)], args := [d1, d2, d3] }
  | _ => none }
def luSpansRow : OpenClaim := { program := "ythjiacmhhpfokaagreat", sum := "84101dda93a903093dccd1d026cc4f02d1738cf1424dbba80d9de72d9aecd7be", func := "tripwire/tripwirelaw07.LuSpans", spec := "luSpans", inPlace := ["math/bits.Sub64", "math/bits.Add64"], unfollowed := true, recurses := true, named := ["math/bits.divideError", "math/bits.overflowError"], apart := false }
def LuSpansSaid : Prop := luSpansRow.holds Tryz.pinned (OpenSpec.ofChange luSpansSpec)

/-- ITS FALSE NEIGHBOUR: 'it returns false'. Refute it at one input. -/
def luSpansWrong : ChangeSpec := { name := "luSpans", fn := fun _ => fun
  | [d1, d2, d3] => { results := [.lit (.bool false)], args := [d1, d2, d3] }
  | _ => none }
def LuSpansWrongFalsely : Prop := luSpansRow.holds Tryz.pinned (OpenSpec.ofChange luSpansWrong)

/- THE SECOND FORM. 'bulk': how many values and letters a reading holds, each counted each time it is reached (what is shared counts as often as it is met; a slice's spare places count too). A statement '..UptoSaid' is the law's where the arguments, and the package variables that the reading takes, are together of bulk at most 1048576: NARROWER than '..Said'. Prove '..Said' where nothing that the law and all that it calls make is longer than what came in: it says more and counts as full. Else prove '..UptoSaid'. A law counts once. -/
mutual
def uptoBulk {H : Type} : DataW H → Nat
  | .lit (.string bytes) => bytes.length + 1
  | .lit _ => 1
  | .nil => 1
  | .ptr d => uptoBulk d + 1
  | .slice elems spare => uptoBulkAll elems + uptoBulkAll spare + 1
  | .agg parts => uptoBulkAll parts + 1
  | .iface _ d => uptoBulk d + 1
  | .map entries => uptoBulkEntries entries + 1
  | .held _ => 1
def uptoBulkAll {H : Type} : List (DataW H) → Nat
  | [] => 0
  | d :: r => uptoBulk d + uptoBulkAll r
def uptoBulkEntries {H : Type} : List (Lit × DataW H) → Nat
  | [] => 0
  | x :: r => uptoBulkEntry x + uptoBulkEntries r
def uptoBulkEntry {H : Type} : Lit × DataW H → Nat
  | (.string bytes, d) => bytes.length + uptoBulk d + 1
  | (_, d) => uptoBulk d + 1
 end
def uptoSmall : (H : Type) → List (DataW H) → Bool := fun _ ds => decide (uptoBulkAll ds ≤ 1048576)
def OpenSpec.upto (s : _root_.Go.ChangeSpec) : _root_.Go.OpenSpec := { _root_.Go.OpenSpec.ofChange s with cond := some uptoSmall }

/-- 'tripwirelaw05.SparseTells', WHERE WHAT IT READS IS OF BULK AT MOST 1048576: true; the input reads as it did. -/
def sparseTellsUptoRow : OpenClaim := { program := "ythjiacmhhpfokaagreat", sum := "84101dda93a903093dccd1d026cc4f02d1738cf1424dbba80d9de72d9aecd7be", func := "tripwire/tripwirelaw05.SparseTells", spec := "sparseTells", inPlace := ["math/bits.Sub64", "math/bits.Add64"], unfollowed := true, recurses := true, named := ["math/bits.divideError", "math/bits.overflowError"], apart := false, narrowed := true }
def SparseTellsUptoSaid : Prop := sparseTellsUptoRow.holds Tryz.pinned (OpenSpec.upto sparseTellsSpec)

/-- 'tripwirelaw06.MatrixNumbers', WHERE WHAT IT READS IS OF BULK AT MOST 1048576: true; the input reads as it did. -/
def matrixNumbersUptoRow : OpenClaim := { program := "ythjiacmhhpfokaagreat", sum := "84101dda93a903093dccd1d026cc4f02d1738cf1424dbba80d9de72d9aecd7be", func := "tripwire/tripwirelaw06.MatrixNumbers", spec := "matrixNumbers", inPlace := ["math/bits.Sub64", "math/bits.Add64"], unfollowed := true, recurses := true, named := ["math/bits.divideError", "math/bits.overflowError"], apart := false, narrowed := true }
def MatrixNumbersUptoSaid : Prop := matrixNumbersUptoRow.holds Tryz.pinned (OpenSpec.upto matrixNumbersSpec)

/-- 'tripwirelaw06.MatrixTells', WHERE WHAT IT READS IS OF BULK AT MOST 1048576: true; the input reads as it did. -/
def matrixTellsUptoRow : OpenClaim := { program := "ythjiacmhhpfokaagreat", sum := "84101dda93a903093dccd1d026cc4f02d1738cf1424dbba80d9de72d9aecd7be", func := "tripwire/tripwirelaw06.MatrixTells", spec := "matrixTells", inPlace := ["math/bits.Sub64", "math/bits.Add64"], unfollowed := true, recurses := true, named := ["math/bits.divideError", "math/bits.overflowError"], apart := false, narrowed := true }
def MatrixTellsUptoSaid : Prop := matrixTellsUptoRow.holds Tryz.pinned (OpenSpec.upto matrixTellsSpec)

/-- 'tripwirelaw06.MatrixBoth', WHERE WHAT IT READS IS OF BULK AT MOST 1048576: true; the input reads as it did. -/
def matrixBothUptoRow : OpenClaim := { program := "ythjiacmhhpfokaagreat", sum := "84101dda93a903093dccd1d026cc4f02d1738cf1424dbba80d9de72d9aecd7be", func := "tripwire/tripwirelaw06.MatrixBoth", spec := "matrixBoth", inPlace := ["math/bits.Sub64", "math/bits.Add64"], unfollowed := true, recurses := true, named := ["math/bits.divideError", "math/bits.overflowError"], apart := false, narrowed := true }
def MatrixBothUptoSaid : Prop := matrixBothUptoRow.holds Tryz.pinned (OpenSpec.upto matrixBothSpec)

/-- 'tripwirelaw06.MatrixOrders', WHERE WHAT IT READS IS OF BULK AT MOST 1048576: true; the input reads as it did. -/
def matrixOrdersUptoRow : OpenClaim := { program := "ythjiacmhhpfokaagreat", sum := "84101dda93a903093dccd1d026cc4f02d1738cf1424dbba80d9de72d9aecd7be", func := "tripwire/tripwirelaw06.MatrixOrders", spec := "matrixOrders", inPlace := ["math/bits.Sub64", "math/bits.Add64"], unfollowed := true, recurses := true, named := ["math/bits.divideError", "math/bits.overflowError"], apart := false, narrowed := true }
def MatrixOrdersUptoSaid : Prop := matrixOrdersUptoRow.holds Tryz.pinned (OpenSpec.upto matrixOrdersSpec)

/-- 'tripwirelaw07.LuNumbers', WHERE WHAT IT READS IS OF BULK AT MOST 1048576: true; the input reads as it did. -/
def luNumbersUptoRow : OpenClaim := { program := "ythjiacmhhpfokaagreat", sum := "84101dda93a903093dccd1d026cc4f02d1738cf1424dbba80d9de72d9aecd7be", func := "tripwire/tripwirelaw07.LuNumbers", spec := "luNumbers", inPlace := ["math/bits.Sub64", "math/bits.Add64"], unfollowed := true, recurses := true, named := ["math/bits.divideError", "math/bits.overflowError"], apart := false, narrowed := true }
def LuNumbersUptoSaid : Prop := luNumbersUptoRow.holds Tryz.pinned (OpenSpec.upto luNumbersSpec)

/-- 'tripwirelaw07.LuTells', WHERE WHAT IT READS IS OF BULK AT MOST 1048576: true; the input reads as it did. -/
def luTellsUptoRow : OpenClaim := { program := "ythjiacmhhpfokaagreat", sum := "84101dda93a903093dccd1d026cc4f02d1738cf1424dbba80d9de72d9aecd7be", func := "tripwire/tripwirelaw07.LuTells", spec := "luTells", inPlace := ["math/bits.Sub64", "math/bits.Add64"], unfollowed := true, recurses := true, named := ["math/bits.divideError", "math/bits.overflowError"], apart := false, narrowed := true }
def LuTellsUptoSaid : Prop := luTellsUptoRow.holds Tryz.pinned (OpenSpec.upto luTellsSpec)

/-- 'tripwirelaw07.LuNone', WHERE WHAT IT READS IS OF BULK AT MOST 1048576: true; the input reads as it did. -/
def luNoneUptoRow : OpenClaim := { program := "ythjiacmhhpfokaagreat", sum := "84101dda93a903093dccd1d026cc4f02d1738cf1424dbba80d9de72d9aecd7be", func := "tripwire/tripwirelaw07.LuNone", spec := "luNone", inPlace := ["math/bits.Sub64", "math/bits.Add64"], unfollowed := true, recurses := true, named := ["math/bits.divideError", "math/bits.overflowError"], apart := false, narrowed := true }
def LuNoneUptoSaid : Prop := luNoneUptoRow.holds Tryz.pinned (OpenSpec.upto luNoneSpec)

/-- 'tripwirelaw07.LuSolves', WHERE WHAT IT READS IS OF BULK AT MOST 1048576: true; the input reads as it did. -/
def luSolvesUptoRow : OpenClaim := { program := "ythjiacmhhpfokaagreat", sum := "84101dda93a903093dccd1d026cc4f02d1738cf1424dbba80d9de72d9aecd7be", func := "tripwire/tripwirelaw07.LuSolves", spec := "luSolves", inPlace := ["math/bits.Sub64", "math/bits.Add64"], unfollowed := true, recurses := true, named := ["math/bits.divideError", "math/bits.overflowError"], apart := false, narrowed := true }
def LuSolvesUptoSaid : Prop := luSolvesUptoRow.holds Tryz.pinned (OpenSpec.upto luSolvesSpec)

/-- 'tripwirelaw07.LuSpans', WHERE WHAT IT READS IS OF BULK AT MOST 1048576: true; the input reads as it did. -/
def luSpansUptoRow : OpenClaim := { program := "ythjiacmhhpfokaagreat", sum := "84101dda93a903093dccd1d026cc4f02d1738cf1424dbba80d9de72d9aecd7be", func := "tripwire/tripwirelaw07.LuSpans", spec := "luSpans", inPlace := ["math/bits.Sub64", "math/bits.Add64"], unfollowed := true, recurses := true, named := ["math/bits.divideError", "math/bits.overflowError"], apart := false, narrowed := true }
def LuSpansUptoSaid : Prop := luSpansUptoRow.holds Tryz.pinned (OpenSpec.upto luSpansSpec)

end Rows
end Go.Proofs.YthjiacmhhpfokaaGreat
