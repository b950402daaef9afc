/-
  DERIVED. GIVEN WITH THE SEED: THE CARDS: each row of YtmbnlhedbedcdaaGreatDoorRows.lean that lists a variable, with what it lists TIED to the program's text (the seventh form; the later family's looks); each row that meets fmt, with fmt's text TOLD by the authors' own Lean function (tested against real Go, not proved from fmt's source: count such statements apart). THE CARD IS WHAT COUNTS. Prove the row's statement (the work); the ties are given (YtmbnlhedbedcdaaGreatDoorTie.lean); close each card by the builder's one call (the guide's Derived/Test/ToyasCard.lean, 'card_holds'). Laid BY PROGRAM, IN A SANDBOX (cutbox-door.mjs). By AI agents, Wed Nov 11 2026. No macro, syntax, notation, axiom, sorry.
-/
import Derived.Test.YtmbnlhedbedcdaaGreatDoorRows
import GoSem.ClaimSeven
namespace Go.Proofs.YtmbnlhedbedcdaaGreatDoor
namespace Rows

/-- THE TIED CARD OF 'tripwirelaw05.SparseNumbers'. -/
def sparseNumbersCard : Claim7 := { stood := { row := sparseNumbersRow, standIns := [], harness := (true, "63117c868cb6834a1de27ddf81d91745f94b441bec10e9f32ccba53e1ab0abd7"), looks := false }, kinds := [], alts := [], laidByText := true, laidKinds := [.data, .data, .data, .data, .pinned], laidTests := true, laidLooks := .later }
def SparseNumbersCardSaid : Prop := Claim7.holds Tryz.pinned (.plain (OpenSpec.ofChange sparseNumbersSpec)) sparseNumbersCard

/-- THE SECOND FORM's CARD OF 'tripwirelaw05.SparseNumbers'. -/
def sparseNumbersUptoCard : Claim7 := { stood := { row := sparseNumbersUptoRow, standIns := [], harness := (true, "63117c868cb6834a1de27ddf81d91745f94b441bec10e9f32ccba53e1ab0abd7"), looks := false }, kinds := [], alts := [], laidByText := true, laidKinds := [.data, .data, .data, .data, .pinned], laidTests := true, laidLooks := .later }
def SparseNumbersUptoCardSaid : Prop := Claim7.holds Tryz.pinned (.plain (OpenSpec.upto sparseNumbersSpec)) sparseNumbersUptoCard
end Rows
end Go.Proofs.YtmbnlhedbedcdaaGreatDoor
