/-
  DERIVED. GIVEN WITH THE SEED: THE CARDS: each row of YtbbncggaaibheaaGreatDoorRows.lean that lists a variable, with what it lists TIED to the program's text (the seventh form; the later family's looks); each row that meets fmt, with fmt's text TOLD by the authors' own Lean function (tested against real Go, not proved from fmt's source: count such statements apart). THE CARD IS WHAT COUNTS. Prove the row's statement (the work); the ties are given (YtbbncggaaibheaaGreatDoorTie.lean); close each card by the builder's one call (the guide's Derived/Test/ToyasCard.lean, 'card_holds'). Laid BY PROGRAM, IN A SANDBOX (cutbox-door.mjs). By AI agents, Wed Nov 11 2026. No macro, syntax, notation, axiom, sorry.
-/
import Derived.Test.YtbbncggaaibheaaGreatDoorRows
import GoSem.ClaimSeven
namespace Go.Proofs.YtbbncggaaibheaaGreatDoor
namespace Rows

/-- THE TIED CARD OF 'tripwirelaw04.RatioNumbers'. -/
def ratioNumbersCard : Claim7 := { stood := { row := ratioNumbersRow, standIns := [], harness := (true, "9934ed91242925970a15a61cfd8b86d02a51ad1599809f1e4a9fd410e4137e7c"), looks := false }, kinds := [], alts := [], laidByText := true, laidKinds := [.data, .data, .data, .data, .pinned], laidTests := true, laidLooks := .later }
def RatioNumbersCardSaid : Prop := Claim7.holds Tryz.pinned (.plain (OpenSpec.ofChange ratioNumbersSpec)) ratioNumbersCard

/-- THE TIED CARD OF 'tripwirelaw04.RatioTells'. -/
def ratioTellsCard : Claim7 := { stood := { row := ratioTellsRow, standIns := [], harness := (true, "9934ed91242925970a15a61cfd8b86d02a51ad1599809f1e4a9fd410e4137e7c"), looks := false }, kinds := [], alts := [], laidByText := true, laidKinds := [.data, .data, .data, .data, .pinned], laidTests := true, laidLooks := .later }
def RatioTellsCardSaid : Prop := Claim7.holds Tryz.pinned (.plain (OpenSpec.ofChange ratioTellsSpec)) ratioTellsCard

/-- THE TIED CARD OF 'tripwirelaw05.SparseNumbers'. -/
def sparseNumbersCard : Claim7 := { stood := { row := sparseNumbersRow, standIns := [], harness := (true, "9934ed91242925970a15a61cfd8b86d02a51ad1599809f1e4a9fd410e4137e7c"), looks := false }, kinds := [], alts := [], laidByText := true, laidKinds := [.data, .data, .data, .data, .pinned], laidTests := true, laidLooks := .later }
def SparseNumbersCardSaid : Prop := Claim7.holds Tryz.pinned (.plain (OpenSpec.ofChange sparseNumbersSpec)) sparseNumbersCard

/-- THE SECOND FORM's CARD OF 'tripwirelaw04.RatioNumbers'. -/
def ratioNumbersUptoCard : Claim7 := { stood := { row := ratioNumbersUptoRow, standIns := [], harness := (true, "9934ed91242925970a15a61cfd8b86d02a51ad1599809f1e4a9fd410e4137e7c"), looks := false }, kinds := [], alts := [], laidByText := true, laidKinds := [.data, .data, .data, .data, .pinned], laidTests := true, laidLooks := .later }
def RatioNumbersUptoCardSaid : Prop := Claim7.holds Tryz.pinned (.plain (OpenSpec.upto ratioNumbersSpec)) ratioNumbersUptoCard

/-- THE SECOND FORM's CARD OF 'tripwirelaw04.RatioTells'. -/
def ratioTellsUptoCard : Claim7 := { stood := { row := ratioTellsUptoRow, standIns := [], harness := (true, "9934ed91242925970a15a61cfd8b86d02a51ad1599809f1e4a9fd410e4137e7c"), looks := false }, kinds := [], alts := [], laidByText := true, laidKinds := [.data, .data, .data, .data, .pinned], laidTests := true, laidLooks := .later }
def RatioTellsUptoCardSaid : Prop := Claim7.holds Tryz.pinned (.plain (OpenSpec.upto ratioTellsSpec)) ratioTellsUptoCard

/-- THE SECOND FORM's CARD OF 'tripwirelaw05.SparseNumbers'. -/
def sparseNumbersUptoCard : Claim7 := { stood := { row := sparseNumbersUptoRow, standIns := [], harness := (true, "9934ed91242925970a15a61cfd8b86d02a51ad1599809f1e4a9fd410e4137e7c"), looks := false }, kinds := [], alts := [], laidByText := true, laidKinds := [.data, .data, .data, .data, .pinned], laidTests := true, laidLooks := .later }
def SparseNumbersUptoCardSaid : Prop := Claim7.holds Tryz.pinned (.plain (OpenSpec.upto sparseNumbersSpec)) sparseNumbersUptoCard
end Rows
end Go.Proofs.YtbbncggaaibheaaGreatDoor
