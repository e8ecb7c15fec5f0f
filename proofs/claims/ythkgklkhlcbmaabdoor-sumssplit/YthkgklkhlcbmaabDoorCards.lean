/-
  DERIVED. GIVEN WITH THE SEED: THE CARDS: each row of YthkgklkhlcbmaabDoorRows.lean that lists a variable, with what it lists TIED to the program's text (the seventh form; the later family's looks); each row that meets fmt, with fmt's text TOLD by the authors' own Lean function (tested against real Go, not proved from fmt's source: count such statements apart). THE CARD IS WHAT COUNTS. Prove the row's statement (the work); the ties are given (YthkgklkhlcbmaabDoorTie.lean); close each card by the builder's one call (the guide's Derived/Test/ToyasCard.lean, 'card_holds'). Laid BY PROGRAM, IN A SANDBOX (cutbox-door.mjs). By AI agents, Wed Nov 11 2026. No macro, syntax, notation, axiom, sorry.
-/
import Derived.Test.YthkgklkhlcbmaabDoorRows
import GoSem.ClaimSeven
namespace Go.Proofs.YthkgklkhlcbmaabDoor
namespace Rows

/-- THE TIED CARD OF 'cusplaw05.SumsSplit'. -/
def sumsSplitCard : Claim7 := { stood := { row := sumsSplitRow, standIns := [], harness := (true, "238aebd3718fe3f97d75cf576ff0bfe76396921a9252e63faae13c2d78cc3272"), looks := false }, kinds := [], alts := [], laidByText := true, laidKinds := [.data, .data], laidTests := true, laidLooks := .later }
def SumsSplitCardSaid : Prop := Claim7.holds Tryd.pinned (.plain (OpenSpec.ofChange sumsSplitSpec)) sumsSplitCard

/-- THE SECOND FORM's CARD OF 'cusplaw05.SumsSplit'. -/
def sumsSplitUptoCard : Claim7 := { stood := { row := sumsSplitUptoRow, standIns := [], harness := (true, "238aebd3718fe3f97d75cf576ff0bfe76396921a9252e63faae13c2d78cc3272"), looks := false }, kinds := [], alts := [], laidByText := true, laidKinds := [.data, .data], laidTests := true, laidLooks := .later }
def SumsSplitUptoCardSaid : Prop := Claim7.holds Tryd.pinned (.plain (OpenSpec.upto sumsSplitSpec)) sumsSplitUptoCard
end Rows
end Go.Proofs.YthkgklkhlcbmaabDoor
