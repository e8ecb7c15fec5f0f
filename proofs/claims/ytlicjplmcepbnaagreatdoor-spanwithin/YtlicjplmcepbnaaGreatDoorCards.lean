/-
  DERIVED. GIVEN WITH THE SEED: THE CARDS: each row of YtlicjplmcepbnaaGreatDoorRows.lean that lists a variable, with what it lists TIED to the program's text (the seventh form; the later family's looks); each row that meets fmt, with fmt's text TOLD by the authors' own Lean function (tested against real Go, not proved from fmt's source: count such statements apart). THE CARD IS WHAT COUNTS. Prove the row's statement (the work); the ties are given (YtlicjplmcepbnaaGreatDoorTie.lean); close each card by the builder's one call (the guide's Derived/Test/ToyasCard.lean, 'card_holds'). Laid BY PROGRAM, IN A SANDBOX (cutbox-door.mjs). By AI agents, Wed Nov 11 2026. No macro, syntax, notation, axiom, sorry.
-/
import Derived.Test.YtlicjplmcepbnaaGreatDoorRows
import GoSem.ClaimSeven
namespace Go.Proofs.YtlicjplmcepbnaaGreatDoor
namespace Rows

/-- THE TIED CARD OF 'cusplaw08.SpanWithin'. -/
def spanWithinCard : Claim7 := { stood := { row := spanWithinRow, standIns := [], harness := (true, "c217c3d1b90566ce6bd0c5af8abf8e2133e259ed79c5d286fc9089ecacae7b79"), looks := false }, kinds := [], alts := [], laidByText := true, laidKinds := [.data, .data], laidTests := true, laidLooks := .later }
def SpanWithinCardSaid : Prop := Claim7.holds Tryz.pinned (.plain (OpenSpec.ofChange spanWithinSpec)) spanWithinCard

/-- THE SECOND FORM's CARD OF 'cusplaw08.SpanWithin'. -/
def spanWithinUptoCard : Claim7 := { stood := { row := spanWithinUptoRow, standIns := [], harness := (true, "c217c3d1b90566ce6bd0c5af8abf8e2133e259ed79c5d286fc9089ecacae7b79"), looks := false }, kinds := [], alts := [], laidByText := true, laidKinds := [.data, .data], laidTests := true, laidLooks := .later }
def SpanWithinUptoCardSaid : Prop := Claim7.holds Tryz.pinned (.plain (OpenSpec.upto spanWithinSpec)) spanWithinUptoCard
end Rows
end Go.Proofs.YtlicjplmcepbnaaGreatDoor
