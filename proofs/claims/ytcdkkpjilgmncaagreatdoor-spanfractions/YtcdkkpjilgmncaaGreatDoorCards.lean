/-
  DERIVED. GIVEN WITH THE SEED: THE CARDS: each row of YtcdkkpjilgmncaaGreatDoorRows.lean that lists a variable, with what it lists TIED to the program's text (the seventh form; the later family's looks); each row that meets fmt, with fmt's text TOLD by the authors' own Lean function (tested against real Go, not proved from fmt's source: count such statements apart). THE CARD IS WHAT COUNTS. Prove the row's statement (the work); the ties are given (YtcdkkpjilgmncaaGreatDoorTie.lean); close each card by the builder's one call (the guide's Derived/Test/ToyasCard.lean, 'card_holds'). Laid BY PROGRAM, IN A SANDBOX (cutbox-door.mjs). By AI agents, Wed Nov 11 2026. No macro, syntax, notation, axiom, sorry.
-/
import Derived.Test.YtcdkkpjilgmncaaGreatDoorRows
import GoSem.ClaimSeven
namespace Go.Proofs.YtcdkkpjilgmncaaGreatDoor
namespace Rows

/-- THE TIED CARD OF 'cusplaw08.SpanFractions'. -/
def spanFractionsCard : Claim7 := { stood := { row := spanFractionsRow, standIns := [], harness := (true, "475a6d6bfcb74f9fc2c49f9de06cad57860d2f27087e3dd729e5bee4452d79b2"), looks := false }, kinds := [], alts := [], laidByText := true, laidKinds := [.data, .data], laidTests := true, laidLooks := .later }
def SpanFractionsCardSaid : Prop := Claim7.holds Tryz.pinned (.plain (OpenSpec.ofChange spanFractionsSpec)) spanFractionsCard

/-- THE SECOND FORM's CARD OF 'cusplaw08.SpanFractions'. -/
def spanFractionsUptoCard : Claim7 := { stood := { row := spanFractionsUptoRow, standIns := [], harness := (true, "475a6d6bfcb74f9fc2c49f9de06cad57860d2f27087e3dd729e5bee4452d79b2"), looks := false }, kinds := [], alts := [], laidByText := true, laidKinds := [.data, .data], laidTests := true, laidLooks := .later }
def SpanFractionsUptoCardSaid : Prop := Claim7.holds Tryz.pinned (.plain (OpenSpec.upto spanFractionsSpec)) spanFractionsUptoCard
end Rows
end Go.Proofs.YtcdkkpjilgmncaaGreatDoor
