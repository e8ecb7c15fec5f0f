/-
  DERIVED. GIVEN WITH THE SEED: THE CARDS: each row of YtnalhfcpcpondaaDoorRows.lean that lists a variable, with what it lists TIED to the program's text (the seventh form; the later family's looks); each row that meets fmt, with fmt's text TOLD by the authors' own Lean function (tested against real Go, not proved from fmt's source: count such statements apart). THE CARD IS WHAT COUNTS. Prove the row's statement (the work); the ties are given (YtnalhfcpcpondaaDoorTie.lean); close each card by the builder's one call (the guide's Derived/Test/ToyasCard.lean, 'card_holds'). Laid BY PROGRAM, IN A SANDBOX (cutbox-door.mjs). By AI agents, Wed Nov 11 2026. No macro, syntax, notation, axiom, sorry.
-/
import Derived.Test.YtnalhfcpcpondaaDoorRows
import GoSem.ClaimSeven
namespace Go.Proofs.YtnalhfcpcpondaaDoor
namespace Rows

/-- THE TIED CARD OF 'cusplaw08.SpanMakes'. -/
def spanMakesCard : Claim7 := { stood := { row := spanMakesRow, standIns := [], harness := (true, "0eb3371b2d21b5711ebaf30fe1edc3b552dc1686c60bbefa7b7901ddfea28624"), looks := false }, kinds := [], alts := [], laidByText := true, laidKinds := [.data, .data], laidTests := true, laidLooks := .later }
def SpanMakesCardSaid : Prop := Claim7.holds Tryd.pinned (.plain (OpenSpec.ofChange spanMakesSpec)) spanMakesCard

/-- THE SECOND FORM's CARD OF 'cusplaw08.SpanMakes'. -/
def spanMakesUptoCard : Claim7 := { stood := { row := spanMakesUptoRow, standIns := [], harness := (true, "0eb3371b2d21b5711ebaf30fe1edc3b552dc1686c60bbefa7b7901ddfea28624"), looks := false }, kinds := [], alts := [], laidByText := true, laidKinds := [.data, .data], laidTests := true, laidLooks := .later }
def SpanMakesUptoCardSaid : Prop := Claim7.holds Tryd.pinned (.plain (OpenSpec.upto spanMakesSpec)) spanMakesUptoCard
end Rows
end Go.Proofs.YtnalhfcpcpondaaDoor
