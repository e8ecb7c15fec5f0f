/-
  DERIVED. GIVEN WITH THE SEED: THE CARDS: each row of YtgmpcpeminjpbaaGreatDoorRows.lean that lists a variable, with what it lists TIED to the program's text (the seventh form; the later family's looks); each row that meets fmt, with fmt's text TOLD by the authors' own Lean function (tested against real Go, not proved from fmt's source: count such statements apart). THE CARD IS WHAT COUNTS. Prove the row's statement (the work); the ties are given (YtgmpcpeminjpbaaGreatDoorTie.lean); close each card by the builder's one call (the guide's Derived/Test/ToyasCard.lean, 'card_holds'). Laid BY PROGRAM, IN A SANDBOX (cutbox-door.mjs). By AI agents, Wed Nov 11 2026. No macro, syntax, notation, axiom, sorry.
-/
import Derived.Test.YtgmpcpeminjpbaaGreatDoorRows
import GoSem.ClaimSeven
namespace Go.Proofs.YtgmpcpeminjpbaaGreatDoor
namespace Rows

/-- THE TIED CARD OF 'cusplaw08.SpanFractions'. -/
def spanFractionsCard : Claim7 := { stood := { row := spanFractionsRow, standIns := [], harness := (true, "2116ca9938921ec33b94d1d534817d90e24423b2500f15e0eae60d84f0c2c2b4"), looks := false }, kinds := [], alts := [], laidByText := true, laidKinds := [.data, .data], laidTests := true, laidLooks := .later }
def SpanFractionsCardSaid : Prop := Claim7.holds Tryz.pinned (.plain (OpenSpec.ofChange spanFractionsSpec)) spanFractionsCard

/-- THE TIED CARD OF 'cusplaw08.SpanSimple'. -/
def spanSimpleCard : Claim7 := { stood := { row := spanSimpleRow, standIns := [], harness := (true, "2116ca9938921ec33b94d1d534817d90e24423b2500f15e0eae60d84f0c2c2b4"), looks := false }, kinds := [], alts := [], laidByText := true, laidKinds := [.data, .data], laidTests := true, laidLooks := .later }
def SpanSimpleCardSaid : Prop := Claim7.holds Tryz.pinned (.plain (OpenSpec.ofChange spanSimpleSpec)) spanSimpleCard

/-- THE SECOND FORM's CARD OF 'cusplaw08.SpanFractions'. -/
def spanFractionsUptoCard : Claim7 := { stood := { row := spanFractionsUptoRow, standIns := [], harness := (true, "2116ca9938921ec33b94d1d534817d90e24423b2500f15e0eae60d84f0c2c2b4"), looks := false }, kinds := [], alts := [], laidByText := true, laidKinds := [.data, .data], laidTests := true, laidLooks := .later }
def SpanFractionsUptoCardSaid : Prop := Claim7.holds Tryz.pinned (.plain (OpenSpec.upto spanFractionsSpec)) spanFractionsUptoCard

/-- THE SECOND FORM's CARD OF 'cusplaw08.SpanSimple'. -/
def spanSimpleUptoCard : Claim7 := { stood := { row := spanSimpleUptoRow, standIns := [], harness := (true, "2116ca9938921ec33b94d1d534817d90e24423b2500f15e0eae60d84f0c2c2b4"), looks := false }, kinds := [], alts := [], laidByText := true, laidKinds := [.data, .data], laidTests := true, laidLooks := .later }
def SpanSimpleUptoCardSaid : Prop := Claim7.holds Tryz.pinned (.plain (OpenSpec.upto spanSimpleSpec)) spanSimpleUptoCard
end Rows
end Go.Proofs.YtgmpcpeminjpbaaGreatDoor
