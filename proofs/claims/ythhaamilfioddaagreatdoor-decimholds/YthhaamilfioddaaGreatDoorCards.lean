/-
  DERIVED. GIVEN WITH THE SEED: THE CARDS: each row of YthhaamilfioddaaGreatDoorRows.lean that lists a variable, with what it lists TIED to the program's text (the seventh form; the later family's looks); each row that meets fmt, with fmt's text TOLD by the authors' own Lean function (tested against real Go, not proved from fmt's source: count such statements apart). THE CARD IS WHAT COUNTS. Prove the row's statement (the work); the ties are given (YthhaamilfioddaaGreatDoorTie.lean); close each card by the builder's one call (the guide's Derived/Test/ToyasCard.lean, 'card_holds'). Laid BY PROGRAM, IN A SANDBOX (cutbox-door.mjs). By AI agents, Wed Nov 11 2026. No macro, syntax, notation, axiom, sorry.
-/
import Derived.Test.YthhaamilfioddaaGreatDoorRows
import GoSem.ClaimSeven
namespace Go.Proofs.YthhaamilfioddaaGreatDoor
namespace Rows

/-- THE TIED CARD OF 'cusplaw04.DecimHolds'. -/
def decimHoldsCard : Claim7 := { stood := { row := decimHoldsRow, standIns := [], harness := (true, "106bb1b820033a1653f07415bf52ef19a9bd3deb1741d9366f1a75a069899707"), looks := true }, kinds := [], alts := [], laidByText := true, laidKinds := [.data, .data, .data, .data, .sentinel, .sentinel, .pinned], laidTests := true, laidLooks := .later }
def DecimHoldsCardSaid : Prop := Claim7.holds Tryz.pinned (.plain (OpenSpec.ofChange decimHoldsSpec)) decimHoldsCard

/-- THE SECOND FORM's CARD OF 'cusplaw04.DecimHolds'. -/
def decimHoldsUptoCard : Claim7 := { stood := { row := decimHoldsUptoRow, standIns := [], harness := (true, "106bb1b820033a1653f07415bf52ef19a9bd3deb1741d9366f1a75a069899707"), looks := true }, kinds := [], alts := [], laidByText := true, laidKinds := [.data, .data, .data, .data, .sentinel, .sentinel, .pinned], laidTests := true, laidLooks := .later }
def DecimHoldsUptoCardSaid : Prop := Claim7.holds Tryz.pinned (.plain (OpenSpec.upto decimHoldsSpec)) decimHoldsUptoCard
end Rows
end Go.Proofs.YthhaamilfioddaaGreatDoor
