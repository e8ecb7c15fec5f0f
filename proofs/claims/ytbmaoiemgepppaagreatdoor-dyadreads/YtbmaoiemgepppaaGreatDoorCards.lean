/-
  DERIVED. GIVEN WITH THE SEED: THE CARDS: each row of YtbmaoiemgepppaaGreatDoorRows.lean that lists a variable, with what it lists TIED to the program's text (the seventh form; the later family's looks); each row that meets fmt, with fmt's text TOLD by the authors' own Lean function (tested against real Go, not proved from fmt's source: count such statements apart). THE CARD IS WHAT COUNTS. Prove the row's statement (the work); the ties are given (YtbmaoiemgepppaaGreatDoorTie.lean); close each card by the builder's one call (the guide's Derived/Test/ToyasCard.lean, 'card_holds'). Laid BY PROGRAM, IN A SANDBOX (cutbox-door.mjs). By AI agents, Wed Nov 11 2026. No macro, syntax, notation, axiom, sorry.
-/
import Derived.Test.YtbmaoiemgepppaaGreatDoorRows
import GoSem.ClaimSeven
namespace Go.Proofs.YtbmaoiemgepppaaGreatDoor
namespace Rows

/-- THE TIED CARD OF 'cusplaw02.DyadReads'. -/
def dyadReadsCard : Claim7 := { stood := { row := dyadReadsRow, standIns := [], harness := (true, "19b081e4399f66bd5b6e554ab69c7d5bb19beeb1ea28f0a9765dd7e729f5f656"), looks := true }, kinds := [], alts := [], laidByText := true, laidKinds := [.data, .data, .data, .sentinel, .sentinel], laidTests := true, laidLooks := .later }
def DyadReadsCardSaid : Prop := Claim7.holds Tryz.pinned (.plain (OpenSpec.ofChange dyadReadsSpec)) dyadReadsCard

/-- THE SECOND FORM's CARD OF 'cusplaw02.DyadReads'. -/
def dyadReadsUptoCard : Claim7 := { stood := { row := dyadReadsUptoRow, standIns := [], harness := (true, "19b081e4399f66bd5b6e554ab69c7d5bb19beeb1ea28f0a9765dd7e729f5f656"), looks := true }, kinds := [], alts := [], laidByText := true, laidKinds := [.data, .data, .data, .sentinel, .sentinel], laidTests := true, laidLooks := .later }
def DyadReadsUptoCardSaid : Prop := Claim7.holds Tryz.pinned (.plain (OpenSpec.upto dyadReadsSpec)) dyadReadsUptoCard
end Rows
end Go.Proofs.YtbmaoiemgepppaaGreatDoor
