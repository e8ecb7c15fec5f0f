/-
  DERIVED. GIVEN WITH THE SEED: THE CARDS: each row of YtbanebginnakhaaGreatDoorRows.lean that lists a variable, with what it lists TIED to the program's text (the seventh form; the later family's looks); each row that meets fmt, with fmt's text TOLD by the authors' own Lean function (tested against real Go, not proved from fmt's source: count such statements apart). THE CARD IS WHAT COUNTS. Prove the row's statement (the work); the ties are given (YtbanebginnakhaaGreatDoorTie.lean); close each card by the builder's one call (the guide's Derived/Test/ToyasCard.lean, 'card_holds'). Laid BY PROGRAM, IN A SANDBOX (cutbox-door.mjs). By AI agents, Wed Nov 11 2026. No macro, syntax, notation, axiom, sorry.
-/
import Derived.Test.YtbanebginnakhaaGreatDoorRows
import GoSem.ClaimSeven
namespace Go.Proofs.YtbanebginnakhaaGreatDoor
namespace Rows

/-- THE TIED CARD OF 'cusplaw06.PointReads'. -/
def pointReadsCard : Claim7 := { stood := { row := pointReadsRow, standIns := [], harness := (true, "0b59d2acfea77b0be1f7f71b269ca836917c250829763f0efe6f4a79b3219322"), looks := true }, kinds := [], alts := [], laidByText := true, laidKinds := [.data, .data, .data, .data, .sentinel, .sentinel, .pinned], laidTests := true, laidLooks := .later }
def PointReadsCardSaid : Prop := Claim7.holds Tryz.pinned (.plain (OpenSpec.ofChange pointReadsSpec)) pointReadsCard

/-- THE SECOND FORM's CARD OF 'cusplaw06.PointReads'. -/
def pointReadsUptoCard : Claim7 := { stood := { row := pointReadsUptoRow, standIns := [], harness := (true, "0b59d2acfea77b0be1f7f71b269ca836917c250829763f0efe6f4a79b3219322"), looks := true }, kinds := [], alts := [], laidByText := true, laidKinds := [.data, .data, .data, .data, .sentinel, .sentinel, .pinned], laidTests := true, laidLooks := .later }
def PointReadsUptoCardSaid : Prop := Claim7.holds Tryz.pinned (.plain (OpenSpec.upto pointReadsSpec)) pointReadsUptoCard
end Rows
end Go.Proofs.YtbanebginnakhaaGreatDoor
