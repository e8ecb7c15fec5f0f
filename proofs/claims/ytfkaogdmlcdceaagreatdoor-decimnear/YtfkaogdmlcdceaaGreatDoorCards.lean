/-
  DERIVED. GIVEN WITH THE SEED: THE CARDS: each row of YtfkaogdmlcdceaaGreatDoorRows.lean that lists a variable, with what it lists TIED to the program's text (the seventh form; the later family's looks); each row that meets fmt, with fmt's text TOLD by the authors' own Lean function (tested against real Go, not proved from fmt's source: count such statements apart). THE CARD IS WHAT COUNTS. Prove the row's statement (the work); the ties are given (YtfkaogdmlcdceaaGreatDoorTie.lean); close each card by the builder's one call (the guide's Derived/Test/ToyasCard.lean, 'card_holds'). Laid BY PROGRAM, IN A SANDBOX (cutbox-door.mjs). By AI agents, Wed Nov 11 2026. No macro, syntax, notation, axiom, sorry.
-/
import Derived.Test.YtfkaogdmlcdceaaGreatDoorRows
import GoSem.ClaimSeven
namespace Go.Proofs.YtfkaogdmlcdceaaGreatDoor
namespace Rows

/-- THE TIED CARD OF 'cusplaw04.DecimTells'. -/
def decimTellsCard : Claim7 := { stood := { row := decimTellsRow, standIns := [], harness := (true, "cd900a2a0f8940691658a5fbd7d1d3d81a6d6c5aa85fd3f4282897e413d259a3"), looks := true }, kinds := [], alts := [], laidByText := true, laidKinds := [.data, .data, .data, .data, .sentinel, .sentinel, .pinned], laidTests := true, laidLooks := .later }
def DecimTellsCardSaid : Prop := Claim7.holds Tryz.pinned (.plain (OpenSpec.ofChange decimTellsSpec)) decimTellsCard

/-- THE TIED CARD OF 'cusplaw04.DecimBack'. -/
def decimBackCard : Claim7 := { stood := { row := decimBackRow, standIns := [], harness := (true, "cd900a2a0f8940691658a5fbd7d1d3d81a6d6c5aa85fd3f4282897e413d259a3"), looks := true }, kinds := [], alts := [], laidByText := true, laidKinds := [.data, .data, .data, .data, .sentinel, .sentinel, .pinned], laidTests := true, laidLooks := .later }
def DecimBackCardSaid : Prop := Claim7.holds Tryz.pinned (.plain (OpenSpec.ofChange decimBackSpec)) decimBackCard

/-- THE TIED CARD OF 'cusplaw04.DecimNear'. -/
def decimNearCard : Claim7 := { stood := { row := decimNearRow, standIns := [], harness := (true, "cd900a2a0f8940691658a5fbd7d1d3d81a6d6c5aa85fd3f4282897e413d259a3"), looks := true }, kinds := [], alts := [], laidByText := true, laidKinds := [.data, .data, .data, .data, .sentinel, .sentinel, .pinned], laidTests := true, laidLooks := .later }
def DecimNearCardSaid : Prop := Claim7.holds Tryz.pinned (.plain (OpenSpec.ofChange decimNearSpec)) decimNearCard

/-- THE TIED CARD OF 'cusplaw06.PointReads'. -/
def pointReadsCard : Claim7 := { stood := { row := pointReadsRow, standIns := [], harness := (true, "cd900a2a0f8940691658a5fbd7d1d3d81a6d6c5aa85fd3f4282897e413d259a3"), looks := true }, kinds := [], alts := [], laidByText := true, laidKinds := [.data, .data, .data, .data, .sentinel, .sentinel, .pinned], laidTests := true, laidLooks := .later }
def PointReadsCardSaid : Prop := Claim7.holds Tryz.pinned (.plain (OpenSpec.ofChange pointReadsSpec)) pointReadsCard

/-- THE SECOND FORM's CARD OF 'cusplaw04.DecimTells'. -/
def decimTellsUptoCard : Claim7 := { stood := { row := decimTellsUptoRow, standIns := [], harness := (true, "cd900a2a0f8940691658a5fbd7d1d3d81a6d6c5aa85fd3f4282897e413d259a3"), looks := true }, kinds := [], alts := [], laidByText := true, laidKinds := [.data, .data, .data, .data, .sentinel, .sentinel, .pinned], laidTests := true, laidLooks := .later }
def DecimTellsUptoCardSaid : Prop := Claim7.holds Tryz.pinned (.plain (OpenSpec.upto decimTellsSpec)) decimTellsUptoCard

/-- THE SECOND FORM's CARD OF 'cusplaw04.DecimBack'. -/
def decimBackUptoCard : Claim7 := { stood := { row := decimBackUptoRow, standIns := [], harness := (true, "cd900a2a0f8940691658a5fbd7d1d3d81a6d6c5aa85fd3f4282897e413d259a3"), looks := true }, kinds := [], alts := [], laidByText := true, laidKinds := [.data, .data, .data, .data, .sentinel, .sentinel, .pinned], laidTests := true, laidLooks := .later }
def DecimBackUptoCardSaid : Prop := Claim7.holds Tryz.pinned (.plain (OpenSpec.upto decimBackSpec)) decimBackUptoCard

/-- THE SECOND FORM's CARD OF 'cusplaw04.DecimNear'. -/
def decimNearUptoCard : Claim7 := { stood := { row := decimNearUptoRow, standIns := [], harness := (true, "cd900a2a0f8940691658a5fbd7d1d3d81a6d6c5aa85fd3f4282897e413d259a3"), looks := true }, kinds := [], alts := [], laidByText := true, laidKinds := [.data, .data, .data, .data, .sentinel, .sentinel, .pinned], laidTests := true, laidLooks := .later }
def DecimNearUptoCardSaid : Prop := Claim7.holds Tryz.pinned (.plain (OpenSpec.upto decimNearSpec)) decimNearUptoCard

/-- THE SECOND FORM's CARD OF 'cusplaw06.PointReads'. -/
def pointReadsUptoCard : Claim7 := { stood := { row := pointReadsUptoRow, standIns := [], harness := (true, "cd900a2a0f8940691658a5fbd7d1d3d81a6d6c5aa85fd3f4282897e413d259a3"), looks := true }, kinds := [], alts := [], laidByText := true, laidKinds := [.data, .data, .data, .data, .sentinel, .sentinel, .pinned], laidTests := true, laidLooks := .later }
def PointReadsUptoCardSaid : Prop := Claim7.holds Tryz.pinned (.plain (OpenSpec.upto pointReadsSpec)) pointReadsUptoCard
end Rows
end Go.Proofs.YtfkaogdmlcdceaaGreatDoor
