/-
  DERIVED. GIVEN WITH THE SEED: THE CARDS: each row of YtkcmhaknalomjaaGreatDoorRows.lean that lists a variable, with what it lists TIED to the program's text (the seventh form; the later family's looks); each row that meets fmt, with fmt's text TOLD by the authors' own Lean function (tested against real Go, not proved from fmt's source: count such statements apart). THE CARD IS WHAT COUNTS. Prove the row's statement (the work); the ties are given (YtkcmhaknalomjaaGreatDoorTie.lean); close each card by the builder's one call (the guide's Derived/Test/ToyasCard.lean, 'card_holds'). Laid BY PROGRAM, IN A SANDBOX (cutbox-door.mjs). By AI agents, Wed Nov 11 2026. No macro, syntax, notation, axiom, sorry.
-/
import Derived.Test.YtkcmhaknalomjaaGreatDoorRows
import GoSem.ClaimSeven
namespace Go.Proofs.YtkcmhaknalomjaaGreatDoor
namespace Rows

/-- THE TIED CARD OF 'cusplaw04.DecimReads'. -/
def decimReadsCard : Claim7 := { stood := { row := decimReadsRow, standIns := [], harness := (true, "684d5d3f3c793ad12358ba8d9e63ebf1dd6a1ee0685d3a7c26c8499e17731f16"), looks := true }, kinds := [], alts := [], laidByText := true, laidKinds := [.data, .data, .data, .data, .sentinel, .sentinel, .pinned], laidTests := true, laidLooks := .later }
def DecimReadsCardSaid : Prop := Claim7.holds Tryz.pinned (.plain (OpenSpec.ofChange decimReadsSpec)) decimReadsCard

/-- THE TIED CARD OF 'cusplaw04.DecimTells'. -/
def decimTellsCard : Claim7 := { stood := { row := decimTellsRow, standIns := [], harness := (true, "684d5d3f3c793ad12358ba8d9e63ebf1dd6a1ee0685d3a7c26c8499e17731f16"), looks := true }, kinds := [], alts := [], laidByText := true, laidKinds := [.data, .data, .data, .data, .sentinel, .sentinel, .pinned], laidTests := true, laidLooks := .later }
def DecimTellsCardSaid : Prop := Claim7.holds Tryz.pinned (.plain (OpenSpec.ofChange decimTellsSpec)) decimTellsCard

/-- THE TIED CARD OF 'cusplaw04.DecimFixed'. -/
def decimFixedCard : Claim7 := { stood := { row := decimFixedRow, standIns := [], harness := (true, "684d5d3f3c793ad12358ba8d9e63ebf1dd6a1ee0685d3a7c26c8499e17731f16"), looks := true }, kinds := [], alts := [], laidByText := true, laidKinds := [.data, .data, .data, .data, .sentinel, .sentinel, .pinned], laidTests := true, laidLooks := .later }
def DecimFixedCardSaid : Prop := Claim7.holds Tryz.pinned (.plain (OpenSpec.ofChange decimFixedSpec)) decimFixedCard

/-- THE TIED CARD OF 'cusplaw04.DecimBack'. -/
def decimBackCard : Claim7 := { stood := { row := decimBackRow, standIns := [], harness := (true, "684d5d3f3c793ad12358ba8d9e63ebf1dd6a1ee0685d3a7c26c8499e17731f16"), looks := true }, kinds := [], alts := [], laidByText := true, laidKinds := [.data, .data, .data, .data, .sentinel, .sentinel, .pinned], laidTests := true, laidLooks := .later }
def DecimBackCardSaid : Prop := Claim7.holds Tryz.pinned (.plain (OpenSpec.ofChange decimBackSpec)) decimBackCard

/-- THE TIED CARD OF 'cusplaw04.DecimNear'. -/
def decimNearCard : Claim7 := { stood := { row := decimNearRow, standIns := [], harness := (true, "684d5d3f3c793ad12358ba8d9e63ebf1dd6a1ee0685d3a7c26c8499e17731f16"), looks := true }, kinds := [], alts := [], laidByText := true, laidKinds := [.data, .data, .data, .data, .sentinel, .sentinel, .pinned], laidTests := true, laidLooks := .later }
def DecimNearCardSaid : Prop := Claim7.holds Tryz.pinned (.plain (OpenSpec.ofChange decimNearSpec)) decimNearCard

/-- THE SECOND FORM's CARD OF 'cusplaw04.DecimReads'. -/
def decimReadsUptoCard : Claim7 := { stood := { row := decimReadsUptoRow, standIns := [], harness := (true, "684d5d3f3c793ad12358ba8d9e63ebf1dd6a1ee0685d3a7c26c8499e17731f16"), looks := true }, kinds := [], alts := [], laidByText := true, laidKinds := [.data, .data, .data, .data, .sentinel, .sentinel, .pinned], laidTests := true, laidLooks := .later }
def DecimReadsUptoCardSaid : Prop := Claim7.holds Tryz.pinned (.plain (OpenSpec.upto decimReadsSpec)) decimReadsUptoCard

/-- THE SECOND FORM's CARD OF 'cusplaw04.DecimTells'. -/
def decimTellsUptoCard : Claim7 := { stood := { row := decimTellsUptoRow, standIns := [], harness := (true, "684d5d3f3c793ad12358ba8d9e63ebf1dd6a1ee0685d3a7c26c8499e17731f16"), looks := true }, kinds := [], alts := [], laidByText := true, laidKinds := [.data, .data, .data, .data, .sentinel, .sentinel, .pinned], laidTests := true, laidLooks := .later }
def DecimTellsUptoCardSaid : Prop := Claim7.holds Tryz.pinned (.plain (OpenSpec.upto decimTellsSpec)) decimTellsUptoCard

/-- THE SECOND FORM's CARD OF 'cusplaw04.DecimFixed'. -/
def decimFixedUptoCard : Claim7 := { stood := { row := decimFixedUptoRow, standIns := [], harness := (true, "684d5d3f3c793ad12358ba8d9e63ebf1dd6a1ee0685d3a7c26c8499e17731f16"), looks := true }, kinds := [], alts := [], laidByText := true, laidKinds := [.data, .data, .data, .data, .sentinel, .sentinel, .pinned], laidTests := true, laidLooks := .later }
def DecimFixedUptoCardSaid : Prop := Claim7.holds Tryz.pinned (.plain (OpenSpec.upto decimFixedSpec)) decimFixedUptoCard

/-- THE SECOND FORM's CARD OF 'cusplaw04.DecimBack'. -/
def decimBackUptoCard : Claim7 := { stood := { row := decimBackUptoRow, standIns := [], harness := (true, "684d5d3f3c793ad12358ba8d9e63ebf1dd6a1ee0685d3a7c26c8499e17731f16"), looks := true }, kinds := [], alts := [], laidByText := true, laidKinds := [.data, .data, .data, .data, .sentinel, .sentinel, .pinned], laidTests := true, laidLooks := .later }
def DecimBackUptoCardSaid : Prop := Claim7.holds Tryz.pinned (.plain (OpenSpec.upto decimBackSpec)) decimBackUptoCard

/-- THE SECOND FORM's CARD OF 'cusplaw04.DecimNear'. -/
def decimNearUptoCard : Claim7 := { stood := { row := decimNearUptoRow, standIns := [], harness := (true, "684d5d3f3c793ad12358ba8d9e63ebf1dd6a1ee0685d3a7c26c8499e17731f16"), looks := true }, kinds := [], alts := [], laidByText := true, laidKinds := [.data, .data, .data, .data, .sentinel, .sentinel, .pinned], laidTests := true, laidLooks := .later }
def DecimNearUptoCardSaid : Prop := Claim7.holds Tryz.pinned (.plain (OpenSpec.upto decimNearSpec)) decimNearUptoCard
end Rows
end Go.Proofs.YtkcmhaknalomjaaGreatDoor
