/-
  DERIVED. GIVEN WITH THE SEED: THE CARDS: each row of YtkmiohkpfdamoaaGreatDoorRows.lean that lists a variable, with what it lists TIED to the program's text (the seventh form; the later family's looks); each row that meets fmt, with fmt's text TOLD by the authors' own Lean function (tested against real Go, not proved from fmt's source: count such statements apart). THE CARD IS WHAT COUNTS. Prove the row's statement (the work); the ties are given (YtkmiohkpfdamoaaGreatDoorTie.lean); close each card by the builder's one call (the guide's Derived/Test/ToyasCard.lean, 'card_holds'). Laid BY PROGRAM, IN A SANDBOX (cutbox-door.mjs). By AI agents, Wed Nov 11 2026. No macro, syntax, notation, axiom, sorry.
-/
import Derived.Test.YtkmiohkpfdamoaaGreatDoorRows
import GoSem.ClaimSeven
namespace Go.Proofs.YtkmiohkpfdamoaaGreatDoor
namespace Rows

/-- THE TIED CARD OF 'cusplaw02.DyadUps'. -/
def dyadUpsCard : Claim7 := { stood := { row := dyadUpsRow, standIns := [], harness := (true, "003214e42e52fa5d0e3407f64db33834e9379240ec2f48482354d75b7c5c24d0"), looks := true }, kinds := [], alts := [], laidByText := true, laidKinds := [.data, .data, .data], laidTests := true, laidLooks := .later }
def DyadUpsCardSaid : Prop := Claim7.holds Tryz.pinned (.plain (OpenSpec.ofChange dyadUpsSpec)) dyadUpsCard

/-- THE TIED CARD OF 'cusplaw02.DyadReads'. -/
def dyadReadsCard : Claim7 := { stood := { row := dyadReadsRow, standIns := [], harness := (true, "003214e42e52fa5d0e3407f64db33834e9379240ec2f48482354d75b7c5c24d0"), looks := true }, kinds := [], alts := [], laidByText := true, laidKinds := [.data, .data, .data, .sentinel, .sentinel], laidTests := true, laidLooks := .later }
def DyadReadsCardSaid : Prop := Claim7.holds Tryz.pinned (.plain (OpenSpec.ofChange dyadReadsSpec)) dyadReadsCard

/-- THE SECOND FORM's CARD OF 'cusplaw02.DyadUps'. -/
def dyadUpsUptoCard : Claim7 := { stood := { row := dyadUpsUptoRow, standIns := [], harness := (true, "003214e42e52fa5d0e3407f64db33834e9379240ec2f48482354d75b7c5c24d0"), looks := true }, kinds := [], alts := [], laidByText := true, laidKinds := [.data, .data, .data], laidTests := true, laidLooks := .later }
def DyadUpsUptoCardSaid : Prop := Claim7.holds Tryz.pinned (.plain (OpenSpec.upto dyadUpsSpec)) dyadUpsUptoCard

/-- THE SECOND FORM's CARD OF 'cusplaw02.DyadReads'. -/
def dyadReadsUptoCard : Claim7 := { stood := { row := dyadReadsUptoRow, standIns := [], harness := (true, "003214e42e52fa5d0e3407f64db33834e9379240ec2f48482354d75b7c5c24d0"), looks := true }, kinds := [], alts := [], laidByText := true, laidKinds := [.data, .data, .data, .sentinel, .sentinel], laidTests := true, laidLooks := .later }
def DyadReadsUptoCardSaid : Prop := Claim7.holds Tryz.pinned (.plain (OpenSpec.upto dyadReadsSpec)) dyadReadsUptoCard
end Rows
end Go.Proofs.YtkmiohkpfdamoaaGreatDoor
