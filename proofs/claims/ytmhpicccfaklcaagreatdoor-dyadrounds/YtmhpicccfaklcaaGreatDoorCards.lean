/-
  DERIVED. GIVEN WITH THE SEED: THE CARDS: each row of YtmhpicccfaklcaaGreatDoorRows.lean that lists a variable, with what it lists TIED to the program's text (the seventh form; the later family's looks); each row that meets fmt, with fmt's text TOLD by the authors' own Lean function (tested against real Go, not proved from fmt's source: count such statements apart). THE CARD IS WHAT COUNTS. Prove the row's statement (the work); the ties are given (YtmhpicccfaklcaaGreatDoorTie.lean); close each card by the builder's one call (the guide's Derived/Test/ToyasCard.lean, 'card_holds'). Laid BY PROGRAM, IN A SANDBOX (cutbox-door.mjs). By AI agents, Wed Nov 11 2026. No macro, syntax, notation, axiom, sorry.
-/
import Derived.Test.YtmhpicccfaklcaaGreatDoorRows
import GoSem.ClaimSeven
namespace Go.Proofs.YtmhpicccfaklcaaGreatDoor
namespace Rows

/-- THE TIED CARD OF 'cusplaw02.DyadAsks'. -/
def dyadAsksCard : Claim7 := { stood := { row := dyadAsksRow, standIns := [], harness := (true, "675e812ce96252d2fa6b631e38d2b5237ef6db6cc4ad30f2c84178a4cfc6ff99"), looks := true }, kinds := [], alts := [], laidByText := true, laidKinds := [.data, .data, .data], laidTests := true, laidLooks := .later }
def DyadAsksCardSaid : Prop := Claim7.holds Tryz.pinned (.plain (OpenSpec.ofChange dyadAsksSpec)) dyadAsksCard

/-- THE TIED CARD OF 'cusplaw02.DyadOrder'. -/
def dyadOrderCard : Claim7 := { stood := { row := dyadOrderRow, standIns := [], harness := (true, "675e812ce96252d2fa6b631e38d2b5237ef6db6cc4ad30f2c84178a4cfc6ff99"), looks := true }, kinds := [], alts := [], laidByText := true, laidKinds := [.data, .data, .data], laidTests := true, laidLooks := .later }
def DyadOrderCardSaid : Prop := Claim7.holds Tryz.pinned (.plain (OpenSpec.ofChange dyadOrderSpec)) dyadOrderCard

/-- THE TIED CARD OF 'cusplaw02.DyadCuts'. -/
def dyadCutsCard : Claim7 := { stood := { row := dyadCutsRow, standIns := [], harness := (true, "675e812ce96252d2fa6b631e38d2b5237ef6db6cc4ad30f2c84178a4cfc6ff99"), looks := true }, kinds := [], alts := [], laidByText := true, laidKinds := [.data, .data, .data], laidTests := true, laidLooks := .later }
def DyadCutsCardSaid : Prop := Claim7.holds Tryz.pinned (.plain (OpenSpec.ofChange dyadCutsSpec)) dyadCutsCard

/-- THE TIED CARD OF 'cusplaw02.DyadRounds'. -/
def dyadRoundsCard : Claim7 := { stood := { row := dyadRoundsRow, standIns := [], harness := (true, "675e812ce96252d2fa6b631e38d2b5237ef6db6cc4ad30f2c84178a4cfc6ff99"), looks := true }, kinds := [], alts := [], laidByText := true, laidKinds := [.data, .data, .data], laidTests := true, laidLooks := .later }
def DyadRoundsCardSaid : Prop := Claim7.holds Tryz.pinned (.plain (OpenSpec.ofChange dyadRoundsSpec)) dyadRoundsCard

/-- THE TIED CARD OF 'cusplaw02.DyadUps'. -/
def dyadUpsCard : Claim7 := { stood := { row := dyadUpsRow, standIns := [], harness := (true, "675e812ce96252d2fa6b631e38d2b5237ef6db6cc4ad30f2c84178a4cfc6ff99"), looks := true }, kinds := [], alts := [], laidByText := true, laidKinds := [.data, .data, .data], laidTests := true, laidLooks := .later }
def DyadUpsCardSaid : Prop := Claim7.holds Tryz.pinned (.plain (OpenSpec.ofChange dyadUpsSpec)) dyadUpsCard

/-- THE TIED CARD OF 'cusplaw02.DyadReads'. -/
def dyadReadsCard : Claim7 := { stood := { row := dyadReadsRow, standIns := [], harness := (true, "675e812ce96252d2fa6b631e38d2b5237ef6db6cc4ad30f2c84178a4cfc6ff99"), looks := true }, kinds := [], alts := [], laidByText := true, laidKinds := [.data, .data, .data, .sentinel, .sentinel], laidTests := true, laidLooks := .later }
def DyadReadsCardSaid : Prop := Claim7.holds Tryz.pinned (.plain (OpenSpec.ofChange dyadReadsSpec)) dyadReadsCard

/-- THE SECOND FORM's CARD OF 'cusplaw02.DyadAsks'. -/
def dyadAsksUptoCard : Claim7 := { stood := { row := dyadAsksUptoRow, standIns := [], harness := (true, "675e812ce96252d2fa6b631e38d2b5237ef6db6cc4ad30f2c84178a4cfc6ff99"), looks := true }, kinds := [], alts := [], laidByText := true, laidKinds := [.data, .data, .data], laidTests := true, laidLooks := .later }
def DyadAsksUptoCardSaid : Prop := Claim7.holds Tryz.pinned (.plain (OpenSpec.upto dyadAsksSpec)) dyadAsksUptoCard

/-- THE SECOND FORM's CARD OF 'cusplaw02.DyadOrder'. -/
def dyadOrderUptoCard : Claim7 := { stood := { row := dyadOrderUptoRow, standIns := [], harness := (true, "675e812ce96252d2fa6b631e38d2b5237ef6db6cc4ad30f2c84178a4cfc6ff99"), looks := true }, kinds := [], alts := [], laidByText := true, laidKinds := [.data, .data, .data], laidTests := true, laidLooks := .later }
def DyadOrderUptoCardSaid : Prop := Claim7.holds Tryz.pinned (.plain (OpenSpec.upto dyadOrderSpec)) dyadOrderUptoCard

/-- THE SECOND FORM's CARD OF 'cusplaw02.DyadCuts'. -/
def dyadCutsUptoCard : Claim7 := { stood := { row := dyadCutsUptoRow, standIns := [], harness := (true, "675e812ce96252d2fa6b631e38d2b5237ef6db6cc4ad30f2c84178a4cfc6ff99"), looks := true }, kinds := [], alts := [], laidByText := true, laidKinds := [.data, .data, .data], laidTests := true, laidLooks := .later }
def DyadCutsUptoCardSaid : Prop := Claim7.holds Tryz.pinned (.plain (OpenSpec.upto dyadCutsSpec)) dyadCutsUptoCard

/-- THE SECOND FORM's CARD OF 'cusplaw02.DyadRounds'. -/
def dyadRoundsUptoCard : Claim7 := { stood := { row := dyadRoundsUptoRow, standIns := [], harness := (true, "675e812ce96252d2fa6b631e38d2b5237ef6db6cc4ad30f2c84178a4cfc6ff99"), looks := true }, kinds := [], alts := [], laidByText := true, laidKinds := [.data, .data, .data], laidTests := true, laidLooks := .later }
def DyadRoundsUptoCardSaid : Prop := Claim7.holds Tryz.pinned (.plain (OpenSpec.upto dyadRoundsSpec)) dyadRoundsUptoCard

/-- THE SECOND FORM's CARD OF 'cusplaw02.DyadUps'. -/
def dyadUpsUptoCard : Claim7 := { stood := { row := dyadUpsUptoRow, standIns := [], harness := (true, "675e812ce96252d2fa6b631e38d2b5237ef6db6cc4ad30f2c84178a4cfc6ff99"), looks := true }, kinds := [], alts := [], laidByText := true, laidKinds := [.data, .data, .data], laidTests := true, laidLooks := .later }
def DyadUpsUptoCardSaid : Prop := Claim7.holds Tryz.pinned (.plain (OpenSpec.upto dyadUpsSpec)) dyadUpsUptoCard

/-- THE SECOND FORM's CARD OF 'cusplaw02.DyadReads'. -/
def dyadReadsUptoCard : Claim7 := { stood := { row := dyadReadsUptoRow, standIns := [], harness := (true, "675e812ce96252d2fa6b631e38d2b5237ef6db6cc4ad30f2c84178a4cfc6ff99"), looks := true }, kinds := [], alts := [], laidByText := true, laidKinds := [.data, .data, .data, .sentinel, .sentinel], laidTests := true, laidLooks := .later }
def DyadReadsUptoCardSaid : Prop := Claim7.holds Tryz.pinned (.plain (OpenSpec.upto dyadReadsSpec)) dyadReadsUptoCard
end Rows
end Go.Proofs.YtmhpicccfaklcaaGreatDoor
