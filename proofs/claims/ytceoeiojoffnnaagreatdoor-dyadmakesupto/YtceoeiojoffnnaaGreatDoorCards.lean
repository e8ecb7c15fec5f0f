/-
  DERIVED. GIVEN WITH THE SEED: THE CARDS: each row of YtceoeiojoffnnaaGreatDoorRows.lean that lists a variable, with what it lists TIED to the program's text (the seventh form; the later family's looks); each row that meets fmt, with fmt's text TOLD by the authors' own Lean function (tested against real Go, not proved from fmt's source: count such statements apart). THE CARD IS WHAT COUNTS. Prove the row's statement (the work); the ties are given (YtceoeiojoffnnaaGreatDoorTie.lean); close each card by the builder's one call (the guide's Derived/Test/ToyasCard.lean, 'card_holds'). Laid BY PROGRAM, IN A SANDBOX (cutbox-door.mjs). By AI agents, Wed Nov 11 2026. No macro, syntax, notation, axiom, sorry.
-/
import Derived.Test.YtceoeiojoffnnaaGreatDoorRows
import GoSem.ClaimSeven
namespace Go.Proofs.YtceoeiojoffnnaaGreatDoor
namespace Rows

/-- THE TIED CARD OF 'cusplaw02.DyadOf'. -/
def dyadOfCard : Claim7 := { stood := { row := dyadOfRow, standIns := [], harness := (true, "471e3b01561d6053b5c0235910e30f58cde8621c1e0763576127620d03cdf919"), looks := false }, kinds := [], alts := [], laidByText := true, laidKinds := [.data, .data, .data], laidTests := true, laidLooks := .later }
def DyadOfCardSaid : Prop := Claim7.holds Tryz.pinned (.plain (OpenSpec.ofChange dyadOfSpec)) dyadOfCard

/-- THE TIED CARD OF 'cusplaw02.DyadMakes'. -/
def dyadMakesCard : Claim7 := { stood := { row := dyadMakesRow, standIns := [], harness := (true, "471e3b01561d6053b5c0235910e30f58cde8621c1e0763576127620d03cdf919"), looks := false }, kinds := [], alts := [], laidByText := true, laidKinds := [.data, .data, .data], laidTests := true, laidLooks := .later }
def DyadMakesCardSaid : Prop := Claim7.holds Tryz.pinned (.plain (OpenSpec.ofChange dyadMakesSpec)) dyadMakesCard

/-- THE TIED CARD OF 'cusplaw02.DyadRing'. -/
def dyadRingCard : Claim7 := { stood := { row := dyadRingRow, standIns := [], harness := (true, "471e3b01561d6053b5c0235910e30f58cde8621c1e0763576127620d03cdf919"), looks := false }, kinds := [], alts := [], laidByText := true, laidKinds := [.data, .data, .data], laidTests := true, laidLooks := .later }
def DyadRingCardSaid : Prop := Claim7.holds Tryz.pinned (.plain (OpenSpec.ofChange dyadRingSpec)) dyadRingCard

/-- THE TIED CARD OF 'cusplaw02.DyadFloats'. -/
def dyadFloatsCard : Claim7 := { stood := { row := dyadFloatsRow, standIns := [], harness := (true, "471e3b01561d6053b5c0235910e30f58cde8621c1e0763576127620d03cdf919"), looks := false }, kinds := [], alts := [], laidByText := true, laidKinds := [.data, .data, .data], laidTests := true, laidLooks := .later }
def DyadFloatsCardSaid : Prop := Claim7.holds Tryz.pinned (.plain (OpenSpec.ofChange dyadFloatsSpec)) dyadFloatsCard

/-- THE TIED CARD OF 'cusplaw02.DyadOrder'. -/
def dyadOrderCard : Claim7 := { stood := { row := dyadOrderRow, standIns := [], harness := (true, "471e3b01561d6053b5c0235910e30f58cde8621c1e0763576127620d03cdf919"), looks := false }, kinds := [], alts := [], laidByText := true, laidKinds := [.data, .data, .data], laidTests := true, laidLooks := .later }
def DyadOrderCardSaid : Prop := Claim7.holds Tryz.pinned (.plain (OpenSpec.ofChange dyadOrderSpec)) dyadOrderCard

/-- THE TIED CARD OF 'cusplaw02.DyadLeast'. -/
def dyadLeastCard : Claim7 := { stood := { row := dyadLeastRow, standIns := [], harness := (true, "471e3b01561d6053b5c0235910e30f58cde8621c1e0763576127620d03cdf919"), looks := false }, kinds := [], alts := [], laidByText := true, laidKinds := [.data, .data, .data], laidTests := true, laidLooks := .later }
def DyadLeastCardSaid : Prop := Claim7.holds Tryz.pinned (.plain (OpenSpec.ofChange dyadLeastSpec)) dyadLeastCard

/-- THE SECOND FORM's CARD OF 'cusplaw02.DyadOf'. -/
def dyadOfUptoCard : Claim7 := { stood := { row := dyadOfUptoRow, standIns := [], harness := (true, "471e3b01561d6053b5c0235910e30f58cde8621c1e0763576127620d03cdf919"), looks := false }, kinds := [], alts := [], laidByText := true, laidKinds := [.data, .data, .data], laidTests := true, laidLooks := .later }
def DyadOfUptoCardSaid : Prop := Claim7.holds Tryz.pinned (.plain (OpenSpec.upto dyadOfSpec)) dyadOfUptoCard

/-- THE SECOND FORM's CARD OF 'cusplaw02.DyadMakes'. -/
def dyadMakesUptoCard : Claim7 := { stood := { row := dyadMakesUptoRow, standIns := [], harness := (true, "471e3b01561d6053b5c0235910e30f58cde8621c1e0763576127620d03cdf919"), looks := false }, kinds := [], alts := [], laidByText := true, laidKinds := [.data, .data, .data], laidTests := true, laidLooks := .later }
def DyadMakesUptoCardSaid : Prop := Claim7.holds Tryz.pinned (.plain (OpenSpec.upto dyadMakesSpec)) dyadMakesUptoCard

/-- THE SECOND FORM's CARD OF 'cusplaw02.DyadRing'. -/
def dyadRingUptoCard : Claim7 := { stood := { row := dyadRingUptoRow, standIns := [], harness := (true, "471e3b01561d6053b5c0235910e30f58cde8621c1e0763576127620d03cdf919"), looks := false }, kinds := [], alts := [], laidByText := true, laidKinds := [.data, .data, .data], laidTests := true, laidLooks := .later }
def DyadRingUptoCardSaid : Prop := Claim7.holds Tryz.pinned (.plain (OpenSpec.upto dyadRingSpec)) dyadRingUptoCard

/-- THE SECOND FORM's CARD OF 'cusplaw02.DyadFloats'. -/
def dyadFloatsUptoCard : Claim7 := { stood := { row := dyadFloatsUptoRow, standIns := [], harness := (true, "471e3b01561d6053b5c0235910e30f58cde8621c1e0763576127620d03cdf919"), looks := false }, kinds := [], alts := [], laidByText := true, laidKinds := [.data, .data, .data], laidTests := true, laidLooks := .later }
def DyadFloatsUptoCardSaid : Prop := Claim7.holds Tryz.pinned (.plain (OpenSpec.upto dyadFloatsSpec)) dyadFloatsUptoCard

/-- THE SECOND FORM's CARD OF 'cusplaw02.DyadOrder'. -/
def dyadOrderUptoCard : Claim7 := { stood := { row := dyadOrderUptoRow, standIns := [], harness := (true, "471e3b01561d6053b5c0235910e30f58cde8621c1e0763576127620d03cdf919"), looks := false }, kinds := [], alts := [], laidByText := true, laidKinds := [.data, .data, .data], laidTests := true, laidLooks := .later }
def DyadOrderUptoCardSaid : Prop := Claim7.holds Tryz.pinned (.plain (OpenSpec.upto dyadOrderSpec)) dyadOrderUptoCard

/-- THE SECOND FORM's CARD OF 'cusplaw02.DyadLeast'. -/
def dyadLeastUptoCard : Claim7 := { stood := { row := dyadLeastUptoRow, standIns := [], harness := (true, "471e3b01561d6053b5c0235910e30f58cde8621c1e0763576127620d03cdf919"), looks := false }, kinds := [], alts := [], laidByText := true, laidKinds := [.data, .data, .data], laidTests := true, laidLooks := .later }
def DyadLeastUptoCardSaid : Prop := Claim7.holds Tryz.pinned (.plain (OpenSpec.upto dyadLeastSpec)) dyadLeastUptoCard
end Rows
end Go.Proofs.YtceoeiojoffnnaaGreatDoor
