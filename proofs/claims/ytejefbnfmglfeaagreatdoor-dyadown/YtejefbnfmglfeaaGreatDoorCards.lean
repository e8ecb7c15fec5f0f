/-
  DERIVED. GIVEN WITH THE SEED: THE CARDS: each row of YtejefbnfmglfeaaGreatDoorRows.lean that lists a variable, with what it lists TIED to the program's text (the seventh form; the later family's looks); each row that meets fmt, with fmt's text TOLD by the authors' own Lean function (tested against real Go, not proved from fmt's source: count such statements apart). THE CARD IS WHAT COUNTS. Prove the row's statement (the work); the ties are given (YtejefbnfmglfeaaGreatDoorTie.lean); close each card by the builder's one call (the guide's Derived/Test/ToyasCard.lean, 'card_holds'). Laid BY PROGRAM, IN A SANDBOX (cutbox-door.mjs). By AI agents, Wed Nov 11 2026. No macro, syntax, notation, axiom, sorry.
-/
import Derived.Test.YtejefbnfmglfeaaGreatDoorRows
import GoSem.ClaimSeven
namespace Go.Proofs.YtejefbnfmglfeaaGreatDoor
namespace Rows

/-- THE TIED CARD OF 'cusplaw02.DyadAsks'. -/
def dyadAsksCard : Claim7 := { stood := { row := dyadAsksRow, standIns := [], harness := (true, "c85aec3872345a59077ea51c9a06459e5e67365347ac231b372109dc9ef49a28"), looks := false }, kinds := [], alts := [], laidByText := true, laidKinds := [.data, .data, .data], laidTests := true, laidLooks := .later }
def DyadAsksCardSaid : Prop := Claim7.holds Tryz.pinned (.plain (OpenSpec.ofChange dyadAsksSpec)) dyadAsksCard

/-- THE TIED CARD OF 'cusplaw02.DyadSums'. -/
def dyadSumsCard : Claim7 := { stood := { row := dyadSumsRow, standIns := [], harness := (true, "c85aec3872345a59077ea51c9a06459e5e67365347ac231b372109dc9ef49a28"), looks := false }, kinds := [], alts := [], laidByText := true, laidKinds := [.data, .data, .data], laidTests := true, laidLooks := .later }
def DyadSumsCardSaid : Prop := Claim7.holds Tryz.pinned (.plain (OpenSpec.ofChange dyadSumsSpec)) dyadSumsCard

/-- THE TIED CARD OF 'cusplaw02.DyadRing'. -/
def dyadRingCard : Claim7 := { stood := { row := dyadRingRow, standIns := [], harness := (true, "c85aec3872345a59077ea51c9a06459e5e67365347ac231b372109dc9ef49a28"), looks := false }, kinds := [], alts := [], laidByText := true, laidKinds := [.data, .data, .data], laidTests := true, laidLooks := .later }
def DyadRingCardSaid : Prop := Claim7.holds Tryz.pinned (.plain (OpenSpec.ofChange dyadRingSpec)) dyadRingCard

/-- THE TIED CARD OF 'cusplaw02.DyadOrder'. -/
def dyadOrderCard : Claim7 := { stood := { row := dyadOrderRow, standIns := [], harness := (true, "c85aec3872345a59077ea51c9a06459e5e67365347ac231b372109dc9ef49a28"), looks := false }, kinds := [], alts := [], laidByText := true, laidKinds := [.data, .data, .data], laidTests := true, laidLooks := .later }
def DyadOrderCardSaid : Prop := Claim7.holds Tryz.pinned (.plain (OpenSpec.ofChange dyadOrderSpec)) dyadOrderCard

/-- THE TIED CARD OF 'cusplaw02.DyadLeast'. -/
def dyadLeastCard : Claim7 := { stood := { row := dyadLeastRow, standIns := [], harness := (true, "c85aec3872345a59077ea51c9a06459e5e67365347ac231b372109dc9ef49a28"), looks := false }, kinds := [], alts := [], laidByText := true, laidKinds := [.data, .data, .data], laidTests := true, laidLooks := .later }
def DyadLeastCardSaid : Prop := Claim7.holds Tryz.pinned (.plain (OpenSpec.ofChange dyadLeastSpec)) dyadLeastCard

/-- THE TIED CARD OF 'cusplaw02.DyadOwn'. -/
def dyadOwnCard : Claim7 := { stood := { row := dyadOwnRow, standIns := [], harness := (true, "c85aec3872345a59077ea51c9a06459e5e67365347ac231b372109dc9ef49a28"), looks := false }, kinds := [], alts := [], laidByText := true, laidKinds := [.data, .data, .data], laidTests := true, laidLooks := .later }
def DyadOwnCardSaid : Prop := Claim7.holds Tryz.pinned (.plain (OpenSpec.ofChange dyadOwnSpec)) dyadOwnCard

/-- THE SECOND FORM's CARD OF 'cusplaw02.DyadAsks'. -/
def dyadAsksUptoCard : Claim7 := { stood := { row := dyadAsksUptoRow, standIns := [], harness := (true, "c85aec3872345a59077ea51c9a06459e5e67365347ac231b372109dc9ef49a28"), looks := false }, kinds := [], alts := [], laidByText := true, laidKinds := [.data, .data, .data], laidTests := true, laidLooks := .later }
def DyadAsksUptoCardSaid : Prop := Claim7.holds Tryz.pinned (.plain (OpenSpec.upto dyadAsksSpec)) dyadAsksUptoCard

/-- THE SECOND FORM's CARD OF 'cusplaw02.DyadSums'. -/
def dyadSumsUptoCard : Claim7 := { stood := { row := dyadSumsUptoRow, standIns := [], harness := (true, "c85aec3872345a59077ea51c9a06459e5e67365347ac231b372109dc9ef49a28"), looks := false }, kinds := [], alts := [], laidByText := true, laidKinds := [.data, .data, .data], laidTests := true, laidLooks := .later }
def DyadSumsUptoCardSaid : Prop := Claim7.holds Tryz.pinned (.plain (OpenSpec.upto dyadSumsSpec)) dyadSumsUptoCard

/-- THE SECOND FORM's CARD OF 'cusplaw02.DyadRing'. -/
def dyadRingUptoCard : Claim7 := { stood := { row := dyadRingUptoRow, standIns := [], harness := (true, "c85aec3872345a59077ea51c9a06459e5e67365347ac231b372109dc9ef49a28"), looks := false }, kinds := [], alts := [], laidByText := true, laidKinds := [.data, .data, .data], laidTests := true, laidLooks := .later }
def DyadRingUptoCardSaid : Prop := Claim7.holds Tryz.pinned (.plain (OpenSpec.upto dyadRingSpec)) dyadRingUptoCard

/-- THE SECOND FORM's CARD OF 'cusplaw02.DyadOrder'. -/
def dyadOrderUptoCard : Claim7 := { stood := { row := dyadOrderUptoRow, standIns := [], harness := (true, "c85aec3872345a59077ea51c9a06459e5e67365347ac231b372109dc9ef49a28"), looks := false }, kinds := [], alts := [], laidByText := true, laidKinds := [.data, .data, .data], laidTests := true, laidLooks := .later }
def DyadOrderUptoCardSaid : Prop := Claim7.holds Tryz.pinned (.plain (OpenSpec.upto dyadOrderSpec)) dyadOrderUptoCard

/-- THE SECOND FORM's CARD OF 'cusplaw02.DyadLeast'. -/
def dyadLeastUptoCard : Claim7 := { stood := { row := dyadLeastUptoRow, standIns := [], harness := (true, "c85aec3872345a59077ea51c9a06459e5e67365347ac231b372109dc9ef49a28"), looks := false }, kinds := [], alts := [], laidByText := true, laidKinds := [.data, .data, .data], laidTests := true, laidLooks := .later }
def DyadLeastUptoCardSaid : Prop := Claim7.holds Tryz.pinned (.plain (OpenSpec.upto dyadLeastSpec)) dyadLeastUptoCard

/-- THE SECOND FORM's CARD OF 'cusplaw02.DyadOwn'. -/
def dyadOwnUptoCard : Claim7 := { stood := { row := dyadOwnUptoRow, standIns := [], harness := (true, "c85aec3872345a59077ea51c9a06459e5e67365347ac231b372109dc9ef49a28"), looks := false }, kinds := [], alts := [], laidByText := true, laidKinds := [.data, .data, .data], laidTests := true, laidLooks := .later }
def DyadOwnUptoCardSaid : Prop := Claim7.holds Tryz.pinned (.plain (OpenSpec.upto dyadOwnSpec)) dyadOwnUptoCard
end Rows
end Go.Proofs.YtejefbnfmglfeaaGreatDoor
