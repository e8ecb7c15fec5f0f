/-
  DERIVED. GIVEN WITH THE SEED: THE CARDS: each row of YtcoclopllbfjcaaGreatDoorRows.lean that lists a variable, with what it lists TIED to the program's text (the seventh form; the later family's looks); each row that meets fmt, with fmt's text TOLD by the authors' own Lean function (tested against real Go, not proved from fmt's source: count such statements apart). THE CARD IS WHAT COUNTS. Prove the row's statement (the work); the ties are given (YtcoclopllbfjcaaGreatDoorTie.lean); close each card by the builder's one call (the guide's Derived/Test/ToyasCard.lean, 'card_holds'). Laid BY PROGRAM, IN A SANDBOX (cutbox-door.mjs). By AI agents, Wed Nov 11 2026. No macro, syntax, notation, axiom, sorry.
-/
import Derived.Test.YtcoclopllbfjcaaGreatDoorRows
import GoSem.ClaimSeven
namespace Go.Proofs.YtcoclopllbfjcaaGreatDoor
namespace Rows

/-- THE TIED CARD OF 'cusplaw08.SpanProducts'. -/
def spanProductsCard : Claim7 := { stood := { row := spanProductsRow, standIns := [], harness := (true, "6da8fadab5947f6c3b25ddc55ab2f06926d1fbcb4cc8deb8df79316999ced488"), looks := false }, kinds := [], alts := [], laidByText := true, laidKinds := [.data, .data], laidTests := true, laidLooks := .later }
def SpanProductsCardSaid : Prop := Claim7.holds Tryz.pinned (.plain (OpenSpec.ofChange spanProductsSpec)) spanProductsCard

/-- THE TIED CARD OF 'cusplaw08.SpanPowers'. -/
def spanPowersCard : Claim7 := { stood := { row := spanPowersRow, standIns := [], harness := (true, "6da8fadab5947f6c3b25ddc55ab2f06926d1fbcb4cc8deb8df79316999ced488"), looks := false }, kinds := [], alts := [], laidByText := true, laidKinds := [.data, .data], laidTests := true, laidLooks := .later }
def SpanPowersCardSaid : Prop := Claim7.holds Tryz.pinned (.plain (OpenSpec.ofChange spanPowersSpec)) spanPowersCard

/-- THE TIED CARD OF 'cusplaw08.SpanWithin'. -/
def spanWithinCard : Claim7 := { stood := { row := spanWithinRow, standIns := [], harness := (true, "6da8fadab5947f6c3b25ddc55ab2f06926d1fbcb4cc8deb8df79316999ced488"), looks := false }, kinds := [], alts := [], laidByText := true, laidKinds := [.data, .data], laidTests := true, laidLooks := .later }
def SpanWithinCardSaid : Prop := Claim7.holds Tryz.pinned (.plain (OpenSpec.ofChange spanWithinSpec)) spanWithinCard

/-- THE TIED CARD OF 'cusplaw08.SpanPoints'. -/
def spanPointsCard : Claim7 := { stood := { row := spanPointsRow, standIns := [], harness := (true, "6da8fadab5947f6c3b25ddc55ab2f06926d1fbcb4cc8deb8df79316999ced488"), looks := false }, kinds := [], alts := [], laidByText := true, laidKinds := [.data, .data], laidTests := true, laidLooks := .later }
def SpanPointsCardSaid : Prop := Claim7.holds Tryz.pinned (.plain (OpenSpec.ofChange spanPointsSpec)) spanPointsCard

/-- THE TIED CARD OF 'cusplaw08.SpanLaws'. -/
def spanLawsCard : Claim7 := { stood := { row := spanLawsRow, standIns := [], harness := (true, "6da8fadab5947f6c3b25ddc55ab2f06926d1fbcb4cc8deb8df79316999ced488"), looks := false }, kinds := [], alts := [], laidByText := true, laidKinds := [.data, .data], laidTests := true, laidLooks := .later }
def SpanLawsCardSaid : Prop := Claim7.holds Tryz.pinned (.plain (OpenSpec.ofChange spanLawsSpec)) spanLawsCard

/-- THE SECOND FORM's CARD OF 'cusplaw08.SpanProducts'. -/
def spanProductsUptoCard : Claim7 := { stood := { row := spanProductsUptoRow, standIns := [], harness := (true, "6da8fadab5947f6c3b25ddc55ab2f06926d1fbcb4cc8deb8df79316999ced488"), looks := false }, kinds := [], alts := [], laidByText := true, laidKinds := [.data, .data], laidTests := true, laidLooks := .later }
def SpanProductsUptoCardSaid : Prop := Claim7.holds Tryz.pinned (.plain (OpenSpec.upto spanProductsSpec)) spanProductsUptoCard

/-- THE SECOND FORM's CARD OF 'cusplaw08.SpanPowers'. -/
def spanPowersUptoCard : Claim7 := { stood := { row := spanPowersUptoRow, standIns := [], harness := (true, "6da8fadab5947f6c3b25ddc55ab2f06926d1fbcb4cc8deb8df79316999ced488"), looks := false }, kinds := [], alts := [], laidByText := true, laidKinds := [.data, .data], laidTests := true, laidLooks := .later }
def SpanPowersUptoCardSaid : Prop := Claim7.holds Tryz.pinned (.plain (OpenSpec.upto spanPowersSpec)) spanPowersUptoCard

/-- THE SECOND FORM's CARD OF 'cusplaw08.SpanWithin'. -/
def spanWithinUptoCard : Claim7 := { stood := { row := spanWithinUptoRow, standIns := [], harness := (true, "6da8fadab5947f6c3b25ddc55ab2f06926d1fbcb4cc8deb8df79316999ced488"), looks := false }, kinds := [], alts := [], laidByText := true, laidKinds := [.data, .data], laidTests := true, laidLooks := .later }
def SpanWithinUptoCardSaid : Prop := Claim7.holds Tryz.pinned (.plain (OpenSpec.upto spanWithinSpec)) spanWithinUptoCard

/-- THE SECOND FORM's CARD OF 'cusplaw08.SpanPoints'. -/
def spanPointsUptoCard : Claim7 := { stood := { row := spanPointsUptoRow, standIns := [], harness := (true, "6da8fadab5947f6c3b25ddc55ab2f06926d1fbcb4cc8deb8df79316999ced488"), looks := false }, kinds := [], alts := [], laidByText := true, laidKinds := [.data, .data], laidTests := true, laidLooks := .later }
def SpanPointsUptoCardSaid : Prop := Claim7.holds Tryz.pinned (.plain (OpenSpec.upto spanPointsSpec)) spanPointsUptoCard

/-- THE SECOND FORM's CARD OF 'cusplaw08.SpanLaws'. -/
def spanLawsUptoCard : Claim7 := { stood := { row := spanLawsUptoRow, standIns := [], harness := (true, "6da8fadab5947f6c3b25ddc55ab2f06926d1fbcb4cc8deb8df79316999ced488"), looks := false }, kinds := [], alts := [], laidByText := true, laidKinds := [.data, .data], laidTests := true, laidLooks := .later }
def SpanLawsUptoCardSaid : Prop := Claim7.holds Tryz.pinned (.plain (OpenSpec.upto spanLawsSpec)) spanLawsUptoCard
end Rows
end Go.Proofs.YtcoclopllbfjcaaGreatDoor
