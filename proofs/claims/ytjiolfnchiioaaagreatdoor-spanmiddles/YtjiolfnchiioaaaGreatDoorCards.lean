/-
  DERIVED. GIVEN WITH THE SEED: THE CARDS: each row of YtjiolfnchiioaaaGreatDoorRows.lean that lists a variable, with what it lists TIED to the program's text (the seventh form; the later family's looks); each row that meets fmt, with fmt's text TOLD by the authors' own Lean function (tested against real Go, not proved from fmt's source: count such statements apart). THE CARD IS WHAT COUNTS. Prove the row's statement (the work); the ties are given (YtjiolfnchiioaaaGreatDoorTie.lean); close each card by the builder's one call (the guide's Derived/Test/ToyasCard.lean, 'card_holds'). Laid BY PROGRAM, IN A SANDBOX (cutbox-door.mjs). By AI agents, Wed Nov 11 2026. No macro, syntax, notation, axiom, sorry.
-/
import Derived.Test.YtjiolfnchiioaaaGreatDoorRows
import GoSem.ClaimSeven
namespace Go.Proofs.YtjiolfnchiioaaaGreatDoor
namespace Rows

/-- THE TIED CARD OF 'cusplaw08.SpanSums'. -/
def spanSumsCard : Claim7 := { stood := { row := spanSumsRow, standIns := [], harness := (true, "240ecc9fa5ebe40179fde89c02cb1c8a59be628734e4e6be56b4be1c08a22118"), looks := false }, kinds := [], alts := [], laidByText := true, laidKinds := [.data, .data], laidTests := true, laidLooks := .later }
def SpanSumsCardSaid : Prop := Claim7.holds Tryz.pinned (.plain (OpenSpec.ofChange spanSumsSpec)) spanSumsCard

/-- THE TIED CARD OF 'cusplaw08.SpanMiddles'. -/
def spanMiddlesCard : Claim7 := { stood := { row := spanMiddlesRow, standIns := [], harness := (true, "240ecc9fa5ebe40179fde89c02cb1c8a59be628734e4e6be56b4be1c08a22118"), looks := false }, kinds := [], alts := [], laidByText := true, laidKinds := [.data, .data], laidTests := true, laidLooks := .later }
def SpanMiddlesCardSaid : Prop := Claim7.holds Tryz.pinned (.plain (OpenSpec.ofChange spanMiddlesSpec)) spanMiddlesCard

/-- THE SECOND FORM's CARD OF 'cusplaw08.SpanSums'. -/
def spanSumsUptoCard : Claim7 := { stood := { row := spanSumsUptoRow, standIns := [], harness := (true, "240ecc9fa5ebe40179fde89c02cb1c8a59be628734e4e6be56b4be1c08a22118"), looks := false }, kinds := [], alts := [], laidByText := true, laidKinds := [.data, .data], laidTests := true, laidLooks := .later }
def SpanSumsUptoCardSaid : Prop := Claim7.holds Tryz.pinned (.plain (OpenSpec.upto spanSumsSpec)) spanSumsUptoCard

/-- THE SECOND FORM's CARD OF 'cusplaw08.SpanMiddles'. -/
def spanMiddlesUptoCard : Claim7 := { stood := { row := spanMiddlesUptoRow, standIns := [], harness := (true, "240ecc9fa5ebe40179fde89c02cb1c8a59be628734e4e6be56b4be1c08a22118"), looks := false }, kinds := [], alts := [], laidByText := true, laidKinds := [.data, .data], laidTests := true, laidLooks := .later }
def SpanMiddlesUptoCardSaid : Prop := Claim7.holds Tryz.pinned (.plain (OpenSpec.upto spanMiddlesSpec)) spanMiddlesUptoCard
end Rows
end Go.Proofs.YtjiolfnchiioaaaGreatDoor
