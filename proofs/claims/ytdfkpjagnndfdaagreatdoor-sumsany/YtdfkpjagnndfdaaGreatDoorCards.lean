/-
  DERIVED. GIVEN WITH THE SEED: THE CARDS: each row of YtdfkpjagnndfdaaGreatDoorRows.lean that lists a variable, with what it lists TIED to the program's text (the seventh form; the later family's looks); each row that meets fmt, with fmt's text TOLD by the authors' own Lean function (tested against real Go, not proved from fmt's source: count such statements apart). THE CARD IS WHAT COUNTS. Prove the row's statement (the work); the ties are given (YtdfkpjagnndfdaaGreatDoorTie.lean); close each card by the builder's one call (the guide's Derived/Test/ToyasCard.lean, 'card_holds'). Laid BY PROGRAM, IN A SANDBOX (cutbox-door.mjs). By AI agents, Wed Nov 11 2026. No macro, syntax, notation, axiom, sorry.
-/
import Derived.Test.YtdfkpjagnndfdaaGreatDoorRows
import GoSem.ClaimSeven
namespace Go.Proofs.YtdfkpjagnndfdaaGreatDoor
namespace Rows

/-- THE TIED CARD OF 'cusplaw05.SumsAny'. -/
def sumsAnyCard : Claim7 := { stood := { row := sumsAnyRow, standIns := [], harness := (true, "0cd7bc7ece36126cf83de4590e01f372d2ed41b341a74b6aff581dd9b2fd227a"), looks := false }, kinds := [], alts := [], laidByText := true, laidKinds := [.data, .data], laidTests := true, laidLooks := .later }
def SumsAnyCardSaid : Prop := Claim7.holds Tryz.pinned (.plain (OpenSpec.ofChange sumsAnySpec)) sumsAnyCard

/-- THE SECOND FORM's CARD OF 'cusplaw05.SumsAny'. -/
def sumsAnyUptoCard : Claim7 := { stood := { row := sumsAnyUptoRow, standIns := [], harness := (true, "0cd7bc7ece36126cf83de4590e01f372d2ed41b341a74b6aff581dd9b2fd227a"), looks := false }, kinds := [], alts := [], laidByText := true, laidKinds := [.data, .data], laidTests := true, laidLooks := .later }
def SumsAnyUptoCardSaid : Prop := Claim7.holds Tryz.pinned (.plain (OpenSpec.upto sumsAnySpec)) sumsAnyUptoCard
end Rows
end Go.Proofs.YtdfkpjagnndfdaaGreatDoor
