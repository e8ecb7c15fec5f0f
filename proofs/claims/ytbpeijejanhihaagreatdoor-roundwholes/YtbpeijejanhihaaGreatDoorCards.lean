/-
  DERIVED. GIVEN WITH THE SEED: THE CARDS: each row of YtbpeijejanhihaaGreatDoorRows.lean that lists a variable, with what it lists TIED to the program's text (the seventh form; the later family's looks); each row that meets fmt, with fmt's text TOLD by the authors' own Lean function (tested against real Go, not proved from fmt's source: count such statements apart). THE CARD IS WHAT COUNTS. Prove the row's statement (the work); the ties are given (YtbpeijejanhihaaGreatDoorTie.lean); close each card by the builder's one call (the guide's Derived/Test/ToyasCard.lean, 'card_holds'). Laid BY PROGRAM, IN A SANDBOX (cutbox-door.mjs). By AI agents, Wed Nov 11 2026. No macro, syntax, notation, axiom, sorry.
-/
import Derived.Test.YtbpeijejanhihaaGreatDoorRows
import GoSem.ClaimSeven
namespace Go.Proofs.YtbpeijejanhihaaGreatDoor
namespace Rows

/-- THE TIED CARD OF 'cusplaw03.RoundWholes'. -/
def roundWholesCard : Claim7 := { stood := { row := roundWholesRow, standIns := [], harness := (true, "55a63aaf9dfc61b41b8dbcb5aeb58ab21cf5f083502f985ff30767fc09cd4447"), looks := false }, kinds := [], alts := [], laidByText := true, laidKinds := [.data, .data], laidTests := true, laidLooks := .later }
def RoundWholesCardSaid : Prop := Claim7.holds Tryz.pinned (.plain (OpenSpec.ofChange roundWholesSpec)) roundWholesCard

/-- THE SECOND FORM's CARD OF 'cusplaw03.RoundWholes'. -/
def roundWholesUptoCard : Claim7 := { stood := { row := roundWholesUptoRow, standIns := [], harness := (true, "55a63aaf9dfc61b41b8dbcb5aeb58ab21cf5f083502f985ff30767fc09cd4447"), looks := false }, kinds := [], alts := [], laidByText := true, laidKinds := [.data, .data], laidTests := true, laidLooks := .later }
def RoundWholesUptoCardSaid : Prop := Claim7.holds Tryz.pinned (.plain (OpenSpec.upto roundWholesSpec)) roundWholesUptoCard
end Rows
end Go.Proofs.YtbpeijejanhihaaGreatDoor
