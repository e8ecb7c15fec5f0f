/-
  DERIVED. GIVEN WITH THE SEED: THE CARDS: each row of YtnalhfcpcpondaaGreatDoorRows.lean that lists a variable, with what it lists TIED to the program's text (the seventh form; the later family's looks); each row that meets fmt, with fmt's text TOLD by the authors' own Lean function (tested against real Go, not proved from fmt's source: count such statements apart). THE CARD IS WHAT COUNTS. Prove the row's statement (the work); the ties are given (YtnalhfcpcpondaaGreatDoorTie.lean); close each card by the builder's one call (the guide's Derived/Test/ToyasCard.lean, 'card_holds'). Laid BY PROGRAM, IN A SANDBOX (cutbox-door.mjs). By AI agents, Wed Nov 11 2026. No macro, syntax, notation, axiom, sorry.
-/
import Derived.Test.YtnalhfcpcpondaaGreatDoorRows
import GoSem.ClaimSeven
namespace Go.Proofs.YtnalhfcpcpondaaGreatDoor
namespace Rows

/-- THE TIED CARD OF 'cusplaw08.SpanAsks'. -/
def spanAsksCard : Claim7 := { stood := { row := spanAsksRow, standIns := [], harness := (true, "5e234cd99837344a115b8d9bbeb4c8a76af9e55987c7d1245166cc611da03d31"), looks := false }, kinds := [], alts := [], laidByText := true, laidKinds := [.data, .data], laidTests := true, laidLooks := .later }
def SpanAsksCardSaid : Prop := Claim7.holds Tryz.pinned (.plain (OpenSpec.ofChange spanAsksSpec)) spanAsksCard

/-- THE TIED CARD OF 'cusplaw08.SpanSums'. -/
def spanSumsCard : Claim7 := { stood := { row := spanSumsRow, standIns := [], harness := (true, "5e234cd99837344a115b8d9bbeb4c8a76af9e55987c7d1245166cc611da03d31"), looks := false }, kinds := [], alts := [], laidByText := true, laidKinds := [.data, .data], laidTests := true, laidLooks := .later }
def SpanSumsCardSaid : Prop := Claim7.holds Tryz.pinned (.plain (OpenSpec.ofChange spanSumsSpec)) spanSumsCard

/-- THE TIED CARD OF 'cusplaw08.SpanProducts'. -/
def spanProductsCard : Claim7 := { stood := { row := spanProductsRow, standIns := [], harness := (true, "5e234cd99837344a115b8d9bbeb4c8a76af9e55987c7d1245166cc611da03d31"), looks := false }, kinds := [], alts := [], laidByText := true, laidKinds := [.data, .data], laidTests := true, laidLooks := .later }
def SpanProductsCardSaid : Prop := Claim7.holds Tryz.pinned (.plain (OpenSpec.ofChange spanProductsSpec)) spanProductsCard

/-- THE TIED CARD OF 'cusplaw08.SpanPowers'. -/
def spanPowersCard : Claim7 := { stood := { row := spanPowersRow, standIns := [], harness := (true, "5e234cd99837344a115b8d9bbeb4c8a76af9e55987c7d1245166cc611da03d31"), looks := false }, kinds := [], alts := [], laidByText := true, laidKinds := [.data, .data], laidTests := true, laidLooks := .later }
def SpanPowersCardSaid : Prop := Claim7.holds Tryz.pinned (.plain (OpenSpec.ofChange spanPowersSpec)) spanPowersCard

/-- THE TIED CARD OF 'cusplaw08.SpanMiddles'. -/
def spanMiddlesCard : Claim7 := { stood := { row := spanMiddlesRow, standIns := [], harness := (true, "5e234cd99837344a115b8d9bbeb4c8a76af9e55987c7d1245166cc611da03d31"), looks := false }, kinds := [], alts := [], laidByText := true, laidKinds := [.data, .data], laidTests := true, laidLooks := .later }
def SpanMiddlesCardSaid : Prop := Claim7.holds Tryz.pinned (.plain (OpenSpec.ofChange spanMiddlesSpec)) spanMiddlesCard

/-- THE SECOND FORM's CARD OF 'cusplaw08.SpanAsks'. -/
def spanAsksUptoCard : Claim7 := { stood := { row := spanAsksUptoRow, standIns := [], harness := (true, "5e234cd99837344a115b8d9bbeb4c8a76af9e55987c7d1245166cc611da03d31"), looks := false }, kinds := [], alts := [], laidByText := true, laidKinds := [.data, .data], laidTests := true, laidLooks := .later }
def SpanAsksUptoCardSaid : Prop := Claim7.holds Tryz.pinned (.plain (OpenSpec.upto spanAsksSpec)) spanAsksUptoCard

/-- THE SECOND FORM's CARD OF 'cusplaw08.SpanSums'. -/
def spanSumsUptoCard : Claim7 := { stood := { row := spanSumsUptoRow, standIns := [], harness := (true, "5e234cd99837344a115b8d9bbeb4c8a76af9e55987c7d1245166cc611da03d31"), looks := false }, kinds := [], alts := [], laidByText := true, laidKinds := [.data, .data], laidTests := true, laidLooks := .later }
def SpanSumsUptoCardSaid : Prop := Claim7.holds Tryz.pinned (.plain (OpenSpec.upto spanSumsSpec)) spanSumsUptoCard

/-- THE SECOND FORM's CARD OF 'cusplaw08.SpanProducts'. -/
def spanProductsUptoCard : Claim7 := { stood := { row := spanProductsUptoRow, standIns := [], harness := (true, "5e234cd99837344a115b8d9bbeb4c8a76af9e55987c7d1245166cc611da03d31"), looks := false }, kinds := [], alts := [], laidByText := true, laidKinds := [.data, .data], laidTests := true, laidLooks := .later }
def SpanProductsUptoCardSaid : Prop := Claim7.holds Tryz.pinned (.plain (OpenSpec.upto spanProductsSpec)) spanProductsUptoCard

/-- THE SECOND FORM's CARD OF 'cusplaw08.SpanPowers'. -/
def spanPowersUptoCard : Claim7 := { stood := { row := spanPowersUptoRow, standIns := [], harness := (true, "5e234cd99837344a115b8d9bbeb4c8a76af9e55987c7d1245166cc611da03d31"), looks := false }, kinds := [], alts := [], laidByText := true, laidKinds := [.data, .data], laidTests := true, laidLooks := .later }
def SpanPowersUptoCardSaid : Prop := Claim7.holds Tryz.pinned (.plain (OpenSpec.upto spanPowersSpec)) spanPowersUptoCard

/-- THE SECOND FORM's CARD OF 'cusplaw08.SpanMiddles'. -/
def spanMiddlesUptoCard : Claim7 := { stood := { row := spanMiddlesUptoRow, standIns := [], harness := (true, "5e234cd99837344a115b8d9bbeb4c8a76af9e55987c7d1245166cc611da03d31"), looks := false }, kinds := [], alts := [], laidByText := true, laidKinds := [.data, .data], laidTests := true, laidLooks := .later }
def SpanMiddlesUptoCardSaid : Prop := Claim7.holds Tryz.pinned (.plain (OpenSpec.upto spanMiddlesSpec)) spanMiddlesUptoCard
end Rows
end Go.Proofs.YtnalhfcpcpondaaGreatDoor
