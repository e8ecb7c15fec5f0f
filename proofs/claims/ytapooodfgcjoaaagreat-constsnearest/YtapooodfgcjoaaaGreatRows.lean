/-
  No cell of these rows narrows 'for every input' (looked for: loops, veiled, ifaces, maps, wideKeys, modest, calm, conditions, laid).
  DERIVED. THE GIVEN ROWS OF THIS SEAT. 4 by the template 'for every input the law returns true; each argument reads behind the call as it read before'; 0 by the template 'total and deterministic' (their statements: YtapooodfgcjoaaaGreatTotals.lean).
  GIVEN WITH THE SEED: the statements are not yours to turn. If you find one false, say at which input.
  Laid BY PROGRAM, IN A SANDBOX (cutbox-rows.mjs): the forced cells as the released guide's own fill.sh prints them over the translation f3cfa67c66008598… (all of the seat's roots in one cut). By AI agents, Wed Nov 11 2026. No macro, syntax, notation, axiom, sorry.
-/
import Derived.Test.YtapooodfgcjoaaaGreatChecked
import GoSem.Claim
import GoSem.ClaimJoined
import GoSem.ClaimMapViews
import Derived.JoinedTies
import Derived.KernelRfl
namespace Go.Proofs.YtapooodfgcjoaaaGreat
/- THE CELL 'sum', in the pinned program and in every row, IS THE sha256 OF THE DUMP (.gsa) THAT YtapooodfgcjoaaaGreatProg.lean LOADS. Nothing in Lean hashes anything: it is a label: what it is worth is what the hold of that sum in a sandbox is worth. -/
noncomputable def Tryz.pinned : Pinned := { name := "ytapooodfgcjoaaagreat", sum := "f3cfa67c66008598c48c00dd6359415d38e04d072faf6873b4c0a637eeec3f9c", checked := Tryz.checked }
namespace Rows
def none {H : Type} : Left H := { results := [], args := [] }

/-- 'cusplaw09.ConstsTight': WHATEVER THE INPUT: true; the input reads as it did. -/
def constsTightSpec : ChangeSpec := { name := "constsTight", fn := fun _ => fun
  | [d1, d2] => { results := [.lit (.bool true)], args := [d1, d2] }
  | _ => none }
def constsTightRow : OpenClaim := { program := "ytapooodfgcjoaaagreat", sum := "f3cfa67c66008598c48c00dd6359415d38e04d072faf6873b4c0a637eeec3f9c", func := "cusp/cusplaw09.ConstsTight", spec := "constsTight", inPlace := ["math.Float64bits", "math.Float64frombits"], unfollowed := true, recurses := true, apart := false }
def ConstsTightSaid : Prop := constsTightRow.holds Tryz.pinned (OpenSpec.ofChange constsTightSpec)

/-- ITS FALSE NEIGHBOUR: 'it returns false'. Refute it at one input. -/
def constsTightWrong : ChangeSpec := { name := "constsTight", fn := fun _ => fun
  | [d1, d2] => { results := [.lit (.bool false)], args := [d1, d2] }
  | _ => none }
def ConstsTightWrongFalsely : Prop := constsTightRow.holds Tryz.pinned (OpenSpec.ofChange constsTightWrong)

/-- 'cusplaw09.ConstsDigits': WHATEVER THE INPUT: true; the input reads as it did. -/
def constsDigitsSpec : ChangeSpec := { name := "constsDigits", fn := fun _ => fun
  | [d1, d2] => { results := [.lit (.bool true)], args := [d1, d2] }
  | _ => none }
def constsDigitsRow : OpenClaim := { program := "ytapooodfgcjoaaagreat", sum := "f3cfa67c66008598c48c00dd6359415d38e04d072faf6873b4c0a637eeec3f9c", func := "cusp/cusplaw09.ConstsDigits", spec := "constsDigits", inPlace := ["math.Float64bits", "math.Float64frombits"], unfollowed := true, recurses := true, apart := false }
def ConstsDigitsSaid : Prop := constsDigitsRow.holds Tryz.pinned (OpenSpec.ofChange constsDigitsSpec)

/-- ITS FALSE NEIGHBOUR: 'it returns false'. Refute it at one input. -/
def constsDigitsWrong : ChangeSpec := { name := "constsDigits", fn := fun _ => fun
  | [d1, d2] => { results := [.lit (.bool false)], args := [d1, d2] }
  | _ => none }
def ConstsDigitsWrongFalsely : Prop := constsDigitsRow.holds Tryz.pinned (OpenSpec.ofChange constsDigitsWrong)

/-- 'cusplaw09.ConstsBest': WHATEVER THE INPUT: true; the input reads as it did. -/
def constsBestSpec : ChangeSpec := { name := "constsBest", fn := fun _ => fun
  | [d1, d2] => { results := [.lit (.bool true)], args := [d1, d2] }
  | _ => none }
def constsBestRow : OpenClaim := { program := "ytapooodfgcjoaaagreat", sum := "f3cfa67c66008598c48c00dd6359415d38e04d072faf6873b4c0a637eeec3f9c", func := "cusp/cusplaw09.ConstsBest", spec := "constsBest", inPlace := ["math.Float64bits", "math.Float64frombits"], unfollowed := true, recurses := true, apart := false }
def ConstsBestSaid : Prop := constsBestRow.holds Tryz.pinned (OpenSpec.ofChange constsBestSpec)

/-- ITS FALSE NEIGHBOUR: 'it returns false'. Refute it at one input. -/
def constsBestWrong : ChangeSpec := { name := "constsBest", fn := fun _ => fun
  | [d1, d2] => { results := [.lit (.bool false)], args := [d1, d2] }
  | _ => none }
def ConstsBestWrongFalsely : Prop := constsBestRow.holds Tryz.pinned (OpenSpec.ofChange constsBestWrong)

/-- 'cusplaw09.ConstsNearest': WHATEVER THE INPUT: true; the input reads as it did. -/
def constsNearestSpec : ChangeSpec := { name := "constsNearest", fn := fun _ => fun
  | [d1, d2, d3] => { results := [.lit (.bool true)], args := [d1, d2, d3] }
  | _ => none }
def constsNearestRow : OpenClaim := { program := "ytapooodfgcjoaaagreat", sum := "f3cfa67c66008598c48c00dd6359415d38e04d072faf6873b4c0a637eeec3f9c", func := "cusp/cusplaw09.ConstsNearest", spec := "constsNearest", inPlace := ["math.Float64bits", "math.Float64frombits"], unfollowed := true, recurses := true, apart := false }
def ConstsNearestSaid : Prop := constsNearestRow.holds Tryz.pinned (OpenSpec.ofChange constsNearestSpec)

/-- ITS FALSE NEIGHBOUR: 'it returns false'. Refute it at one input. -/
def constsNearestWrong : ChangeSpec := { name := "constsNearest", fn := fun _ => fun
  | [d1, d2, d3] => { results := [.lit (.bool false)], args := [d1, d2, d3] }
  | _ => none }
def ConstsNearestWrongFalsely : Prop := constsNearestRow.holds Tryz.pinned (OpenSpec.ofChange constsNearestWrong)

/- THE SECOND FORM. 'bulk': how many values and letters a reading holds, each counted each time it is reached (what is shared counts as often as it is met; a slice's spare places count too). A statement '..UptoSaid' is the law's where the arguments, and the package variables that the reading takes, are together of bulk at most 1048576: NARROWER than '..Said'. Prove '..Said' where nothing that the law and all that it calls make is longer than what came in: it says more and counts as full. Else prove '..UptoSaid'. A law counts once. -/
mutual
def uptoBulk {H : Type} : DataW H → Nat
  | .lit (.string bytes) => bytes.length + 1
  | .lit _ => 1
  | .nil => 1
  | .ptr d => uptoBulk d + 1
  | .slice elems spare => uptoBulkAll elems + uptoBulkAll spare + 1
  | .agg parts => uptoBulkAll parts + 1
  | .iface _ d => uptoBulk d + 1
  | .map entries => uptoBulkEntries entries + 1
  | .held _ => 1
def uptoBulkAll {H : Type} : List (DataW H) → Nat
  | [] => 0
  | d :: r => uptoBulk d + uptoBulkAll r
def uptoBulkEntries {H : Type} : List (Lit × DataW H) → Nat
  | [] => 0
  | x :: r => uptoBulkEntry x + uptoBulkEntries r
def uptoBulkEntry {H : Type} : Lit × DataW H → Nat
  | (.string bytes, d) => bytes.length + uptoBulk d + 1
  | (_, d) => uptoBulk d + 1
 end
def uptoSmall : (H : Type) → List (DataW H) → Bool := fun _ ds => decide (uptoBulkAll ds ≤ 1048576)
def OpenSpec.upto (s : _root_.Go.ChangeSpec) : _root_.Go.OpenSpec := { _root_.Go.OpenSpec.ofChange s with cond := some uptoSmall }

/-- 'cusplaw09.ConstsTight', WHERE WHAT IT READS IS OF BULK AT MOST 1048576: true; the input reads as it did. -/
def constsTightUptoRow : OpenClaim := { program := "ytapooodfgcjoaaagreat", sum := "f3cfa67c66008598c48c00dd6359415d38e04d072faf6873b4c0a637eeec3f9c", func := "cusp/cusplaw09.ConstsTight", spec := "constsTight", inPlace := ["math.Float64bits", "math.Float64frombits"], unfollowed := true, recurses := true, apart := false, narrowed := true }
def ConstsTightUptoSaid : Prop := constsTightUptoRow.holds Tryz.pinned (OpenSpec.upto constsTightSpec)

/-- 'cusplaw09.ConstsDigits', WHERE WHAT IT READS IS OF BULK AT MOST 1048576: true; the input reads as it did. -/
def constsDigitsUptoRow : OpenClaim := { program := "ytapooodfgcjoaaagreat", sum := "f3cfa67c66008598c48c00dd6359415d38e04d072faf6873b4c0a637eeec3f9c", func := "cusp/cusplaw09.ConstsDigits", spec := "constsDigits", inPlace := ["math.Float64bits", "math.Float64frombits"], unfollowed := true, recurses := true, apart := false, narrowed := true }
def ConstsDigitsUptoSaid : Prop := constsDigitsUptoRow.holds Tryz.pinned (OpenSpec.upto constsDigitsSpec)

/-- 'cusplaw09.ConstsBest', WHERE WHAT IT READS IS OF BULK AT MOST 1048576: true; the input reads as it did. -/
def constsBestUptoRow : OpenClaim := { program := "ytapooodfgcjoaaagreat", sum := "f3cfa67c66008598c48c00dd6359415d38e04d072faf6873b4c0a637eeec3f9c", func := "cusp/cusplaw09.ConstsBest", spec := "constsBest", inPlace := ["math.Float64bits", "math.Float64frombits"], unfollowed := true, recurses := true, apart := false, narrowed := true }
def ConstsBestUptoSaid : Prop := constsBestUptoRow.holds Tryz.pinned (OpenSpec.upto constsBestSpec)

/-- 'cusplaw09.ConstsNearest', WHERE WHAT IT READS IS OF BULK AT MOST 1048576: true; the input reads as it did. -/
def constsNearestUptoRow : OpenClaim := { program := "ytapooodfgcjoaaagreat", sum := "f3cfa67c66008598c48c00dd6359415d38e04d072faf6873b4c0a637eeec3f9c", func := "cusp/cusplaw09.ConstsNearest", spec := "constsNearest", inPlace := ["math.Float64bits", "math.Float64frombits"], unfollowed := true, recurses := true, apart := false, narrowed := true }
def ConstsNearestUptoSaid : Prop := constsNearestUptoRow.holds Tryz.pinned (OpenSpec.upto constsNearestSpec)

end Rows
end Go.Proofs.YtapooodfgcjoaaaGreat
