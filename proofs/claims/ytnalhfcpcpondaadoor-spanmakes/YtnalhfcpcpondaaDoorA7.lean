/- Own work: contracts of the program's functions, part 7: DV1 RV1 DV2 DV3 RV2 DV4 RV3 RV4 RW2 RW3 RW4 RW5 RW6 RW7 RW8 RW9 RX1 W49 RX2 RX3 W50 L16 L10 L17 L14 W51 W52 FM FM2 F1 F6 F7 FM3 L6 L8 FM4 FM5 RT0 RT1 RT3 RT4 RT5 RT6 RT7 RY1 RY2 RY3 RY4 FM6 FM7 FM8 RY5 SA7 SA8 SA9 UA1 UA2 UA3 UA4 UA5 UA6 UA7 SB1 SB2 SB3. -/
import Derived.Test.YtnalhfcpcpondaaDoorA2
import Derived.Test.YtnalhfcpcpondaaDoorA6
import Derived.Deep.CutBlock
import Derived.Test.YtnalhfcpcpondaaDoorA5
import Derived.Test.YtnalhfcpcpondaaDoorA3
import Derived.Test.YtnalhfcpcpondaaDoorA4
import Derived.Test.YtnalhfcpcpondaaDoorA1
import Derived.RangeFuncNested
import Derived.RangeFuncBound
import Derived.RangeFuncCalls
import Derived.RangeFuncLeaves
import Derived.Shelf.Abstract
import Derived.Shelf.RegionOpen
import Derived.WalkKit
import Derived.OwnWalkIn
import Derived.TacticsInMore
import Derived.LoopNIn
import Derived.LoopIn

/- The document's long division: how its guesses come to the right digit. -/
namespace Go.Proofs.YtnalhfcpcpondaaDoor
set_option linter.unusedVariables false
set_option linter.unusedSimpArgs false

/-- a guess too high -/
theorem kn_low {R V v1 v2 t r3 d r n : Nat} (hn : 2 ≤ n) (hV : (v1 * B + v2) * B ^ (n - 2) ≤ V) (hR : R < (t * B + r3 + 1) * B ^ (n - 2)) (ht : d * v1 + r = t) (h : r * B + r3 < d * v2) : R < d * V := by
  have h1 : (t * B + r3 + 1) ≤ d * (v1 * B + v2) := by
    have e1 : d * (v1 * B + v2) = (d * v1) * B + d * v2 := by grind
    have e2 : t * B = d * v1 * B + r * B := by rw [← ht, Nat.add_mul]
    omega
  calc R < (t * B + r3 + 1) * B ^ (n - 2) := hR
    _ ≤ d * (v1 * B + v2) * B ^ (n - 2) := Nat.mul_le_mul_right _ h1
    _ = d * ((v1 * B + v2) * B ^ (n - 2)) := Nat.mul_assoc _ _ _
    _ ≤ d * V := Nat.mul_le_mul_left _ hV
/-- a guess that passed is at most one too high -/
theorem kn_high {R V v1 v2 t r3 d r n : Nat} (hn : 2 ≤ n) (hV : V < (v1 * B + v2 + 1) * B ^ (n - 2)) (hR : (t * B + r3) * B ^ (n - 2) ≤ R) (ht : d * v1 + r = t) (hd : d ≤ B) (hv : 1 ≤ v1) (h : d * v2 ≤ r * B + r3) : (d - 1) * V ≤ R := by
  rcases Nat.eq_zero_or_pos d with h0 | h0
  · subst h0; simp
  obtain ⟨c, rfl⟩ : ∃ c, d = c + 1 := ⟨d - 1, by omega⟩
  rw [Nat.add_sub_cancel]
  have hb : c ≤ v1 * B + v2 := by
    have : B ≤ v1 * B := Nat.le_mul_of_pos_left _ hv
    omega
  have h1 : c * (v1 * B + v2 + 1) ≤ t * B + r3 := by
    have e1 : (c + 1) * (v1 * B + v2) = ((c + 1) * v1) * B + (c + 1) * v2 := by grind
    have e2 : t * B = (c + 1) * v1 * B + r * B := by rw [← ht, Nat.add_mul]
    have e3 : (c + 1) * (v1 * B + v2) = c * (v1 * B + v2) + (v1 * B + v2) := by grind
    have e4 : c * (v1 * B + v2 + 1) = c * (v1 * B + v2) + c := by grind
    omega
  calc c * V ≤ c * ((v1 * B + v2 + 1) * B ^ (n - 2)) := Nat.mul_le_mul_left _ (Nat.le_of_lt hV)
    _ = c * (v1 * B + v2 + 1) * B ^ (n - 2) := (Nat.mul_assoc _ _ _).symm
    _ ≤ (t * B + r3) * B ^ (n - 2) := Nat.mul_le_mul_right _ h1
    _ ≤ R := hR
/-- the state of the guess: not below the digit, and the first one no more than two above the base -/
structure Kn (R V v1 t d r : Nat) : Prop where
  sum : d * v1 + r = t
  ge : R < (d + 1) * V
  le : d ≤ B + 1
/-- the first guess -/
theorem kn_start {R V v1 v2 t n : Nat} (hn : 1 ≤ n) (hv : 1 ≤ v1) (hh : B ≤ 2 * v1) (hv2 : v2 < B) (hV1 : v1 * B ^ (n - 1) ≤ V) (hR : R < (t + 1) * B ^ (n - 1)) (ht : t ≤ v1 * B + v2) : Kn R V v1 t (t / v1) (t % v1) := by
  have h0 := Nat.div_add_mod t v1
  have h1 := Nat.mod_lt t (show 0 < v1 by omega)
  refine ⟨by rw [Nat.mul_comm]; exact h0, ?_, ?_⟩
  · have h2 : t + 1 ≤ (t / v1 + 1) * v1 := by rw [Nat.add_mul, Nat.one_mul, Nat.mul_comm]; omega
    calc R < (t + 1) * B ^ (n - 1) := hR
      _ ≤ (t / v1 + 1) * v1 * B ^ (n - 1) := Nat.mul_le_mul_right _ h2
      _ = (t / v1 + 1) * (v1 * B ^ (n - 1)) := Nat.mul_assoc _ _ _
      _ ≤ (t / v1 + 1) * V := Nat.mul_le_mul_left _ hV1
  · refine Nat.le_of_lt_succ ((Nat.div_lt_iff_lt_mul (by omega)).2 ?_)
    have : (B + 1).succ * v1 = v1 * B + 2 * v1 := by rw [Nat.succ_eq_add_one]; grind
    rw [this]; omega
/-- one less -/
theorem Kn.less {R V v1 v2 t d r r3 n : Nat} (h : Kn R V v1 t d r) (hn : 2 ≤ n) (hV : (v1 * B + v2) * B ^ (n - 2) ≤ V) (hR : R < (t * B + r3 + 1) * B ^ (n - 2)) (hq : R < V * B) (hc : B ≤ d ∨ r * B + r3 < d * v2) : Kn R V v1 t (d - 1) (r + v1) ∧ 1 ≤ d := by
  have hd : 1 ≤ d := by
    rcases hc with h | h
    · have := B_pos; omega
    · rcases Nat.eq_zero_or_pos d with h0 | h0
      · rw [h0] at h; omega
      · exact h0
  refine ⟨⟨?_, ?_, ?_⟩, hd⟩
  · have := h.sum
    have e : d * v1 = (d - 1) * v1 + v1 := by
      obtain ⟨c, rfl⟩ : ∃ c, d = c + 1 := ⟨d - 1, by omega⟩
      rw [Nat.add_sub_cancel, Nat.add_mul, Nat.one_mul]
    omega
  · rw [show d - 1 + 1 = d by omega]
    rcases hc with h1 | h1
    · exact Nat.lt_of_lt_of_le hq (by rw [Nat.mul_comm]; exact Nat.mul_le_mul_right _ h1)
    · exact kn_low hn hV hR h.sum h1
  · have := h.le; omega
/-- the guess is done: the digit, or one more -/
theorem Kn.done {R V v1 v2 t d r r3 n : Nat} (h : Kn R V v1 t d r) (hn : 2 ≤ n) (hv : 1 ≤ v1) (hv2 : v2 < B) (hV0 : 0 < V) (hV : V < (v1 * B + v2 + 1) * B ^ (n - 2)) (hR : (t * B + r3) * B ^ (n - 2) ≤ R) (hd : d < B) (hc : d * v2 ≤ r * B + r3 ∨ B ≤ r) : R / V ≤ d ∧ d ≤ R / V + 1 := by
  have hc' : d * v2 ≤ r * B + r3 := by
    rcases hc with h | h
    · exact h
    · have h1 : d * v2 ≤ B * B := Nat.mul_le_mul (Nat.le_of_lt hd) (Nat.le_of_lt hv2)
      have h2 : B * B ≤ r * B := Nat.mul_le_mul_right _ h
      omega
  constructor
  · exact Nat.le_of_lt_succ ((Nat.div_lt_iff_lt_mul hV0).2 h.ge)
  · have h1 := kn_high hn hV hR h.sum (Nat.le_of_lt hd) hv hc'
    have := (Nat.le_div_iff_mul_le hV0).2 h1
    omega
end Go.Proofs.YtnalhfcpcpondaaDoor
/- The document's division by one digit. -/
namespace Go.Proofs.YtnalhfcpcpondaaDoor
set_option linter.unusedVariables false
set_option linter.unusedSimpArgs false
open Go.RowKit

end Go.Proofs.YtnalhfcpcpondaaDoor
/- The document's long division: two rows that are written, and the window. -/
namespace Go.Proofs.YtnalhfcpcpondaaDoor
set_option linter.unusedVariables false
set_option linter.unusedSimpArgs false
open Go.RowKit

/-- of w to wr only blocks g and h have been written: rows of L and M digits -/
structure Two (g h : Nat) (w wr : World) (L M : Nat) (f q : Nat → Nat) : Prop where
  os : wr.os = w.os
  tape : wr.tape = w.tape
  output : wr.output = w.output
  size : wr.heap.size = w.heap.size
  block : ∀ k, k ≠ g → k ≠ h → wr.heap[k]? = w.heap[k]?
  ru : RowGe wr g L (fun i => .int .u32 (f i : Nat))
  rq : RowGe wr h M (fun i => .int .u32 (q i : Nat))
theorem Two.congr {g h : Nat} {w wr : World} {L M : Nat} {f q f' q' : Nat → Nat} (t : Two g h w wr L M f q) (e : ∀ i, i < L → f i = f' i) (e' : ∀ i, i < M → q i = q' i) : Two g h w wr L M f' q' :=
  ⟨t.os, t.tape, t.output, t.size, t.block, t.ru.congr (fun i hi => by rw [e i hi]), t.rq.congr (fun i hi => by rw [e' i hi])⟩
theorem Two.drewN {g h : Nat} {w wr : World} {L M : Nat} {f q : Nat → Nat} (t : Two g h w wr L M f q) (n : Nat) : Two g h w (wr.drewN n) L M f q :=
  ⟨t.os, t.tape, t.output, t.size, t.block, t.ru, t.rq⟩
theorem Two.old {g h : Nat} {w wr : World} {L M : Nat} {f q : Nat → Nat} (t : Two g h w wr L M f q) {p : Addr} {u : Value} (h1 : p.block ≠ g) (h2 : p.block ≠ h) (hc : w.cell? p = some u) : wr.cell? p = some u := (World.cell?_of_block (w := w) (t.block p.block h1 h2)).trans hc
theorem Two.below {g h b : Nat} {w wr : World} {L M : Nat} {f q : Nat → Nat} (t : Two g h w wr L M f q) (h1 : b ≤ g) (h2 : b ≤ h) : Below b w wr := ⟨t.os, t.tape, t.output, by rw [t.size]; exact Nat.le_refl _, fun k hk => t.block k (by omega) (by omega)⟩
/-- what the guess has to know -/
structure Gs (R V v1 v2 t r3 n : Nat) : Prop where
  n2 : 2 ≤ n
  v1p : 1 ≤ v1
  v1h : B ≤ 2 * v1
  v1B : v1 < B
  v2B : v2 < B
  r3B : r3 < B
  V0 : 0 < V
  Vlo : (v1 * B + v2) * B ^ (n - 2) ≤ V
  Vhi : V < (v1 * B + v2 + 1) * B ^ (n - 2)
  Rlo : (t * B + r3) * B ^ (n - 2) ≤ R
  Rhi : R < (t * B + r3 + 1) * B ^ (n - 2)
  V1 : v1 * B ^ (n - 1) ≤ V
  R1 : R < (t + 1) * B ^ (n - 1)
  tle : t ≤ v1 * B + v2
  RV : R < V * B
  tB : t < B * B
theorem Gs.start {R V v1 v2 t r3 n : Nat} (h : Gs R V v1 v2 t r3 n) : Kn R V v1 t (t / v1) (t % v1) := kn_start (by have := h.n2; omega) h.v1p h.v1h h.v2B h.V1 h.R1 h.tle
theorem Gs.less {R V v1 v2 t r3 n d r : Nat} (h : Gs R V v1 v2 t r3 n) (k : Kn R V v1 t d r) (hc : B ≤ d ∨ r * B + r3 < d * v2) : Kn R V v1 t (d - 1) (r + v1) ∧ 1 ≤ d := k.less h.n2 h.Vlo h.Rhi h.RV hc
theorem Gs.done {R V v1 v2 t r3 n d r : Nat} (h : Gs R V v1 v2 t r3 n) (k : Kn R V v1 t d r) (hd : d < B) (hc : d * v2 ≤ r * B + r3 ∨ B ≤ r) : R / V ≤ d ∧ d ≤ R / V + 1 := k.done h.n2 h.v1p h.v2B h.V0 h.Vhi h.Rlo hd hc
end Go.Proofs.YtnalhfcpcpondaaDoor
/- The document's long division: the words of its loops, and what the rows come to. -/
namespace Go.Proofs.YtnalhfcpcpondaaDoor
set_option linter.unusedVariables false
set_option linter.unusedSimpArgs false
open Go.RowKit

end Go.Proofs.YtnalhfcpcpondaaDoor
/- The document's long division: the way to the loop. -/
namespace Go.Proofs.YtnalhfcpcpondaaDoor
set_option linter.unusedVariables false
set_option linter.unusedSimpArgs false
open Go.RowKit

end Go.Proofs.YtnalhfcpcpondaaDoor
/- The document's long division: how far the numbers are shifted. -/
namespace Go.Proofs.YtnalhfcpcpondaaDoor
set_option linter.unusedVariables false
set_option linter.unusedSimpArgs false

end Go.Proofs.YtnalhfcpcpondaaDoor
/- The document's division: the short ways, and all of it. -/
namespace Go.Proofs.YtnalhfcpcpondaaDoor
set_option linter.unusedVariables false
set_option linter.unusedSimpArgs false
open Go.RowKit

end Go.Proofs.YtnalhfcpcpondaaDoor
/- The document's square root of a whole number. -/
namespace Go.Proofs.YtnalhfcpcpondaaDoor
set_option linter.unusedVariables false
set_option linter.unusedSimpArgs false
open Go.RowKit

theorem cmp_eq {x y : Nat} : (cmpI (x : Int) (y : Int) == 0) = decide (x = y) := by
  unfold cmpI
  by_cases h : x = y
  · subst h; simp
  · rw [decide_eq_false h]
    by_cases h2 : (x : Int) < (y : Int)
    · rw [if_pos h2]; rfl
    · rw [if_neg h2, if_pos (by omega)]; rfl
end Go.Proofs.YtnalhfcpcpondaaDoor
/- The document's one and Less. -/
namespace Go.Proofs.YtnalhfcpcpondaaDoor
set_option linter.unusedVariables false
set_option linter.unusedSimpArgs false
open Go.RowKit

end Go.Proofs.YtnalhfcpcpondaaDoor
/- The document's Over: the quotient, cut to a place. -/
namespace Go.Proofs.YtnalhfcpcpondaaDoor
set_option linter.unusedVariables false
set_option linter.unusedSimpArgs false
open Go.RowKit

end Go.Proofs.YtnalhfcpcpondaaDoor
/- The document's Over, joined. -/
namespace Go.Proofs.YtnalhfcpcpondaaDoor
set_option linter.unusedVariables false
set_option linter.unusedSimpArgs false
open Go.RowKit

end Go.Proofs.YtnalhfcpcpondaaDoor
/- The document's RootOf: the root, cut to a place. -/
namespace Go.Proofs.YtnalhfcpcpondaaDoor
set_option linter.unusedVariables false
set_option linter.unusedSimpArgs false
open Go.RowKit

/-- nought can be handed on -/
theorem NC.nought (w : World) (base : Nat) (s : Bool) (e : Int) : NC w base (.agg #[.bool false, .slice none 0 0, .int .i64 0]) s 0 e := by
  refine ⟨none, 0, ?_, ?_, fun ad e => by cases e⟩
  · unfold cn; rw [if_pos rfl, dlen_zero]
  · unfold cn; rw [if_pos rfl]
    exact ⟨fun _ => .inr ⟨rfl, rfl⟩, ⟨0, 0, fun h => by rw [dlen_zero] at h; omega, fun i hi => by rw [dlen_zero] at hi; omega⟩, by rw [dlen_zero]; exact Nat.le_refl _, by rw [dlen_zero]; omega⟩
end Go.Proofs.YtnalhfcpcpondaaDoor
/- The document's Cut: a number, cut to a place. -/
namespace Go.Proofs.YtnalhfcpcpondaaDoor
set_option linter.unusedVariables false
set_option linter.unusedSimpArgs false
open Go.RowKit

end Go.Proofs.YtnalhfcpcpondaaDoor
/- The document's Quo. -/
namespace Go.Proofs.YtnalhfcpcpondaaDoor
set_option linter.unusedVariables false
set_option linter.unusedSimpArgs false
open Go.RowKit

end Go.Proofs.YtnalhfcpcpondaaDoor
/- The document's Quo, joined. -/
namespace Go.Proofs.YtnalhfcpcpondaaDoor
set_option linter.unusedVariables false
set_option linter.unusedSimpArgs false
open Go.RowKit

end Go.Proofs.YtnalhfcpcpondaaDoor
/- The document's Floor. -/
namespace Go.Proofs.YtnalhfcpcpondaaDoor
set_option linter.unusedVariables false
set_option linter.unusedSimpArgs false
open Go.RowKit

end Go.Proofs.YtnalhfcpcpondaaDoor
/- The document's Floor, joined. -/
namespace Go.Proofs.YtnalhfcpcpondaaDoor
set_option linter.unusedVariables false
set_option linter.unusedSimpArgs false
open Go.RowKit

end Go.Proofs.YtnalhfcpcpondaaDoor
/- The program's Floor. -/
namespace Go.Proofs.YtnalhfcpcpondaaDoor
set_option linter.unusedVariables false
set_option linter.unusedSimpArgs false
open Go.RowKit

end Go.Proofs.YtnalhfcpcpondaaDoor
/- The document's Root. -/
namespace Go.Proofs.YtnalhfcpcpondaaDoor
set_option linter.unusedVariables false
set_option linter.unusedSimpArgs false
open Go.RowKit

end Go.Proofs.YtnalhfcpcpondaaDoor
/- The document's Root, joined. -/
namespace Go.Proofs.YtnalhfcpcpondaaDoor
set_option linter.unusedVariables false
set_option linter.unusedSimpArgs false
open Go.RowKit

end Go.Proofs.YtnalhfcpcpondaaDoor
/- The program's Floor, Quo, Root, refused. -/
namespace Go.Proofs.YtnalhfcpcpondaaDoor
set_option linter.unusedVariables false
set_option linter.unusedSimpArgs false
open Go.RowKit

end Go.Proofs.YtnalhfcpcpondaaDoor
/- DyadCuts: the law's walk. -/
namespace Go.Proofs.YtnalhfcpcpondaaDoor
set_option linter.unusedVariables false
set_option linter.unusedSimpArgs false
open Go.RowKit

end Go.Proofs.YtnalhfcpcpondaaDoor
/- DyadSums. -/
namespace Go.Proofs.YtnalhfcpcpondaaDoor
set_option linter.unusedVariables false
set_option linter.unusedSimpArgs false
open Go.RowKit

theorem Ans.len {V : Bool} {t : Bool × Nat × Int} (h : V = true → dlen t.2.1 ≤ 35184372088832) : dlen (Ans V t).2.1 ≤ 35184372088832 := by
  unfold Ans
  cases V
  · rw [if_neg (by simp)]; show dlen 0 ≤ _; rw [dlen_zero]; omega
  · rw [if_pos rfl]; exact h rfl
end Go.Proofs.YtnalhfcpcpondaaDoor
/- DyadCuts. -/
namespace Go.Proofs.YtnalhfcpcpondaaDoor
set_option linter.unusedVariables false
set_option linter.unusedSimpArgs false
open Go.RowKit

end Go.Proofs.YtnalhfcpcpondaaDoor
/- DyadOrder: the law's walk. -/
namespace Go.Proofs.YtnalhfcpcpondaaDoor
set_option linter.unusedVariables false
set_option linter.unusedSimpArgs false
open Go.RowKit

end Go.Proofs.YtnalhfcpcpondaaDoor
/- The program's Sqrt. -/
namespace Go.Proofs.YtnalhfcpcpondaaDoor
set_option linter.unusedVariables false
set_option linter.unusedSimpArgs false
open Go.RowKit

end Go.Proofs.YtnalhfcpcpondaaDoor
/- The program's Ratio. -/
namespace Go.Proofs.YtnalhfcpcpondaaDoor
set_option linter.unusedVariables false
set_option linter.unusedSimpArgs false
open Go.RowKit

set_option maxHeartbeats 4000000 in
set_option maxRecDepth 200000 in
theorem pratio_1 (na nb : Bool) (ua va : Option Addr) (un uc vn vc x y k bx by' : Nat) (ea eb mode : Int) (sg : Bool) (w : World) (hsg : Hid ((!(na == nb)) = sg)) (hT : Tab32 w) (h1 : Is w (.slice ua un uc) x) (h2 : Is w (.slice va vn vc) y) (hx : dlen x ≤ 3000) (hy : dlen y ≤ 3000) (hy0 : y ≠ 0) (he1 : -65536 ≤ ea) (he2 : ea ≤ 65536) (he3 : -65536 ≤ eb) (he4 : eb ≤ 65536) (hm : mode = 1 ∨ mode = 2 ∨ mode = 3)
    (hbx : bl x = bx) (hby : bl y = by') (hbx2 : bx ≤ 96000) (hby2 : by' ≤ 96000) (hk : max 0 (64 + (by' : Int) - (bx : Int)) = (k : Int)) (hk2 : k ≤ 100000) (hn0 : ((un : Int) == 0) = false) (hn1 : ((vn : Int) == 0) = false)
    (k67 : ∀ W g, Below w.heap.size w W → W.heap[g]? = some (.cells #[.bool na, .slice ua un uc, .int .i64 ea, .bool nb, .slice va vn vc, .int .i64 eb] 60 (0, 0)) → Calls Tryd.prog 51 #[.slice (some ⟨g, 0, none⟩) 2 2] W fun r w' => r = .returned (.bool true) ∧ Below W.heap.size W w') :
    Calls Tryd.prog 44 #[.agg #[.bool na, .slice ua un uc, .int .i64 ea], .agg #[.bool nb, .slice va vn vc, .int .i64 eb], .int .i64 mode] w fun r w' => r = .returned (.tuple #[.float .f64 (tfF sg (decide (x * 2 ^ k % y = 0)) (x * 2 ^ k / y) (ea - eb - k) mode), .int .i64 0]) ∧ Below w.heap.size w w' := by
  obtain ⟨W, hW⟩ : ∃ W, W = (w.alloc (.cells #[.bool na, .slice ua un uc, .int .i64 ea] 60)).alloc (.cells #[.bool nb, .slice va vn vc, .int .i64 eb] 60) := ⟨_, rfl⟩
  have hBW : Below w.heap.size w W := by rw [hW]; exact ((Below.refl _ _).alloc (Nat.le_refl _) _).alloc (by simp) _
  have hbA : W.heap[w.heap.size]? = some (.cells #[.bool na, .slice ua un uc, .int .i64 ea] 60 (0, 0)) := by
    rw [hW, Below.heap_alloc _ _ _ (by simp)]; exact heap_alloc_new _ _
  have hbB : W.heap[w.heap.size + 1]? = some (.cells #[.bool nb, .slice va vn vc, .int .i64 eb] 60 (0, 0)) := by
    have := heap_alloc_new (w.alloc (.cells #[.bool na, .slice ua un uc, .int .i64 ea] 60)) (.cells #[.bool nb, .slice va vn vc, .int .i64 eb] 60)
    rw [hW]; simpa using this
  have hsz : W.heap.size = w.heap.size + 1 + 1 := by rw [hW]; simp
  have k1 := k67 (W.alloc (.cells #[.bool na, .slice ua un uc, .int .i64 ea, .bool nb, .slice va vn vc, .int .i64 eb] 60)) (w.heap.size + 1 + 1) (hBW.alloc hBW.size _) (by rw [← hsz]; exact heap_alloc_new _ _)
  have HX : Hid (Below w.heap.size w W ∧ W.heap.size = w.heap.size + 1 + 1 ∧ W.heap[w.heap.size]? = some (.cells #[.bool na, .slice ua un uc, .int .i64 ea] 60 (0, 0)) ∧ W.heap[w.heap.size + 1]? = some (.cells #[.bool nb, .slice va vn vc, .int .i64 eb] 60 (0, 0))) := ⟨hBW, hsz, hbA, hbB⟩
  have HT : Hid (Tab32 w ∧ Is w (.slice ua un uc) x ∧ dlen x ≤ 3000 ∧ Is w (.slice va vn vc) y ∧ dlen y ≤ 3000 ∧ y ≠ 0) := ⟨hT, h1, hx, h2, hy, hy0⟩
  have k48 := fun W => c48 mode hm W
  clear hBW hsz hbA hbB k67 hT h1 hx h2 hy hy0
  go_enter Tryd.func44, Tryd.ntmps44
  go_wp2_with fail
  rw [← hW]
  clear hW
  refine k1.mono ?_
  rintro r w1 ⟨rfl, hb1⟩
  have HB1 : Hid (Below W.heap.size W w1) := ((Below.refl W.heap.size W).alloc (Nat.le_refl _) _).trans (hb1.mono (by simp))
  have HW1 : Hid (Below w.heap.size w w1) := HX.out.1.trans (HB1.out.mono HX.out.1.size)
  obtain ⟨⟨a0, a1, a2⟩, -⟩ := box_cells (box_later HX.out.2.2.1 HB1.out (by have := HX.out.2.1; omega))
  obtain ⟨⟨b0, b1, b2⟩, -⟩ := box_cells (box_later HX.out.2.2.2 HB1.out (by have := HX.out.2.1; omega))
  clear k1 hb1
  go_wp2_with fail
  refine (k48 w1).mono ?_
  rintro r w1' ⟨rfl, hw⟩
  replace hw := hw.symm
  subst hw
  clear k48
  have kla : ∀ d, Calls Tryd.prog 53 #[.slice ua un uc] (w1.drewN d) fun e w' => e = .returned (.int .i64 (bx : Nat)) ∧ w' = w1.drewN d := fun d => by
    have := c74 (w := w1.drewN d) (HT.out.2.1.later (HW1.out.trans ⟨rfl, rfl, rfl, Nat.le_refl _, fun _ _ => rfl⟩)) (by have := HT.out.2.2; omega)
    rw [hbx] at this; exact this
  have klb : ∀ d, Calls Tryd.prog 53 #[.slice va vn vc] (w1.drewN d) fun e w' => e = .returned (.int .i64 (by' : Nat)) ∧ w' = w1.drewN d := fun d => by
    have := c74 (w := w1.drewN d) (HT.out.2.2.2.1.later (HW1.out.trans ⟨rfl, rfl, rfl, Nat.le_refl _, fun _ _ => rfl⟩)) (by have := HT.out.2.2; omega)
    rw [hby] at this; exact this
  go_wp2
  go_quiet (first | (go_at_call 53; first | (with_reducible refine Calls.quiet_of_same (klb _)) | (with_reducible refine Calls.quiet_of_same (kla _))))
  have HB2 : Hid (Below W.heap.size W (w1.drewN nq)) := HB1.out.trans ⟨rfl, rfl, rfl, Nat.le_refl _, fun _ _ => rfl⟩
  obtain ⟨w2, hw2⟩ : ∃ w2, w2 = w1.drewN nq := ⟨_, rfl⟩
  rw [← hw2] at HB2 ⊢
  clear hw2 kla klb a0 a1 a2 b0 b1 b2
  have HK : Hid (∀ w', Below w2.heap.size w2 w' → ((w'.cell? ⟨w.heap.size, 0, none⟩ = some (.bool na) ∧ w'.cell? ⟨w.heap.size, 1, none⟩ = some (.slice ua un uc) ∧ w'.cell? ⟨w.heap.size, 2, none⟩ = some (.int .i64 ea)) ∧ (w'.cell? ⟨w.heap.size + 1, 0, none⟩ = some (.bool nb) ∧ w'.cell? ⟨w.heap.size + 1, 1, none⟩ = some (.slice va vn vc) ∧ w'.cell? ⟨w.heap.size + 1, 2, none⟩ = some (.int .i64 eb)))) := fun w' hb => ⟨(box_cells (box_later HX.out.2.2.1 (HB2.out.trans (hb.mono HB2.out.size)) (by have := HX.out.2.1; omega))).1, (box_cells (box_later HX.out.2.2.2 (HB2.out.trans (hb.mono HB2.out.size)) (by have := HX.out.2.1; omega))).1⟩
  obtain ⟨⟨a0, a1, a2⟩, b0, b1, b2⟩ := HK.out w2 (Below.refl _ _)
  have hBR : Below w2.heap.size w2 w2.drew := (Below.refl _ _).drew
  have hl : dlen (x * 2 ^ k) ≤ 7000 := by have := shl_len (x := x) (k := k) rfl; have := HT.out.2.2; omega
  have HL : Hid (dlen (x * 2 ^ k) ≤ 7000) := hl
  have kS : ∀ w', Below w2.heap.size w2 w' → Calls Tryd.prog 55 #[.slice ua un uc, .int .i64 (k : Int)] w' fun e w'' => ∃ v, e = .returned v ∧ Hid (Is w'' v (x * 2 ^ k)) ∧ Below w2.heap.size w2 w'' := fun w' hb => (c109 (HT.out.2.1.later (HX.out.1.trans ((HB2.out.trans (hb.mono HB2.out.size)).mono HX.out.1.size))) k (by have := HT.out.2.2; omega) (by omega)).mono fun r w'' ⟨v, e1, e2, e3⟩ => ⟨v, e1, e2.is, hb.trans (e3.mono hb.size)⟩
  have kD : ∀ v w', Hid (Is w' v (x * 2 ^ k)) → Below w2.heap.size w2 w' → Calls Tryd.prog 54 #[v, .slice va vn vc] w' fun e w'' => ∃ q, e = .returned (.tuple #[q, .bool (decide (x * 2 ^ k % y = 0))]) ∧ Hid (Is w'' q (x * 2 ^ k / y)) ∧ Below w2.heap.size w2 w'' := fun v w' hI hb => (c100 hI.out (HT.out.2.2.2.1.later (HX.out.1.trans ((HB2.out.trans (hb.mono HB2.out.size)).mono HX.out.1.size))) (by have := HL.out; omega) (by have := HT.out.2.2.2.2; omega) HT.out.2.2.2.2.2).mono fun r w'' ⟨q, e1, e2, e3⟩ => ⟨q, e1, e2.is, hb.trans (e3.mono hb.size)⟩
  obtain ⟨xb, hxb⟩ : ∃ xb : Bool, xb = decide (x * 2 ^ k % y = 0) := ⟨_, rfl⟩
  rw [← hxb] at kD
  have HXB : Hid (xb = decide (x * 2 ^ k % y = 0)) := hxb
  clear hxb hl
  go_upto_region 8 with fail
  go_cut [9, 10] from 42 to 50 (fun q b wx => b = .bool xb ∧ Hid (Is wx q (x * 2 ^ k / y)) ∧ Hid (Below w2.heap.size w2 wx))
  case first =>
    go_region_held3 (fun w' => ((w'.cell? ⟨w.heap.size, 0, none⟩ = some (.bool na) ∧ w'.cell? ⟨w.heap.size, 1, none⟩ = some (.slice ua un uc) ∧ w'.cell? ⟨w.heap.size, 2, none⟩ = some (.int .i64 ea)) ∧ (w'.cell? ⟨w.heap.size + 1, 0, none⟩ = some (.bool nb) ∧ w'.cell? ⟨w.heap.size + 1, 1, none⟩ = some (.slice va vn vc) ∧ w'.cell? ⟨w.heap.size + 1, 2, none⟩ = some (.int .i64 eb)))) (first | (with_reducible assumption) | exact ⟨⟨a0, a1, a2⟩, b0, b1, b2⟩ | (refine HK.out _ ?_; with_reducible assumption) | go_keep)
      (first | (go_at_call 55; refine (kS _ (by first | (with_reducible assumption) | exact hBR)).mono ?_; rintro r w5 ⟨v5, rfl, hI5, hb5⟩) | (go_at_call 54; refine (kD _ _ hI5 (by with_reducible assumption)).mono ?_; rintro r w6 ⟨v6, rfl, hI6, hb6⟩))
    all_goals go_wp2_with fail
    all_goals go_meet
    all_goals exact ⟨rfl, hI6, hb6⟩
  case rest =>
    obtain ⟨rfl, hI, hB⟩ := hcut
    obtain ⟨w3, rfl⟩ : ∃ w3 : World, w3 = wc := ⟨_, rfl⟩
    have HB3 : Hid (Below W.heap.size W w3) := HB2.out.trans (hB.out.mono HB2.out.size)
    clear a0 a1 a2 b0 b1 b2 kS kD hBR
    obtain ⟨⟨a0, a1, a2⟩, b0, b1, b2⟩ := HK.out w3 hB.out
    have kt := c110 (neg := sg) (exact := xb) (e := ea - eb - k) (mode := mode) (HT.out.1.later (HX.out.1.trans (HB3.out.mono HX.out.1.size))) hI.out (Nat.le_trans (dlen_mono (Nat.div_le_self _ _)) (by have := HL.out; omega)) (by omega) (by omega)
    go_wp2_with fail
    rw [hsg.out]
    refine kt.mono ?_
    rintro r w4 ⟨rfl, hb4⟩
    have HB4 : Hid (Below W.heap.size W w4) := HB3.out.trans (hb4.mono HB3.out.size)
    clear kt hb4
    go_wp2
    refine bodyPost_ret (results_tmp2 rfl _ _ _) rfl ?_
    exact ⟨congrArg (fun b => Ending.returned (Value.tuple #[.float .f64 (tfF sg b (x * 2 ^ k / y) (ea - eb - k) mode), .int .i64 0])) HXB.out, HX.out.1.trans (HB4.out.mono HX.out.1.size)⟩
end Go.Proofs.YtnalhfcpcpondaaDoor
/- The values of floats by their bodies, and how values are rounded: plain facts. -/
namespace Go.Proofs.YtnalhfcpcpondaaDoor
set_option linter.unusedVariables false
set_option linter.unusedSimpArgs false

/-- the value of a float's body (its bits without the sign), in units of 2^-1074 -/
def bv (b : Nat) : Nat := if b < 4503599627370496 then b else (4503599627370496 + b % 4503599627370496) * 2 ^ (b / 4503599627370496 - 1)
theorem bv_at {j q : Nat} (h : (j = 0 ∧ q ≤ 9007199254740992) ∨ (4503599627370496 ≤ q ∧ q ≤ 9007199254740992)) : bv (j * 4503599627370496 + q) = q * 2 ^ j := by
  unfold bv
  by_cases h1 : j * 4503599627370496 + q < 4503599627370496
  · have hj : j = 0 := by omega
    subst hj
    rw [if_pos h1]; simp
  · rw [if_neg h1]
    by_cases h2 : q = 9007199254740992
    · subst h2
      rw [show (j * 4503599627370496 + 9007199254740992) % 4503599627370496 = 0 by omega, show (j * 4503599627370496 + 9007199254740992) / 4503599627370496 - 1 = j + 1 by omega, Nat.pow_succ]
      omega
    · have h3 : 4503599627370496 ≤ q := by omega
      rw [show (j * 4503599627370496 + q) % 4503599627370496 = q - 4503599627370496 by omega, show (j * 4503599627370496 + q) / 4503599627370496 - 1 = j by omega]
      rw [show 4503599627370496 + (q - 4503599627370496) = q by omega]
theorem bv_form (b : Nat) : ∃ j q, b = j * 4503599627370496 + q ∧ bv b = q * 2 ^ j ∧ bv (b + 1) = (q + 1) * 2 ^ j := by
  by_cases h : b < 4503599627370496
  · refine ⟨0, b, by omega, ?_, ?_⟩
    · have := bv_at (j := 0) (q := b) (.inl ⟨rfl, by omega⟩); simpa using this
    · have := bv_at (j := 0) (q := b + 1) (.inl ⟨rfl, by omega⟩); simpa using this
  · have e : b = (b / 4503599627370496 - 1) * 4503599627370496 + (4503599627370496 + b % 4503599627370496) := by omega
    refine ⟨_, _, e, ?_, ?_⟩
    · have := bv_at (j := b / 4503599627370496 - 1) (q := 4503599627370496 + b % 4503599627370496) (.inr ⟨by omega, by omega⟩)
      rw [← e] at this; exact this
    · have := bv_at (j := b / 4503599627370496 - 1) (q := 4503599627370496 + b % 4503599627370496 + 1) (.inr ⟨by omega, by omega⟩)
      rw [← Nat.add_assoc, ← e] at this; exact this
theorem bv_succ (b : Nat) : bv b < bv (b + 1) := by
  obtain ⟨j, q, -, h1, h2⟩ := bv_form b
  rw [h1, h2]
  exact Nat.mul_lt_mul_of_pos_right (by omega) (Nat.two_pow_pos j)
theorem bv_lt {a b : Nat} (h : a < b) : bv a < bv b := by
  induction b with
  | zero => omega
  | succ b ih =>
    by_cases h1 : a < b
    · exact Nat.lt_trans (ih h1) (bv_succ b)
    · obtain rfl : a = b := by omega
      exact bv_succ a
theorem bv_le {a b : Nat} (h : a ≤ b) : bv a ≤ bv b := by
  by_cases h1 : a = b
  · rw [h1]; exact Nat.le_refl _
  · exact Nat.le_of_lt (bv_lt (by omega))
theorem bv_inj_lt {a b : Nat} (h : bv a < bv b) : a < b := by
  apply Decidable.byContradiction
  intro h1
  have := bv_le (a := b) (b := a) (by omega)
  omega

/-- the number x·2^e (x' / 2^k units of the body's rung j) -/
structure IsR (x : Nat) (e : Int) (j X k : Nat) : Prop where
  eq : ∀ K : Nat, 0 ≤ e + K → 0 ≤ (j : Int) - 1074 - k + K → X * 2 ^ ((j : Int) - 1074 - k + K).toNat = x * 2 ^ (e + K).toNat
  lt : X / 2 ^ k < 9007199254740992
  ge : j = 0 ∨ 4503599627370496 ≤ X / 2 ^ k

/-- how a value A (in units u of 2^-1074) lies at the bodies b and b + 1, by what is left over -/
structure Lies (A u b : Nat) (r m : Nat) : Prop where
  lo : bv b * u ≤ A
  hi : A < bv (b + 1) * u
  ex : r = 0 ↔ A = bv b * u
  half_lt : 2 * r < m ↔ 2 * A < (bv b + bv (b + 1)) * u
  half_eq : 2 * r = m ↔ 2 * A = (bv b + bv (b + 1)) * u
theorem IsR.lies {x : Nat} {e : Int} {j X k : Nat} (h : IsR x e j X k) {K : Nat} (hK : 1074 ≤ K) (h1 : 0 ≤ e + K) (h2 : 0 ≤ (j : Int) - 1074 - k + K) :
    Lies (x * 2 ^ (e + K).toNat) (2 ^ (K - 1074)) (j * 4503599627370496 + X / 2 ^ k) (X % 2 ^ k) (2 ^ k) := by
  have eq := h.eq K h1 h2
  have hl := h.lt
  have hg := h.ge
  have b0 : bv (j * 4503599627370496 + X / 2 ^ k) = X / 2 ^ k * 2 ^ j := bv_at (j := j) (q := X / 2 ^ k) (by
    generalize X / 2 ^ k = q at *
    rcases hg with g | g
    · exact .inl ⟨g, by omega⟩
    · exact .inr ⟨g, by omega⟩)
  have b1 : bv (j * 4503599627370496 + X / 2 ^ k + 1) = (X / 2 ^ k + 1) * 2 ^ j := by
    have := bv_at (j := j) (q := X / 2 ^ k + 1) (by
      generalize X / 2 ^ k = q at *
      rcases hg with g | g
      · exact .inl ⟨g, by omega⟩
      · exact .inr ⟨by omega, by omega⟩)
    rw [← Nat.add_assoc] at this
    exact this
  have hu : 2 ^ j * 2 ^ (K - 1074) = 2 ^ k * 2 ^ ((j : Int) - 1074 - k + K).toNat := by
    rw [← Nat.pow_add, ← Nat.pow_add, show j + (K - 1074) = k + ((j : Int) - 1074 - k + K).toNat by omega]
  have hX : X = 2 ^ k * (X / 2 ^ k) + X % 2 ^ k := (Nat.div_add_mod X (2 ^ k)).symm
  have hr : X % 2 ^ k < 2 ^ k := Nat.mod_lt _ (Nat.two_pow_pos k)
  have hU : 0 < 2 ^ ((j : Int) - 1074 - k + K).toNat := Nat.two_pow_pos _
  rw [← eq]
  generalize 2 ^ ((j : Int) - 1074 - k + K).toNat = U at *
  generalize X / 2 ^ k = q at *
  generalize X % 2 ^ k = r at *
  generalize 2 ^ k = M at *
  generalize 2 ^ j = J at *
  generalize 2 ^ (K - 1074) = u at *
  have e0 : bv (j * 4503599627370496 + q) * u = q * (M * U) := by rw [b0, Nat.mul_assoc, hu]
  have e1 : bv (j * 4503599627370496 + q + 1) * u = (q + 1) * (M * U) := by rw [b1, Nat.mul_assoc, hu]
  have eA : X * U = q * (M * U) + r * U := by rw [hX, Nat.add_mul]; congr 1; rw [← Nat.mul_assoc, Nat.mul_comm q M]
  have e1' : (q + 1) * (M * U) = q * (M * U) + M * U := by rw [Nat.add_mul, Nat.one_mul]
  have hrU : r * U < M * U := Nat.mul_lt_mul_of_pos_right hr hU
  have hr0 : r = 0 ↔ r * U = 0 := by
    constructor
    · rintro rfl; simp
    · intro h; rcases Nat.mul_eq_zero.1 h with h | h
      · exact h
      · omega
  have hh1 : 2 * r < M ↔ 2 * (r * U) < M * U := by
    rw [← Nat.mul_assoc]
    exact (Nat.mul_lt_mul_right hU).symm
  have hh2 : 2 * r = M ↔ 2 * (r * U) = M * U := by
    rw [← Nat.mul_assoc]
    exact (Nat.mul_left_inj (by omega)).symm
  refine ⟨?_, ?_, ?_, ?_, ?_⟩
  · rw [e0, eA]; omega
  · rw [e1, eA, e1']; omega
  · rw [hr0, e0, eA]; omega
  · rw [hh1, Nat.add_mul, e0, e1, eA, e1']; omega
  · rw [hh2, Nat.add_mul, e0, e1, eA, e1']; omega

/-- a value rounded by a way: 0 inward, 1 to the nearest, 2 outward; no greatest one -/
structure Rounds (A u b way : Nat) : Prop where
  fl : ∃ b0, (bv b0 * u ≤ A ∧ A < bv (b0 + 1) * u) ∧ (way = 0 → b = b0) ∧ (way = 2 → b = if A = bv b0 * u then b0 else b0 + 1) ∧ (way = 1 → b = if 2 * A < (bv b0 + bv (b0 + 1)) * u then b0 else if 2 * A = (bv b0 + bv (b0 + 1)) * u then b0 + b0 % 2 else b0 + 1)
theorem floor_mono {A A' u b b' : Nat} (h : A ≤ A') (h1 : bv b * u ≤ A) (h2 : A' < bv (b' + 1) * u) : b ≤ b' := by
  have h3 : bv b * u < bv (b' + 1) * u := by omega
  have h4 : bv b < bv (b' + 1) := Nat.lt_of_mul_lt_mul_right h3
  have := bv_inj_lt h4
  omega
theorem Rounds.mono {A A' u b b' way : Nat} (hw : way = 0 ∨ way = 1 ∨ way = 2) (h : Rounds A u b way) (h' : Rounds A' u b' way) (hle : A ≤ A') : b ≤ b' := by
  obtain ⟨b0, ⟨l, g⟩, w0, w2, w1⟩ := h.fl
  obtain ⟨b1, ⟨l', g'⟩, w0', w2', w1'⟩ := h'.fl
  have hb := floor_mono hle l g'
  rcases hw with hw | hw | hw
  · rw [w0 hw, w0' hw]; exact hb
  · rw [w1 hw, w1' hw]
    by_cases he : b0 = b1
    · subst he
      split
      · split
        · exact Nat.le_refl _
        · split <;> omega
      · split
        · split
          · omega
          · split
            · exact Nat.le_refl _
            · have : b0 % 2 < 2 := Nat.mod_lt _ (by omega)
              omega
        · rw [if_neg (by omega), if_neg (by omega)]; exact Nat.le_refl _
    · have hlt : b0 < b1 := by omega
      have h1 : (if 2 * A < (bv b0 + bv (b0 + 1)) * u then b0 else if 2 * A = (bv b0 + bv (b0 + 1)) * u then b0 + b0 % 2 else b0 + 1) ≤ b0 + 1 := by
        split
        · omega
        · split <;> omega
      have h2 : b1 ≤ (if 2 * A' < (bv b1 + bv (b1 + 1)) * u then b1 else if 2 * A' = (bv b1 + bv (b1 + 1)) * u then b1 + b1 % 2 else b1 + 1) := by
        split
        · omega
        · split <;> omega
      omega
  · rw [w2 hw, w2' hw]
    by_cases he : b0 = b1
    · subst he
      split
      · split <;> omega
      · rw [if_neg (by omega)]; exact Nat.le_refl _
    · split
      · split <;> omega
      · split <;> omega
/-- inward is not above nearest, nor that above outward; inward and outward hold the value -/
theorem Rounds.order {A u b0 b1 b2 : Nat} (h0 : Rounds A u b0 0) (h1 : Rounds A u b1 1) (h2 : Rounds A u b2 2) : b0 ≤ b1 ∧ b1 ≤ b2 ∧ bv b0 * u ≤ A ∧ A ≤ bv b2 * u ∧ (b0 = b2 → A = bv b0 * u) := by
  obtain ⟨c0, ⟨l0, g0⟩, w0, -, -⟩ := h0.fl
  obtain ⟨c1, ⟨l1, g1⟩, -, -, w1⟩ := h1.fl
  obtain ⟨c2, ⟨l2, g2⟩, -, w2, -⟩ := h2.fl
  have e1 : c1 = c0 := by
    have := floor_mono (Nat.le_refl A) l1 g0
    have := floor_mono (Nat.le_refl A) l0 g1
    omega
  have e2 : c2 = c0 := by
    have := floor_mono (Nat.le_refl A) l2 g0
    have := floor_mono (Nat.le_refl A) l0 g2
    omega
  subst e1; subst e2
  have r0 := w0 rfl
  have r1 := w1 rfl
  have r2 := w2 rfl
  subst r0
  have hu : 0 < u := by
    apply Decidable.byContradiction
    intro h
    have : u = 0 := by omega
    subst this
    simp at g0
  have hs : bv b0 * u < bv (b0 + 1) * u := Nat.mul_lt_mul_of_pos_right (bv_succ b0) hu
  have hm : (bv b0 + bv (b0 + 1)) * u = bv b0 * u + bv (b0 + 1) * u := Nat.add_mul ..
  have hp : b0 % 2 < 2 := Nat.mod_lt _ (by omega)
  refine ⟨?_, ?_, l0, ?_, ?_⟩
  · rw [r1]
    split
    · omega
    · split <;> omega
  · rw [r1, r2]
    by_cases he : A = bv b0 * u
    · rw [if_pos he, if_pos (by omega)]; exact Nat.le_refl _
    · rw [if_neg he]
      split
      · omega
      · split <;> omega
  · rw [r2]
    split
    · omega
    · omega
  · intro h
    rw [r2] at h
    split at h
    · assumption
    · omega
end Go.Proofs.YtnalhfcpcpondaaDoor
/- The program's rounding rounds: the body that Make makes of toFloat's digits. -/
namespace Go.Proofs.YtnalhfcpcpondaaDoor
set_option linter.unusedVariables false
set_option linter.unusedSimpArgs false
open Go.RowKit Go.Fl64
open Ie

theorem or_one_half (y : Nat) : (y ||| 1) / 2 = y / 2 := by rw [Nat.or_div_two]; simp
theorem or_one_odd (y : Nat) : (y ||| 1) % 2 = 1 := Nat.or_mod_two_eq_one.2 (.inr rfl)
theorem or_one_eq (y : Nat) : y ||| 1 = 2 * (y / 2) + 1 := by
  have h1 := or_one_half y
  have h2 := or_one_odd y
  omega
/-- what was left out, told by an odd last digit, is rounded as it is -/
theorem rnd_sticky {x D k y m : Nat} {way : Int} (hk : 2 ≤ k) (hy : y = x / 2 ^ D) (hm : (x % 2 ^ D = 0 ∧ m = y) ∨ (x % 2 ^ D ≠ 0 ∧ m = 2 * (y / 2) + 1)) : rnd m k way = rnd x (D + k) way := by
  obtain ⟨h, rfl⟩ : ∃ h, k = h + 2 := ⟨k - 2, by omega⟩
  have e2 : (2 : Nat) ^ (h + 2) = 2 * (2 * 2 ^ h) := by rw [Nat.pow_succ, Nat.pow_succ]; omega
  have eD : (2 : Nat) ^ (D + (h + 2)) = 2 ^ D * 2 ^ (h + 2) := Nat.pow_add ..
  have hq : m / 2 ^ (h + 2) = x / 2 ^ (D + (h + 2)) := by
    rw [eD, ← Nat.div_div_eq_div_mul, ← hy]
    rcases hm with ⟨-, hm⟩ | ⟨-, hm⟩
    · rw [hm]
    · have hd : ∀ z, z / (2 * (2 * 2 ^ h)) = z / 2 / (2 * 2 ^ h) := fun z => (Nat.div_div_eq_div_mul ..).symm
      rw [e2, hd, hd, hm, show (2 * (y / 2) + 1) / 2 = y / 2 by omega]
  have hR : x % 2 ^ (D + (h + 2)) = (y % 2 ^ (h + 2)) * 2 ^ D + x % 2 ^ D := by
    rw [eD, Nat.mod_mul, hy, Nat.mul_comm]; omega
  have hM : (x % 2 ^ D = 0 ∧ m % 2 ^ (h + 2) = y % 2 ^ (h + 2)) ∨ (x % 2 ^ D ≠ 0 ∧ m % 2 ^ (h + 2) = 2 * (y % 2 ^ (h + 2) / 2) + 1) := by
    rcases hm with ⟨h1, hm⟩ | ⟨h1, hm⟩
    · exact .inl ⟨h1, by rw [hm]⟩
    · refine .inr ⟨h1, ?_⟩
      rw [hm, e2]
      generalize 2 ^ h = H
      rw [Nat.mod_mul, Nat.mod_mul (x := y), show (2 * (y / 2) + 1) % 2 = 1 by omega, show (2 * (y / 2) + 1) / 2 = y / 2 by omega]
      generalize y / 2 % (2 * H) = t
      omega
  have hrx : x % 2 ^ D < 2 ^ D := Nat.mod_lt _ (Nat.two_pow_pos D)
  have hp : 0 < 2 ^ D := Nat.two_pow_pos D
  have i0 : m % 2 ^ (h + 2) = 0 ↔ x % 2 ^ (D + (h + 2)) = 0 := by
    rw [hR]
    rcases hM with ⟨h1, h2⟩ | ⟨h1, h2⟩
    · rw [h1, h2, Nat.add_zero]
      constructor
      · intro e; rw [e, Nat.zero_mul]
      · intro e; rcases Nat.mul_eq_zero.1 e with e | e
        · exact e
        · omega
    · rw [h2]; omega
  have key : ∀ c : Nat, c = 2 * 2 ^ h → (2 ^ (h + 2) < 2 * (m % 2 ^ (h + 2)) ↔ 2 ^ (D + (h + 2)) < 2 * (x % 2 ^ (D + (h + 2)))) ∧ (2 * (m % 2 ^ (h + 2)) = 2 ^ (h + 2) ↔ 2 * (x % 2 ^ (D + (h + 2))) = 2 ^ (D + (h + 2))) := by
    intro c hc
    rw [hR, eD]
    have e3 : (2 : Nat) ^ (h + 2) = 2 * c := by rw [e2, hc]
    rw [e3] at hM ⊢
    have hc2 : c % 2 = 0 := by omega
    generalize y % (2 * c) = ry at *
    generalize m % (2 * c) = rm at *
    generalize x % 2 ^ D = rx at *
    generalize 2 ^ D = T at *
    have a1 : T * (2 * c) = 2 * (c * T) := by rw [Nat.mul_comm T, Nat.mul_assoc]
    rw [a1]
    rcases hM with ⟨h1, h2⟩ | ⟨h1, h2⟩
    · subst h1
      rw [h2, Nat.add_zero]
      constructor
      · constructor
        · intro g; have := Nat.mul_lt_mul_of_pos_right (show c < ry by omega) hp; omega
        · intro g; have : c * T < ry * T := by omega
          have := Nat.lt_of_mul_lt_mul_right this; omega
      · constructor
        · intro g; rw [show ry = c by omega]
        · intro g; have := Nat.eq_of_mul_eq_mul_right hp (show ry * T = c * T by omega); omega
    · have hlt : ry < c → ry * T + rx < c * T := by
        intro g
        have := Nat.mul_le_mul_right T (show ry + 1 ≤ c by omega)
        rw [Nat.add_mul, Nat.one_mul] at this
        omega
      have hge : c ≤ ry → c * T < ry * T + rx := by
        intro g
        have := Nat.mul_le_mul_right T g
        omega
      by_cases g : ry < c
      · have a2 := hlt g
        have a3 : rm < c := by omega
        clear hlt hge
        refine ⟨⟨fun g2 => ?_, fun g2 => ?_⟩, ⟨fun g2 => ?_, fun g2 => ?_⟩⟩
        · omega
        · omega
        · omega
        · omega
      · have a2 := hge (by omega)
        have a3 : c < rm := by omega
        clear hlt hge
        refine ⟨⟨fun g2 => ?_, fun g2 => ?_⟩, ⟨fun g2 => ?_, fun g2 => ?_⟩⟩
        · omega
        · omega
        · omega
        · omega
  have k1 := key _ rfl
  unfold rnd
  have hrup : Ie.rup m (h + 2) way = Ie.rup x (D + (h + 2)) way := by
    unfold Ie.rup
    rw [hq]
    simp only [k1.1, k1.2, ne_eq, i0]
  rw [hrup, hq]
theorem tz_iff {x n : Nat} (h0 : x ≠ 0) : tz x < n ↔ x % 2 ^ n ≠ 0 := by
  obtain ⟨h1, h2⟩ := tz_spec x x (Nat.le_refl _) h0
  constructor
  · intro hlt he
    have hd : 2 ^ (tz x + 1) ∣ x := Nat.dvd_trans (Nat.pow_dvd_pow 2 (by omega)) (Nat.dvd_of_mod_eq_zero he)
    obtain ⟨c, hc⟩ := hd
    have h3 : x / 2 ^ tz x = 2 * c := by
      rw [Nat.pow_succ, Nat.mul_assoc] at hc
      exact Nat.div_eq_of_eq_mul_right (Nat.two_pow_pos _) hc
    omega
  · intro hne
    apply Decidable.byContradiction
    intro hge
    apply hne
    have : 2 ^ n ∣ x := by rw [← h1]; exact Nat.dvd_trans (Nat.pow_dvd_pow 2 (by omega)) (Nat.dvd_mul_right _ _)
    exact Nat.mod_eq_zero_of_dvd this
theorem raw_of {x : Nat} {e : Int} {X m j k k1 : Nat} {s P : Int} {e' : Int} (hs : s = e' - (nz m : Int)) (hP : P = pl m e') (hk1 : (k1 : Int) = P - s) (hj : (j : Int) = P + 1074) (hr : ∀ way, rnd (tp m) k1 way = rnd X k way) (way : Int) : raw m e' way = ((j * 4503599627370496 + rnd X k way : Nat) : Int) := by
  unfold raw
  rw [← hP, ← hs, show (P - s).toNat = k1 by omega, hr]
  omega
/-- Make's body of a number is what its value is rounded to -/
theorem raw_is {x : Nat} {e : Int} (h0 : x ≠ 0) : ∃ j X k, IsR x e j X k ∧ (∀ way, raw (tfM true x) (e + (tfD x : Int)) way = ((j * 4503599627370496 + rnd X k way : Nat) : Int)) ∧ (k : Int) ≤ j + 1074 + (if e < 0 then -e else 0) + 64 ∧ -64 + min e (-1074) ≤ (j : Int) - 1074 - k := by
  by_cases hD : bl x ≤ 64
  · have eD : tfD x = 0 := by unfold tfD; omega
    have eM : tfM true x = x := by unfold tfM; rw [eD]; simp
    rw [eM, eD]
    have hx64 : x < 18446744073709551616 := (bl_le x 64).1 hD
    obtain ⟨n1, n2, n3⟩ := nz_facts x hx64 h0
    obtain ⟨P, hP⟩ : ∃ P, P = pl x (e + ((0 : Nat) : Int)) := ⟨_, rfl⟩
    have hPl := hP
    unfold pl at hPl
    have hPc : (P = -1074 ∧ e - nz x + 11 < -1074) ∨ (P = e - nz x + 11 ∧ -1074 ≤ P) := by
      split at hPl
      · exact .inl ⟨hPl, by omega⟩
      · exact .inr ⟨by omega, by omega⟩
    refine ⟨(P + 1074).toNat, tp x, (P - (e - nz x)).toNat, ⟨?_, ?_, ?_⟩, fun way => raw_of (x := x) (e := e) (m := x) (s := e - nz x) (P := P) (k1 := (P - (e - nz x)).toNat) (by omega) hP (by omega) (by omega) (fun _ => rfl) way, ?_, ?_⟩
    · intro K hK1 hK2
      unfold tp
      rw [Nat.mul_assoc, ← Nat.pow_add]
      congr 2
      omega
    · have : 2 ^ 11 ≤ 2 ^ (P - (e - nz x)).toNat := Nat.pow_le_pow_right (by omega) (by omega)
      refine Nat.div_lt_of_lt_mul ?_
      have : 2 ^ 11 * 9007199254740992 ≤ 2 ^ (P - (e - nz x)).toNat * 9007199254740992 := Nat.mul_le_mul_right _ this
      omega
    · rcases hPc with h | h
      · exact .inl (by omega)
      · refine .inr ?_
        rw [show (P - (e - nz x)).toNat = 11 by omega]
        omega
    · split <;> omega
    · omega
  · have eD : bl x = tfD x + 64 := by unfold tfD; omega
    obtain ⟨D, hDD⟩ : ∃ D, D = tfD x := ⟨_, rfl⟩
    rw [← hDD] at eD ⊢
    have hx1 : x < 2 ^ (D + 64) := by rw [← eD]; exact lt_bl x
    have hx2 : 2 ^ (D + 63) ≤ x := by have := le_bl h0; rw [eD] at this; exact this
    have hp : 0 < 2 ^ D := Nat.two_pow_pos D
    obtain ⟨y, hy⟩ : ∃ y, y = x / 2 ^ D := ⟨_, rfl⟩
    have hy1 : y < 18446744073709551616 := by rw [hy]; refine Nat.div_lt_of_lt_mul ?_; rw [Nat.pow_add] at hx1; exact hx1
    have hy2 : 9223372036854775808 ≤ y := by rw [hy, Nat.le_div_iff_mul_le hp, Nat.mul_comm]; rw [Nat.pow_add] at hx2; exact hx2
    have hm : (x % 2 ^ D = 0 ∧ tfM true x = y) ∨ (x % 2 ^ D ≠ 0 ∧ tfM true x = 2 * (y / 2) + 1) := by
      unfold tfM
      rw [← hDD, ← hy]
      by_cases hz : tz x < D
      · exact .inr ⟨(tz_iff h0).1 hz, by rw [decide_eq_true hz]; exact or_one_eq y⟩
      · refine .inl ⟨?_, by rw [decide_eq_false hz]; rfl⟩
        apply Decidable.byContradiction
        intro h
        exact hz ((tz_iff h0).2 h)
    obtain ⟨m, hmm⟩ : ∃ m, m = tfM true x := ⟨_, rfl⟩
    rw [← hmm] at hm ⊢
    have hm1 : m < 18446744073709551616 := by rcases hm with h | h <;> omega
    have hm2 : 9223372036854775808 ≤ m := by rcases hm with h | h <;> omega
    have hbm : bl m = 64 := bl_eq (n := 64) hm1 (.inr hm2)
    have hnz : nz m = 0 := by unfold nz; rw [← bl_bitLen, hbm]
    have htp : tp m = m := by unfold tp; rw [hnz]; simp
    obtain ⟨P, hP⟩ : ∃ P, P = pl m (e + (D : Int)) := ⟨_, rfl⟩
    have hPl := hP
    unfold pl at hPl
    rw [hnz] at hPl
    have hPc : (P = -1074 ∧ e + D + 11 < -1074) ∨ (P = e + D + 11 ∧ -1074 ≤ P) := by
      split at hPl
      · exact .inl ⟨hPl, by omega⟩
      · exact .inr ⟨by omega, by omega⟩
    have hq : ∀ k1, 11 ≤ k1 → x / 2 ^ (D + k1) = y / 2 ^ k1 := fun k1 _ => by rw [Nat.pow_add, ← Nat.div_div_eq_div_mul, hy]
    refine ⟨(P + 1074).toNat, x, D + (P - (e + D)).toNat, ⟨?_, ?_, ?_⟩, fun way => raw_of (x := x) (e := e) (m := m) (s := e + D) (P := P) (k1 := (P - (e + D)).toNat) (by rw [hnz]; omega) hP (by omega) (by omega) (fun way => by rw [htp]; exact rnd_sticky (by omega) hy hm) way, ?_, ?_⟩
    · intro K hK1 hK2
      congr 2
      omega
    · rw [hq _ (by omega)]
      have : 2 ^ 11 ≤ 2 ^ (P - (e + D)).toNat := Nat.pow_le_pow_right (by omega) (by omega)
      refine Nat.div_lt_of_lt_mul ?_
      have : 2 ^ 11 * 9007199254740992 ≤ 2 ^ (P - (e + D)).toNat * 9007199254740992 := Nat.mul_le_mul_right _ this
      omega
    · rcases hPc with h | h
      · exact .inl (by omega)
      · refine .inr ?_
        rw [hq _ (by omega), show (P - (e + D)).toNat = 11 by omega]
        omega
    · split <;> omega
    · omega
end Go.Proofs.YtnalhfcpcpondaaDoor
/- A float is made anew of its odd part and its exponent, whatever the way of rounding. -/
namespace Go.Proofs.YtnalhfcpcpondaaDoor.Ie
set_option linter.unusedVariables false
set_option linter.unusedSimpArgs false
open Go.RowKit Go.Fl64

end Go.Proofs.YtnalhfcpcpondaaDoor.Ie
/- DyadFloats: the law's walk. -/
namespace Go.Proofs.YtnalhfcpcpondaaDoor
set_option linter.unusedVariables false
set_option linter.unusedSimpArgs false
open Go.RowKit Go.Fl64

end Go.Proofs.YtnalhfcpcpondaaDoor
/- DyadFloats answers true, whatever the two floats are. -/
namespace Go.Proofs.YtnalhfcpcpondaaDoor
set_option linter.unusedVariables false
set_option linter.unusedSimpArgs false
open Go.RowKit Go.Fl64

end Go.Proofs.YtnalhfcpcpondaaDoor
/- What a number is rounded to, by its value. -/
namespace Go.Proofs.YtnalhfcpcpondaaDoor
set_option linter.unusedVariables false
set_option linter.unusedSimpArgs false
open Go.RowKit Go.Fl64
open Ie

theorem rnd0 (X k : Nat) : rnd X k ((0 : Nat) : Int) = X / 2 ^ k := by
  have h1 : ¬ (((0 : Nat) : Int) = 1) := by decide
  have h2 : ¬ (((0 : Nat) : Int) = 2) := by decide
  simp only [rnd, Ie.rup, if_neg h1, if_neg h2, Bool.false_eq_true, if_false]
theorem rnd2 (X k : Nat) : rnd X k ((2 : Nat) : Int) = if X % 2 ^ k = 0 then X / 2 ^ k else X / 2 ^ k + 1 := by
  have h1 : ¬ (((2 : Nat) : Int) = 1) := by decide
  have h2 : ((2 : Nat) : Int) = 2 := by decide
  simp only [rnd, Ie.rup, if_neg h1, if_pos h2]
  by_cases h : X % 2 ^ k = 0
  · rw [if_pos h, decide_eq_false (by simpa using h)]; rfl
  · rw [if_neg h, decide_eq_true h]; rfl
theorem rnd1 (X k : Nat) : rnd X k ((1 : Nat) : Int) = if 2 * (X % 2 ^ k) < 2 ^ k then X / 2 ^ k else if 2 * (X % 2 ^ k) = 2 ^ k then X / 2 ^ k + X / 2 ^ k % 2 else X / 2 ^ k + 1 := by
  have h0 : ((1 : Nat) : Int) = 1 := by decide
  simp only [rnd, Ie.rup, if_pos h0]
  by_cases h1 : 2 * (X % 2 ^ k) < 2 ^ k
  · rw [if_pos h1, decide_eq_false (show ¬ 2 ^ k < 2 * (X % 2 ^ k) by omega), decide_eq_false (show ¬ 2 * (X % 2 ^ k) = 2 ^ k by omega)]; rfl
  · rw [if_neg h1]
    by_cases h2 : 2 * (X % 2 ^ k) = 2 ^ k
    · rw [if_pos h2, decide_eq_false (show ¬ 2 ^ k < 2 * (X % 2 ^ k) by omega), decide_eq_true h2]
      by_cases h3 : X / 2 ^ k % 2 = 1
      · rw [decide_eq_true h3, h3]; rfl
      · rw [decide_eq_false h3, show X / 2 ^ k % 2 = 0 by omega]; rfl
    · rw [if_neg h2, decide_eq_true (show 2 ^ k < 2 * (X % 2 ^ k) by omega)]; rfl
/-- the body that x·2^e is rounded to, with no greatest one -/
def rwb (x : Nat) (e : Int) (way : Nat) : Nat := (raw (tfM true x) (e + (tfD x : Int)) (way : Int)).toNat
theorem rwb_rounds {x : Nat} {e : Int} (h0 : x ≠ 0) {K : Nat} (hK : 1200 ≤ K) (hK2 : 64 - e ≤ K) {way : Nat} : Rounds (x * 2 ^ (e + K).toNat) (2 ^ (K - 1074)) (rwb x e way) way := by
  obtain ⟨j, X, k, hR, hr, -, hl⟩ := raw_is (e := e) h0
  have L := hR.lies (K := K) (by omega) (by omega) (by omega)
  refine ⟨⟨j * 4503599627370496 + X / 2 ^ k, ⟨L.lo, L.hi⟩, ?_, ?_, ?_⟩⟩
  · intro h; subst h
    unfold rwb
    rw [hr, Int.toNat_natCast, rnd0]
  · intro h; subst h
    unfold rwb
    rw [hr, Int.toNat_natCast, rnd2]
    by_cases hx : X % 2 ^ k = 0
    · rw [if_pos hx, if_pos (L.ex.1 hx)]
    · rw [if_neg hx, if_neg (fun h => hx (L.ex.2 h)), Nat.add_assoc]
  · intro h; subst h
    unfold rwb
    rw [hr, Int.toNat_natCast, rnd1]
    have hpar : (j * 4503599627370496 + X / 2 ^ k) % 2 = X / 2 ^ k % 2 := by omega
    by_cases h1 : 2 * (X % 2 ^ k) < 2 ^ k
    · rw [if_pos h1, if_pos (L.half_lt.1 h1)]
    · rw [if_neg h1, if_neg (fun h => h1 (L.half_lt.2 h))]
      by_cases h2 : 2 * (X % 2 ^ k) = 2 ^ k
      · rw [if_pos h2, if_pos (L.half_eq.1 h2), hpar, Nat.add_assoc]
      · rw [if_neg h2, if_neg (fun h => h2 (L.half_eq.2 h)), Nat.add_assoc]
/-- the body as it is held in bounds -/
def bdy (x : Nat) (e : Int) (way : Nat) : Nat := if x = 0 then 0 else if rwb x e way < 9218868437227405312 then rwb x e way else if way = 0 then 9218868437227405311 else 9218868437227405312
theorem raw_nn {x : Nat} {e : Int} (h0 : x ≠ 0) (way : Nat) : raw (tfM true x) (e + (tfD x : Int)) (way : Int) = (rwb x e way : Int) := by
  obtain ⟨j, X, k, -, hr, -, -⟩ := raw_is (e := e) h0
  unfold rwb
  rw [hr]; rfl
theorem bod_eq {x : Nat} {e : Int} (h0 : x ≠ 0) (way : Nat) : (bod (tfM true x) (e + (tfD x : Int)) (way : Int)).toNat = bdy x e way := by
  unfold bod bdy
  rw [if_neg h0, raw_nn h0]
  by_cases h1 : rwb x e way < 9218868437227405312
  · rw [if_pos (by omega), if_pos h1]; rfl
  · rw [if_neg (by omega), if_neg h1]
    by_cases h2 : way = 0
    · subst h2; rfl
    · rw [if_neg h2]
      have : ((way : Int) == 0) = false := by simp; omega
      rw [this]; rfl
end Go.Proofs.YtnalhfcpcpondaaDoor
/- DyadRing answers true. -/
namespace Go.Proofs.YtnalhfcpcpondaaDoor
set_option linter.unusedVariables false
set_option linter.unusedSimpArgs false
open Go.RowKit Go.Fl64

end Go.Proofs.YtnalhfcpcpondaaDoor
/- DyadLeast answers true. -/
namespace Go.Proofs.YtnalhfcpcpondaaDoor
set_option linter.unusedVariables false
set_option linter.unusedSimpArgs false
open Go.RowKit Go.Fl64

theorem cmp_gt {a b : Int} (h : b < a) : 0 < cmpI a b := by
  rcases cmpI_cases a b with ⟨h1, h2⟩ | ⟨h1, h2⟩ | ⟨h1, h2⟩ <;> omega

end Go.Proofs.YtnalhfcpcpondaaDoor
/- Numbers with their signs, rounded each way. -/
namespace Go.Proofs.YtnalhfcpcpondaaDoor
set_option linter.unusedVariables false
set_option linter.unusedSimpArgs false
open Go.RowKit Go.Fl64
open Ie

theorem bdy_le (x : Nat) (e : Int) (way : Nat) : bdy x e way ≤ 9218868437227405312 := by
  unfold bdy
  split
  · omega
  · split
    · omega
    · split <;> omega
/-- the way of a mode: 0 inward, 1 to the nearest, 2 outward -/
def wyN (s : Bool) (m : Int) : Nat := if m = 2 then 1 else if (s == (m == 1)) then 2 else 0
theorem wyN_eq (s : Bool) (m : Int) : ((wyN s m : Nat) : Int) = wy s m := by
  unfold wyN wy
  split
  · rfl
  · split <;> rfl
theorem tfM_zero : tfM true 0 = 0 := by unfold tfM; rw [show tfD 0 = 0 from rfl]; simp
theorem tfM_ne {x : Nat} (h0 : x ≠ 0) : tfM true x ≠ 0 := by
  unfold tfM
  split
  · have h1 := le_bl h0
    have hp : 2 ^ tfD x ≤ x := Nat.le_trans (Nat.pow_le_pow_right (by omega) (by unfold tfD; omega)) h1
    have := (Nat.le_div_iff_mul_le (Nat.two_pow_pos (tfD x))).2 (show 1 * 2 ^ tfD x ≤ x by omega)
    omega
  · rw [or_one_eq]; omega
/-- toFloat's answer by its body -/
theorem tf_bdy {s : Bool} {x : Nat} {e m : Int} (hm : 1 ≤ m ∧ m ≤ 3) : tfF s true x e m = sig s (bdy x e (wyN s m)) := by
  unfold tfF mk
  rw [if_pos (by omega)]
  congr 1
  by_cases h0 : x = 0
  · subst h0
    rw [tfM_zero, if_pos rfl]
    unfold bdy; rw [if_pos rfl]
  · rw [if_neg (tfM_ne h0), ← wyN_eq, bod_eq h0]
end Go.Proofs.YtnalhfcpcpondaaDoor
/- The document's ways to round a number come to the same body. -/
namespace Go.Proofs.YtnalhfcpcpondaaDoor
set_option linter.unusedVariables false
set_option linter.unusedSimpArgs false
open Go.RowKit Go.Fl64
open Ie

theorem rnd_rounds {x : Nat} {e : Int} {j X k : Nat} (hR : IsR x e j X k) {K : Nat} (hK : 1074 ≤ K) (h1 : 0 ≤ e + K) (h2 : 0 ≤ (j : Int) - 1074 - k + K) (way : Nat) : Rounds (x * 2 ^ (e + K).toNat) (2 ^ (K - 1074)) (j * 4503599627370496 + rnd X k (way : Int)) way := by
  have L := hR.lies hK h1 h2
  refine ⟨⟨j * 4503599627370496 + X / 2 ^ k, ⟨L.lo, L.hi⟩, ?_, ?_, ?_⟩⟩
  · intro h; subst h
    rw [rnd0]
  · intro h; subst h
    rw [rnd2]
    by_cases hx : X % 2 ^ k = 0
    · rw [if_pos hx, if_pos (L.ex.1 hx)]
    · rw [if_neg hx, if_neg (fun h => hx (L.ex.2 h)), Nat.add_assoc]
  · intro h; subst h
    rw [rnd1]
    have hpar : (j * 4503599627370496 + X / 2 ^ k) % 2 = X / 2 ^ k % 2 := by omega
    by_cases h1 : 2 * (X % 2 ^ k) < 2 ^ k
    · rw [if_pos h1, if_pos (L.half_lt.1 h1)]
    · rw [if_neg h1, if_neg (fun h => h1 (L.half_lt.2 h))]
      by_cases h2 : 2 * (X % 2 ^ k) = 2 ^ k
      · rw [if_pos h2, if_pos (L.half_eq.1 h2), hpar, Nat.add_assoc]
      · rw [if_neg h2, if_neg (fun h => h2 (L.half_eq.2 h)), Nat.add_assoc]
/-- whatever the rung's number is taken to be, the body is the same -/
theorem IsR.rwb {x : Nat} {e : Int} {j X k : Nat} (hR : IsR x e j X k) (h0 : x ≠ 0) {way : Nat} (hw : way = 0 ∨ way = 1 ∨ way = 2) : rwb x e way = j * 4503599627370496 + rnd X k (way : Int) := by
  obtain ⟨K, hK⟩ : ∃ K : Nat, K = 1200 + (64 - e).toNat + (1074 + k) := ⟨_, rfl⟩
  have a := rwb_rounds (e := e) h0 (K := K) (by omega) (by omega) (way := way)
  have b := rnd_rounds hR (K := K) (by omega) (by omega) (by omega) way
  have h1 := Rounds.mono hw a b (Nat.le_refl _)
  have h2 := Rounds.mono hw b a (Nat.le_refl _)
  omega
end Go.Proofs.YtnalhfcpcpondaaDoor
/- What the document's rounding comes to, in numbers. -/
namespace Go.Proofs.YtnalhfcpcpondaaDoor
set_option linter.unusedVariables false
set_option linter.unusedSimpArgs false
open Go.RowKit Go.Fl64
open Ie

end Go.Proofs.YtnalhfcpcpondaaDoor
/- The document's build, small and sign. -/
namespace Go.Proofs.YtnalhfcpcpondaaDoor
set_option linter.unusedVariables false
set_option linter.unusedSimpArgs false
open Go.RowKit Go.Fl64
open Ie

theorem cinf_m (w : World) : Calls Tryd.prog 16 #[.int .i64 (-1)] w fun r w' => r = .returned (.float .f64 18442240474082181120) ∧ w' = w := by
  have hb := Ie.run_frombits
  go_enter Tryd.func16, Tryd.ntmps16
  go_wp2
  go_ret
  exact ⟨rfl, rfl⟩
end Go.Proofs.YtnalhfcpcpondaaDoor
/- The document's rounding, walked. -/
namespace Go.Proofs.YtnalhfcpcpondaaDoor
set_option linter.unusedVariables false
set_option linter.unusedSimpArgs false
open Go.RowKit Go.Fl64
open Ie

end Go.Proofs.YtnalhfcpcpondaaDoor
/- The document's rounding, walked. -/
namespace Go.Proofs.YtnalhfcpcpondaaDoor
set_option linter.unusedVariables false
set_option linter.unusedSimpArgs false
open Go.RowKit Go.Fl64
open Ie

end Go.Proofs.YtnalhfcpcpondaaDoor
/- The document's rounding, walked. -/
namespace Go.Proofs.YtnalhfcpcpondaaDoor
set_option linter.unusedVariables false
set_option linter.unusedSimpArgs false
open Go.RowKit Go.Fl64
open Ie

end Go.Proofs.YtnalhfcpcpondaaDoor
/- The document's rounding, walked. -/
namespace Go.Proofs.YtnalhfcpcpondaaDoor
set_option linter.unusedVariables false
set_option linter.unusedSimpArgs false
open Go.RowKit Go.Fl64
open Ie

end Go.Proofs.YtnalhfcpcpondaaDoor
/- The document's rounding, joined. -/
namespace Go.Proofs.YtnalhfcpcpondaaDoor
set_option linter.unusedVariables false
set_option linter.unusedSimpArgs false
open Go.RowKit Go.Fl64
open Ie

end Go.Proofs.YtnalhfcpcpondaaDoor
/- The document's mode, Round, Between. -/
namespace Go.Proofs.YtnalhfcpcpondaaDoor
set_option linter.unusedVariables false
set_option linter.unusedSimpArgs false
open Go.RowKit Go.Fl64
open Ie

end Go.Proofs.YtnalhfcpcpondaaDoor
/- The document's Between. -/
namespace Go.Proofs.YtnalhfcpcpondaaDoor
set_option linter.unusedVariables false
set_option linter.unusedSimpArgs false
open Go.RowKit

end Go.Proofs.YtnalhfcpcpondaaDoor
/- The document's SqrtTo. -/
namespace Go.Proofs.YtnalhfcpcpondaaDoor
set_option linter.unusedVariables false
set_option linter.unusedSimpArgs false
open Go.RowKit

end Go.Proofs.YtnalhfcpcpondaaDoor
/- The document's RatioTo. -/
namespace Go.Proofs.YtnalhfcpcpondaaDoor
set_option linter.unusedVariables false
set_option linter.unusedSimpArgs false
open Go.RowKit

end Go.Proofs.YtnalhfcpcpondaaDoor
/- What is cut off finely enough rounds the same way: the digits below the highest 64 tell only whether there are any. -/
namespace Go.Proofs.YtnalhfcpcpondaaDoor
set_option linter.unusedVariables false
set_option linter.unusedSimpArgs false
open Go.RowKit Go.Fl64
open Ie

end Go.Proofs.YtnalhfcpcpondaaDoor
/- A quotient rounded: the program's digits and the document's come to the same float. -/
namespace Go.Proofs.YtnalhfcpcpondaaDoor
set_option linter.unusedVariables false
set_option linter.unusedSimpArgs false
open Go.RowKit Go.Fl64
open Ie

end Go.Proofs.YtnalhfcpcpondaaDoor
/- A root rounded: the program's digits and the document's come to the same float. -/
namespace Go.Proofs.YtnalhfcpcpondaaDoor
set_option linter.unusedVariables false
set_option linter.unusedSimpArgs false
open Go.RowKit Go.Fl64
open Ie

end Go.Proofs.YtnalhfcpcpondaaDoor
/- The document's numbers between two cuts, rounded. -/
namespace Go.Proofs.YtnalhfcpcpondaaDoor
set_option linter.unusedVariables false
set_option linter.unusedSimpArgs false
open Go.RowKit Go.Fl64
open Ie

end Go.Proofs.YtnalhfcpcpondaaDoor
/- The document's Add and Sub of finite floats. -/
namespace Go.Proofs.YtnalhfcpcpondaaDoor
set_option linter.unusedVariables false
set_option linter.unusedSimpArgs false
open Go.RowKit Go.Fl64

end Go.Proofs.YtnalhfcpcpondaaDoor
/- Add and Sub of floats: the program and the document answer alike. -/
namespace Go.Proofs.YtnalhfcpcpondaaDoor
set_option linter.unusedVariables false
set_option linter.unusedSimpArgs false
open Go.RowKit Go.Fl64

theorem tF_fits (a : Nat) : Fits (-1074) 1025 (tF a).2.1 (tF a).2.2 := by
  refine Fits.cn (.inr ⟨(Ie.lp_bound a).1, by have := (Ie.lp_bound a).2; omega, ?_⟩)
  have h := Ie.mant_bound a
  have h2 := (Ie.lp_bound a).2
  have : 2 ^ 53 ≤ 2 ^ (1025 - Ie.lp a).toNat := Nat.pow_le_pow_right (by decide) (by omega)
  omega
theorem tF_ok (a : Nat) : Ok (tF a) := by
  refine ok_cn (Fits.ok (lo := -1074) (hi := 1025) (.inr ⟨(Ie.lp_bound a).1, by have := (Ie.lp_bound a).2; omega, ?_⟩) (by omega) (by omega) (by omega))
  have h := Ie.mant_bound a
  have h2 := (Ie.lp_bound a).2
  have : 2 ^ 53 ≤ 2 ^ (1025 - Ie.lp a).toNat := Nat.pow_le_pow_right (by decide) (by omega)
  omega
theorem cn_parts (a m : Nat) (ha : a < 18446744073709551616) (hf : mag a < 9218868437227405312) (hm : Ie.sM a = (m : Int)) : cn (neg a) m (Ie.sE a) = tF a := by
  unfold tF cn
  rcases of_parts a m ha hf hm with ⟨h1, h2⟩ | ⟨h1, h2, -, h3, h4⟩
  · rw [if_pos h1, if_pos h2]
  · rw [if_neg h1, if_neg h2, h3, h4]
theorem exact_ok (a : Nat) (ha : a < 18446744073709551616) (hf : mag a < 9218868437227405312) (w : World) (hT : Tab32 w) (hI : Ie.Tab w) : Calls Tryd.prog 43 #[.float .f64 a] w fun r w' => OutA w (tF a) r w' := by
  obtain ⟨m, hm, hml⟩ := sM_lt a ha
  refine exact_1 a (tF a) w fun W hW => (of_fin a m ha W (hT.later hW) (Tab.later hI hW) hf hm).mono ?_
  rintro r w' ⟨A, rfl, hN, hb⟩
  have hp := hN.pn
  rw [cn_parts a m ha hf hm] at hp
  obtain ⟨s, ao, n, cap, e, rfl⟩ := hp.shape
  exact ⟨s, ao, n, cap, e, rfl, hp, hb⟩

/-- the sum of two numbers, in its one form -/
def tS (t1 t2 : Bool × Nat × Int) : Bool × Nat × Int := cn (sumN t1.1 t1.2.1 t1.2.2 t2.1 t2.2.1 t2.2.2).1 (sumN t1.1 t1.2.1 t1.2.2 t2.1 t2.2.1 t2.2.2).2.1 (sumN t1.1 t1.2.1 t1.2.2 t2.1 t2.2.1 t2.2.2).2.2
theorem tS_fits {lo hi : Int} {t1 t2 : Bool × Nat × Int} (h1 : Fits lo hi t1.2.1 t1.2.2) (h2 : Fits lo hi t2.2.1 t2.2.2) : Fits lo (hi + 1) (tS t1 t2).2.1 (tS t1 t2).2.2 := Fits.cn (Fits.sum h1 h2)
theorem tS_okR {lo hi : Int} {t1 t2 : Bool × Nat × Int} (h1 : Fits lo hi t1.2.1 t1.2.2) (h2 : Fits lo hi t2.2.1 t2.2.2) (hb : hi + 1 - lo ≤ 65536) (hlo : -65536 ≤ lo) (hhi : hi + 1 ≤ 65536) : okR (sumN t1.1 t1.2.1 t1.2.2 t2.1 t2.2.1 t2.2.2).1 (sumN t1.1 t1.2.1 t1.2.2 t2.1 t2.2.1 t2.2.2).2.1 (sumN t1.1 t1.2.1 t1.2.2 t2.1 t2.2.1 t2.2.2).2.2 = true := (Fits.sum h1 h2).ok hb hlo hhi
theorem psign {t : Bool × Nat × Int} {A : Value} {w : World} (ok : Ok t) (h : PN w A t) : Calls Tryd.prog 60 #[A] w fun r w' => r = .returned (.int .i64 (sgI t.1 (dlen t.2.1))) ∧ Below w.heap.size w w' := by
  obtain ⟨ao, cap, rfl, h1⟩ := h
  obtain ⟨f1, -, -, -, -⟩ := ok.facts
  exact sign_ok h1 (by omega) ok
theorem sgI_nought {s : Bool} {x : Nat} : (sgI s (dlen x) == 0) = decide (x = 0) := by
  unfold sgI
  by_cases h : x = 0
  · rw [if_pos (dlen_eq_zero.2 h), decide_eq_true h]; rfl
  · rw [if_neg (fun e => h (dlen_eq_zero.1 e)), decide_eq_false h]; cases s <;> rfl
theorem sig_lt {s : Bool} {n : Nat} (h : n ≤ 9218868437227405312) : sig s n < 18446744073709551616 := by
  unfold sig; cases s <;> simp <;> omega
theorem tfF_lt {s : Bool} {x : Nat} {e m : Int} (hm : 1 ≤ m ∧ m ≤ 3) : tfF s true x e m < 18446744073709551616 := by
  rw [tf_bdy hm]; exact sig_lt (bdy_le _ _ _)
theorem fin_false {a : Nat} : fin a = false ↔ ¬ mag a < 9218868437227405312 := by unfold fin; simp
theorem addX_lt {a b : Nat} (ha : a < 18446744073709551616) (hb : b < 18446744073709551616) : addX a b < 18446744073709551616 := by
  unfold addX
  repeat' split
  all_goals first | exact ha | exact hb | decide

/-- what a call of floats answers, alike X -/
def OutF2 (W : World) (X : Nat) (r : Ending) (w' : World) : Prop := ∃ n, r = .returned (.float .f64 n) ∧ lk n X ∧ Below W.heap.size W w'
end Go.Proofs.YtnalhfcpcpondaaDoor
/- Sub of floats, and the walk of RoundSums. -/
namespace Go.Proofs.YtnalhfcpcpondaaDoor
set_option linter.unusedVariables false
set_option linter.unusedSimpArgs false
open Go.RowKit Go.Fl64

theorem psub_1 (a b X : Nat) (m : Int) (w : World) (hb : b < 18446744073709551616) (k : Calls Tryd.prog 46 #[.float .f64 a, .float .f64 (ngt b), .int .i64 m] w fun r w' => OutF2 w X r w') :
    Calls Tryd.prog 35 #[.float .f64 a, .float .f64 b, .int .i64 m] w fun r w' => OutF2 w X r w' := by
  have hn : ∀ w, (Op.unary UnOp.neg (.float .f64 b)).run Tryd.prog w = .ok (.float .f64 (ngt b)) w := fun w => by rw [← negF b hb]; rfl
  go_enter Tryd.func35, Tryd.ntmps35
  go_wp2_with fail
  refine k.mono ?_
  rintro r w1 ⟨n, rfl, h1, h2⟩
  have HB : Hid (lk n X ∧ Below w.heap.size w w1) := ⟨h1, h2⟩
  clear k h1 h2
  go_wp2_with fail
  go_ret
  exact ⟨_, rfl, HB.out.1, HB.out.2⟩
end Go.Proofs.YtnalhfcpcpondaaDoor
/- A range over a function whose rounds are told of the memory that they are handed. -/
namespace Go.Proofs.YtnalhfcpcpondaaDoor
set_option linter.unusedVariables false
set_option linter.unusedSimpArgs false
open Go Go.RowKit

end Go.Proofs.YtnalhfcpcpondaaDoor
/- The small functions of sums: exact, rounded. -/
namespace Go.Proofs.YtnalhfcpcpondaaDoor
set_option linter.unusedVariables false
set_option linter.unusedSimpArgs false
open Go.RowKit Go.Fl64

end Go.Proofs.YtnalhfcpcpondaaDoor
/- The iterator over a list's floats, as exact numbers. -/
namespace Go.Proofs.YtnalhfcpcpondaaDoor
set_option linter.unusedVariables false
set_option linter.unusedSimpArgs false
open Go Go.RowKit Go.Fl64 Go.Shelf
attribute [local go_sem] Oper.semAt_some

/-- a list of floats in memory -/
def FAt (w : World) (ao : Option Addr) (len : Nat) (xs : Nat → Nat) : Prop := ∃ b off, (0 < len → ao = some ⟨b, off, none⟩) ∧ ∀ j, j < len → w.cell? ⟨b, off + j, none⟩ = some (.float .f64 (xs j))
theorem FAt.later {w w' : World} {ao : Option Addr} {len : Nat} {xs : Nat → Nat} (h : FAt w ao len xs) (hb : Below w.heap.size w w') : FAt w' ao len xs := by
  obtain ⟨b, off, h1, h2⟩ := h
  refine ⟨b, off, h1, fun j hj => ?_⟩
  have := h2 j hj
  have hlt : b < w.heap.size := by
    unfold World.cell? at this
    rcases Nat.lt_or_ge b w.heap.size with h | h
    · exact h
    · rw [Array.getElem?_eq_none h] at this
      simp at this
  exact (hb.cell (p := ⟨b, off + j, none⟩) hlt).trans this

end Go.Proofs.YtnalhfcpcpondaaDoor
/- The exact sum of a list's floats. -/
namespace Go.Proofs.YtnalhfcpcpondaaDoor
set_option linter.unusedVariables false
set_option linter.unusedSimpArgs false
open Go Go.RowKit Go.Fl64 Go.Shelf
attribute [local go_sem] Oper.semAt_some

/-- the sum of the first floats of a list, in its one form -/
def tSum (xs : Nat → Nat) : Nat → Bool × Nat × Int
  | 0 => (false, 0, 0)
  | k + 1 => tS (tSum xs k) (tF (xs k))

theorem cell_put {W : World} {l : Nat} {o o' : Obj} {p : Addr} {v : Value} (h : W.cell? p = some v) (hl : W.heap[l]? = some o) (ho : o.isCells = false) : (W.putObj l o').cell? p = some v := by
  unfold World.cell? at *
  by_cases e : p.block = l
  · rw [e, hl] at h
    cases o <;> simp_all [Obj.isCells]
  · rw [World.putObj_heap_other e]; exact h
theorem pn_put {W : World} {l : Nat} {o o' : Obj} {A : Value} {t : Bool × Nat × Int} (h : PN W A t) (hl : W.heap[l]? = some o) (ho : o.isCells = false) : PN (W.putObj l o') A t := by
  obtain ⟨ao, cap, h1, ao', cap', h2, h3, h4, b, off, h5, h6⟩ := h
  exact ⟨ao, cap, h1, ao', cap', h2, h3, h4, b, off, h5, fun i hi => cell_put (h6 i hi) hl ho⟩
theorem box_put {W : World} {l g : Nat} {o o' : Obj} {c : Array Value} {ty : TypeId} {z : Nat × Nat} (h : W.heap[g]? = some (.cells c ty z)) (hl : W.heap[l]? = some o) (ho : o.isCells = false) : (W.putObj l o').heap[g]? = some (.cells c ty z) := by
  have e : g ≠ l := by
    intro e
    rw [e, hl] at h
    cases h
    cases ho
  rw [World.putObj_heap_other e]; exact h
/-- what holds between two rounds: the result's box is empty, the sum's box holds the sum so far -/
def TotI (w : World) (B g3 : Nat) (xs : Nat → Nat) (k : Nat) (W : World) : Prop :=
  Below w.heap.size w W ∧ B ≤ W.heap.size ∧ W.heap[w.heap.size]? = some (.cells #[.bool false, .slice none 0 0, .int .i64 0] 60 (0, 0)) ∧ ∃ s ao n cap e, W.heap[g3]? = some (.cells #[.bool s, .slice ao n cap, .int .i64 e] 60 (0, 0)) ∧ PN W (.agg #[.bool s, .slice ao n cap, .int .i64 e]) (tSum xs k)
theorem TotI.later {w : World} {B g3 : Nat} {xs : Nat → Nat} {k : Nat} {A C : World} (h : TotI w B g3 xs k A) (hb : Below A.heap.size A C) : TotI w B g3 xs k C := by
  obtain ⟨h1, h2, h3, s, ao, n, cap, e, h4, h5⟩ := h
  exact ⟨h1.trans (hb.mono h1.size), Nat.le_trans h2 hb.size, box_later h3 hb (lt_of_box h3), s, ao, n, cap, e, box_later h4 hb (lt_of_box h4), h5.later hb⟩
theorem TotI.put {w : World} {B g3 : Nat} {xs : Nat → Nat} {k l : Nat} {A : World} {o o' : Obj} (h : TotI w B g3 xs k A) (hB : w.heap.size ≤ B) (hl : B ≤ l) (ho : A.heap[l]? = some o) (hc : o.isCells = false) : TotI w B g3 xs k (A.putObj l o') := by
  obtain ⟨h1, h2, h3, s, ao, n, cap, e, h4, h5⟩ := h
  have hb : Below w.heap.size A (A.putObj l o') := (Below.refl w.heap.size A).grown (grownBy_putObj' A l o') (by have := (Array.getElem?_eq_some_iff.1 ho).1; omega) (fun k e => by cases e; omega)
  exact ⟨h1.trans hb, Nat.le_trans h2 hb.size, box_put h3 ho hc, s, ao, n, cap, e, box_put h4 ho hc, pn_put h5 ho hc⟩
theorem KeepsFrom.below {B : Nat} {W W' : World} (h : Below W.heap.size W W') : KeepsFrom B W W' := ⟨h.size, fun k o _ hk _ => box_later hk h (Array.getElem?_eq_some_iff.1 hk).1⟩

end Go.Proofs.YtnalhfcpcpondaaDoor
/- sums.taken, sums.finite, sums.near. -/
namespace Go.Proofs.YtnalhfcpcpondaaDoor
set_option linter.unusedVariables false
set_option linter.unusedSimpArgs false
open Go.RowKit Go.Fl64

/-- a number of the program in its box, made since a world -/
def UxP (w3 wc : World) (g : Nat) (s : Bool) (ao : Option Addr) (n cap : Nat) (ex : Int) (t : Bool × Nat × Int) : Prop := wc.heap[g]? = some (.cells #[.bool s, .slice ao n cap, .int .i64 ex] 60 (0, 0)) ∧ w3.heap.size ≤ g ∧ Below w3.heap.size w3 wc ∧ PN wc (.agg #[.bool s, .slice ao n cap, .int .i64 ex]) t
theorem UxP.new {w3 w7 : World} {s : Bool} {ao : Option Addr} {n cap : Nat} {ex : Int} {t : Bool × Nat × Int} (hn : PN w7 (.agg #[.bool s, .slice ao n cap, .int .i64 ex]) t) (hb : Below w3.heap.size w3 w7) : UxP w3 (w7.alloc (.cells #[.bool s, .slice ao n cap, .int .i64 ex] 60)) w7.heap.size s ao n cap ex t :=
  ⟨heap_alloc_new _ _, hb.size, hb.alloc hb.size _, hn.later ((Below.refl _ _).alloc (Nat.le_refl _) _)⟩
theorem UxP.put {w3 w7 : World} {g : Nat} {s : Bool} {ao : Option Addr} {n cap : Nat} {ex : Int} {t : Bool × Nat × Int} (hn : PN w7 (.agg #[.bool s, .slice ao n cap, .int .i64 ex]) t) (hb : Below w3.heap.size w3 w7) (hg : w3.heap.size ≤ g) (hbx : w7.heap[g]? = some (.cells #[.bool false, .slice none 0 0, .int .i64 0] 60 (0, 0))) :
    UxP w3 (((w7.setCell ⟨g, 0, none⟩ (.bool s)).setCell ⟨g, 1, none⟩ (.slice ao n cap)).setCell ⟨g, 2, none⟩ (.int .i64 ex)) g s ao n cap ex t :=
  ⟨store3 _ _ _ hbx, hg, below_store3 hb hg _ _ _, pn_store hn hbx _ _ _⟩

end Go.Proofs.YtnalhfcpcpondaaDoor
/- sums.finite, sums.near, sums.floats, sums.Two. -/
namespace Go.Proofs.YtnalhfcpcpondaaDoor
set_option linter.unusedVariables false
set_option linter.unusedSimpArgs false
open Go.RowKit Go.Fl64

end Go.Proofs.YtnalhfcpcpondaaDoor
/- The sum of two floats to the nearest, as a function; sums.near and the document's add. -/
namespace Go.Proofs.YtnalhfcpcpondaaDoor
set_option linter.unusedVariables false
set_option linter.unusedSimpArgs false
open Go.RowKit Go.Fl64

theorem lk_or {n X : Nat} (h : lk n X) : n = X ∨ (isNaN n = true ∧ isNaN X = true) := by
  cases hn : isNaN X
  · exact .inl (h.eq hn)
  · cases h2 : isNaN n
    · have := h.2
      unfold same at this
      rw [hn, h2] at this
      have e : n = X := by simp at this; omega
      rw [e, hn] at h2
      cases h2
    · exact .inr ⟨rfl, rfl⟩
end Go.Proofs.YtnalhfcpcpondaaDoor
/- The program's Div of floats where something is to be rounded. -/
namespace Go.Proofs.YtnalhfcpcpondaaDoor
set_option linter.unusedVariables false
set_option linter.unusedSimpArgs false
open Go.RowKit Go.Fl64

/-- how many digits are laid behind the dividend -/
def rtK (t1 t2 : Bool × Nat × Int) : Nat := (max 0 (64 + (bl t2.2.1 : Int) - (bl t1.2.1 : Int))).toNat
/-- the quotient, rounded -/
def rtF (t1 t2 : Bool × Nat × Int) (m : Int) : Nat := tfF (t1.1 != t2.1) (decide (t1.2.1 * 2 ^ rtK t1 t2 % t2.2.1 = 0)) (t1.2.1 * 2 ^ rtK t1 t2 / t2.2.1) (t1.2.2 - t2.2.2 - rtK t1 t2) m
theorem pratio {t1 t2 : Bool × Nat × Int} {X Y : Value} {m : Int} {w : World} (hT : Tab32 w) (o1 : Ok t1) (o2 : Ok t2) (h1 : PN w X t1) (h2 : PN w Y t2) (x0 : t1.2.1 ≠ 0) (y0 : t2.2.1 ≠ 0) (hm : 1 ≤ m ∧ m ≤ 3) :
    Calls Tryd.prog 44 #[X, Y, .int .i64 m] w fun r w' => r = .returned (.tuple #[.float .f64 (rtF t1 t2 m), .int .i64 0]) ∧ Below w.heap.size w w' := by
  obtain ⟨pa, pc, rfl, i1⟩ := h1
  obtain ⟨qa, qc, rfl, i2⟩ := h2
  have f1 := o1.facts
  have f2 := o2.facts
  have bx := bl_le_dlen t1.2.1
  have by' := bl_le_dlen t2.2.1
  have hn0 : ((dlen t1.2.1 : Int) == 0) = false := by
    have : dlen t1.2.1 ≠ 0 := fun e => x0 (dlen_eq_zero.1 e)
    simp; omega
  have hn1 : ((dlen t2.2.1 : Int) == 0) = false := by
    have : dlen t2.2.1 ≠ 0 := fun e => y0 (dlen_eq_zero.1 e)
    simp; omega
  have hk : max 0 (64 + (bl t2.2.1 : Int) - (bl t1.2.1 : Int)) = (rtK t1 t2 : Int) := by unfold rtK; omega
  refine pratio_1 t1.1 t2.1 pa qa _ pc _ qc _ _ (rtK t1 t2) (bl t1.2.1) (bl t2.2.1) t1.2.2 t2.2.2 m (t1.1 != t2.1) w (rfl : (!(t1.1 == t2.1)) = (t1.1 != t2.1)) hT i1 i2 (by omega) (by omega) y0 (by omega) (by omega) (by omega) (by omega) (by omega) rfl rfl (by omega) (by omega) hk (by omega) hn0 hn1 (fun W' g hW' hg => ?_)
  have := maybe2 hg (i1.later hW') (i2.later hW') (by omega) (by omega)
  rw [show okN t1.1 (dlen t1.2.1) t1.2.1 t1.2.2 = true from o1, show okN t2.1 (dlen t2.2.1) t2.2.1 t2.2.2 = true from o2] at this
  exact this

theorem ne_nought {a : Nat} (ha : a < 18446744073709551616) (hf : mag a < 9218868437227405312) : (FloatKind.f64.format.order a 0 != some Ordering.eq) = decide (mag a ≠ 0) := by
  rw [bne, ord_eq a 0 ha (by decide)]
  have na : isNaN a = false := by unfold isNaN; simp; omega
  have nb : isNaN 0 = false := by decide
  unfold Fl64.eq
  rw [na, nb]
  have e0 : stp 0 = 0 := by decide
  rw [e0]
  by_cases h : mag a = 0
  · have : stp a = 0 := by unfold stp sgn; rw [h]; simp
    simp [this, h]
  · have : stp a ≠ 0 := by unfold stp sgn; split <;> omega
    simp [this, h]
theorem pplain_y (a : Nat) (ha : a < 18446744073709551616) (hf : mag a < 9218868437227405312) (h0 : mag a ≠ 0) (w : World) : Calls Tryd.prog 40 #[.float .f64 a] w fun r w' => r = .returned (.bool true) ∧ w' = w := by
  have k := pfin_y a ha hf
  have he := ne_nought ha hf
  rw [decide_eq_true h0] at he
  clear ha hf h0
  go_enter Tryd.func40, Tryd.ntmps40
  go_wp2_with (go_at_call 47; refine (k _).mono ?_; rintro e w' ⟨rfl, rfl⟩)
  go_ret
  exact ⟨rfl, rfl⟩
theorem pplain_z (a : Nat) (ha : a < 18446744073709551616) (h0 : mag a = 0) (w : World) : Calls Tryd.prog 40 #[.float .f64 a] w fun r w' => r = .returned (.bool false) ∧ w' = w := by
  have k := pfin_y a ha (by omega)
  have he := ne_nought ha (by omega)
  rw [decide_eq_false (by omega)] at he
  clear ha h0
  go_enter Tryd.func40, Tryd.ntmps40
  go_wp2_with (go_at_call 47; refine (k _).mono ?_; rintro e w' ⟨rfl, rfl⟩)
  go_ret
  exact ⟨rfl, rfl⟩
theorem pplain_n (a : Nat) (ha : a < 18446744073709551616) (hf : ¬ mag a < 9218868437227405312) (w : World) : Calls Tryd.prog 40 #[.float .f64 a] w fun r w' => r = .returned (.bool false) ∧ w' = w.drew := by
  have k := pfin_n a ha hf w
  clear ha hf
  go_enter Tryd.func40, Tryd.ntmps40
  go_wp2_with fail
  refine k.mono ?_
  rintro e w' ⟨rfl, hw⟩
  rw [hw]
  clear hw k w'
  go_wp2
  go_ret
  exact ⟨rfl, rfl⟩

set_option maxHeartbeats 4000000 in
set_option maxRecDepth 200000 in
theorem pdiv_r (a b F : Nat) (m : Int) (ta tb : Bool × Nat × Int) (w : World) (hm : isM m = true)
    (hfa : ∀ W, Calls Tryd.prog 40 #[.float .f64 a] W fun r w' => r = .returned (.bool true) ∧ w' = W)
    (hfb : ∀ W, Calls Tryd.prog 40 #[.float .f64 b] W fun r w' => r = .returned (.bool true) ∧ w' = W)
    (kA : Calls Tryd.prog 43 #[.float .f64 a] w fun r w' => OutA w ta r w')
    (kB : ∀ W, Below w.heap.size w W → Calls Tryd.prog 43 #[.float .f64 b] W fun r w' => OutA W tb r w')
    (kC : ∀ W X Y, Below w.heap.size w W → PN W X ta → PN W Y tb → Calls Tryd.prog 44 #[X, Y, .int .i64 m] W fun r w' => r = .returned (.tuple #[.float .f64 F, .int .i64 0]) ∧ Below W.heap.size W w') :
    Calls Tryd.prog 33 #[.float .f64 a, .float .f64 b, .int .i64 m] w fun r w' => r = .returned (.float .f64 F) ∧ Below w.heap.size w w' := by
  have kV := pvalid m w
  rw [hm] at kV
  have HKB : Hid (∀ W, Below w.heap.size w W → Calls Tryd.prog 43 #[.float .f64 b] W fun r w' => OutA W tb r w') := kB
  have HKC : Hid (∀ W X Y, Below w.heap.size w W → PN W X ta → PN W Y tb → Calls Tryd.prog 44 #[X, Y, .int .i64 m] W fun r w' => r = .returned (.tuple #[.float .f64 F, .int .i64 0]) ∧ Below W.heap.size W w') := kC
  clear kB kC
  go_enter Tryd.func33, Tryd.ntmps33
  go_wp2_with fail
  refine kV.mono ?_
  rintro r w' ⟨rfl, hw⟩
  rw [hw]
  clear hw kV
  have kN := hfa w
  go_wp2_with fail
  refine kN.mono ?_
  rintro r w' ⟨rfl, hw⟩
  rw [hw]
  clear hw kN hfa
  have kN := hfb w
  go_wp2_with fail
  refine kN.mono ?_
  rintro r w' ⟨rfl, hw⟩
  rw [hw]
  clear hw kN hfb
  go_wp2_with fail
  refine kA.mono ?_
  rintro r w1 ⟨s1, ao1, n1, cap1, ex1, rfl, hP1, hb1⟩
  have k2 := HKB.out w1 hb1
  clear kA
  go_wp2_with fail
  refine k2.mono ?_
  rintro r w2 ⟨s2, ao2, n2, cap2, ex2, rfl, hP2, hb2⟩
  have HB2 : Hid (Below w.heap.size w w2) := hb1.trans (hb2.mono hb1.size)
  have k3 := HKC.out w2 _ _ HB2.out (hP1.later hb2) hP2
  clear k2 hP1 hP2 hb1 hb2
  go_wp2_with fail
  refine k3.mono ?_
  rintro r w3 ⟨rfl, hb3⟩
  have HB3 : Hid (Below w.heap.size w w3) := HB2.out.trans (hb3.mono HB2.out.size)
  clear k3 hb3
  go_wp2_with fail
  go_ret
  exact ⟨rfl, HB3.out⟩

/-- Div of two floats that are finite and not nought -/
theorem pdiv_ok (a b : Nat) (m : Int) (w : World) (hm : isM m = true) (hT : Tab32 w) (hI : Ie.Tab w) (ha : a < 18446744073709551616) (hb : b < 18446744073709551616) (hfa : mag a < 9218868437227405312) (hfb : mag b < 9218868437227405312) (ha0 : mag a ≠ 0) (hb0 : mag b ≠ 0) (xa : (tF a).2.1 ≠ 0) (xb : (tF b).2.1 ≠ 0) :
    Calls Tryd.prog 33 #[.float .f64 a, .float .f64 b, .int .i64 m] w fun r w' => r = .returned (.float .f64 (rtF (tF a) (tF b) m)) ∧ Below w.heap.size w w' :=
  pdiv_r a b _ m (tF a) (tF b) w hm (pplain_y a ha hfa ha0) (pplain_y b hb hfb hb0) (exact_ok a ha hfa w hT hI) (fun W h => exact_ok b hb hfb W (hT.later h) (Tab.later hI h)) (fun W X Y h h1 h2 => pratio (hT.later h) (tF_ok a) (tF_ok b) h1 h2 xa xb (isM_iff.1 hm))
theorem tF_ne {a : Nat} (h : mag a ≠ 0) : (tF a).2.1 ≠ 0 := by
  have h1 := Ie.mant_ne h
  unfold tF cn
  rw [if_neg h1]
  intro e
  have := (tz_spec _ _ (Nat.le_refl _) h1).2
  simp only at e
  rw [e] at this
  simp at this
end Go.Proofs.YtnalhfcpcpondaaDoor
/- The program's Hypot of finite floats. -/
namespace Go.Proofs.YtnalhfcpcpondaaDoor
set_option linter.unusedVariables false
set_option linter.unusedSimpArgs false
open Go.RowKit Go.Fl64

end Go.Proofs.YtnalhfcpcpondaaDoor
/- Hypot of 3 and 4, and a float made whole: what the law's own test asks. -/
namespace Go.Proofs.YtnalhfcpcpondaaDoor
set_option linter.unusedVariables false
set_option linter.unusedSimpArgs false
open Go.RowKit Go.Fl64

/-- the product of two numbers, in its one form -/
def tM (t1 t2 : Bool × Nat × Int) : Bool × Nat × Int := cn (!(t1.1 == t2.1)) (t1.2.1 * t2.2.1) (t1.2.2 + t2.2.2)
theorem tM_ok {t1 t2 : Bool × Nat × Int} (h : okR (!(t1.1 == t2.1)) (t1.2.1 * t2.2.1) (t1.2.2 + t2.2.2) = true) : Ok (tM t1 t2) := ok_cn h
end Go.Proofs.YtnalhfcpcpondaaDoor
