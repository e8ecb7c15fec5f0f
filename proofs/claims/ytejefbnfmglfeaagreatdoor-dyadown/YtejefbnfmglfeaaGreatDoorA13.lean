/- Own work: contracts of the program's functions, part 13: RC2 RC3 V1 V2 E2 V3 E3 V4 RC4 W44. -/
import Derived.Test.YtejefbnfmglfeaaGreatDoorA12
import Derived.Test.YtejefbnfmglfeaaGreatDoorA3
import Derived.Test.YtejefbnfmglfeaaGreatDoorA6
import Derived.Test.YtejefbnfmglfeaaGreatDoorA8
import Derived.Test.YtejefbnfmglfeaaGreatDoorA7
import Derived.Test.YtejefbnfmglfeaaGreatDoorA11
import Derived.Laws.AppendOwnNone
import Derived.Test.YtejefbnfmglfeaaGreatDoorA10

/- The document's Add; Add, Sub, Mul refused. -/
namespace Go.Proofs.YtejefbnfmglfeaaGreatDoor
set_option linter.unusedVariables false
set_option linter.unusedSimpArgs false
open Go.RowKit

set_option maxHeartbeats 4000000 in
set_option maxRecDepth 200000 in
theorem radd_no (na nb : Bool) (ua va : Option Addr) (un uc vn vc : Nat) (ea eb : Int) (w : World) (k67 : ∀ W g, Below w.heap.size w W → W.heap[g]? = some (.cells #[.bool na, .slice ua un uc, .int .i64 ea, .bool nb, .slice va vn vc, .int .i64 eb] 24 (0, 0)) → Calls Tryz.prog 68 #[.slice (some ⟨g, 0, none⟩) 2 2] W fun r w' => r = .returned (.bool false) ∧ Below W.heap.size W w') :
    Calls Tryz.prog 29 #[.agg #[.bool na, .slice ua un uc, .int .i64 ea], .agg #[.bool nb, .slice va vn vc, .int .i64 eb]] w fun r w' => r = .returned (.tuple #[.agg #[.bool false, .slice none 0 0, .int .i64 0], .int .i64 1]) ∧ Below w.heap.size w w' := by
  obtain ⟨W, hW⟩ : ∃ W, W = ((w.alloc (.cells #[.bool na, .slice ua un uc, .int .i64 ea] 24)).alloc (.cells #[.bool nb, .slice va vn vc, .int .i64 eb] 24)).alloc (.cells #[.bool false, .slice none 0 0, .int .i64 0] 24) := ⟨_, rfl⟩
  obtain ⟨hA, hBb, hC, hsz, hBW⟩ := boxes3 _ _ _ hW
  have hB4 : Below w.heap.size w (W.alloc (.cells #[.bool na, .slice ua un uc, .int .i64 ea, .bool nb, .slice va vn vc, .int .i64 eb] 24)) := hBW.alloc hBW.size _
  have k1 := k67 (W.alloc (.cells #[.bool na, .slice ua un uc, .int .i64 ea, .bool nb, .slice va vn vc, .int .i64 eb] 24)) (w.heap.size + 1 + 1 + 1) hB4 (by rw [← hsz]; exact heap_alloc_new _ _)
  have HH : Hid ((W.heap[w.heap.size]? = some (.cells #[.bool na, .slice ua un uc, .int .i64 ea] 24 (0, 0)) ∧ W.heap[w.heap.size + 1]? = some (.cells #[.bool nb, .slice va vn vc, .int .i64 eb] 24 (0, 0)) ∧ W.heap[w.heap.size + 1 + 1]? = some (.cells #[.bool false, .slice none 0 0, .int .i64 0] 24 (0, 0))) ∧ W.heap.size = w.heap.size + 1 + 1 + 1 ∧ Below w.heap.size w W ∧ Below W.heap.size W (W.alloc (.cells #[.bool na, .slice ua un uc, .int .i64 ea, .bool nb, .slice va vn vc, .int .i64 eb] 24))) := ⟨⟨hA, hBb, hC⟩, hsz, hBW, (Below.refl _ _).alloc (Nat.le_refl _) _⟩
  clear hA hBb hC hsz hBW hB4 k67
  go_enter Tryz.func29, Tryz.ntmps29
  go_wp2_with fail
  rw [← hW]
  clear hW
  refine k1.mono ?_
  rintro r w1 ⟨rfl, hB1⟩
  clear k1
  have hBW1 : Below W.heap.size W w1 := HH.out.2.2.2.trans (hB1.mono HH.out.2.2.2.size)
  obtain ⟨⟨a0, a1, a2⟩, -⟩ := box_cells29 (box_later HH.out.1.1 hBW1 (by have := HH.out.2.1; omega))
  obtain ⟨⟨b0, b1, b2⟩, -⟩ := box_cells29 (box_later HH.out.1.2.1 hBW1 (by have := HH.out.2.1; omega))
  have HB1 : Hid (Below W.heap.size W w1) := hBW1
  clear hB1 hBW1
  have HCz : Hid (w1.heap[w.heap.size + 1 + 1]? = some (.cells #[.bool false, .slice none 0 0, .int .i64 0] 24 (0, 0))) := box_later HH.out.1.2.2 HB1.out (by have := HH.out.2.1; omega)
  obtain ⟨⟨x1, x2, x3⟩, x4, x5, x6⟩ := box_cells29 HCz.out
  go_wp2
  refine bodyPost_ret (results_cell_tmp_row rfl _ _ (w.heap.size + 1 + 1) 24 #[.bool false, .slice none 0 0, .int .i64 0] (0, 0) _ rfl (store3_29 _ _ _ HCz.out) Tryz.underlying24 rfl Tryz.info24) rfl ?_
  obtain ⟨-, hs, hBW, -⟩ := HH.out
  exact ⟨rfl, below_store3 (hBW.trans (HB1.out.mono hBW.size)) (by omega) _ _ _⟩

set_option maxHeartbeats 4000000 in
set_option maxRecDepth 200000 in
theorem rsub_no (na nb : Bool) (ua va : Option Addr) (un uc vn vc : Nat) (ea eb : Int) (w : World) (k67 : ∀ W g, Below w.heap.size w W → W.heap[g]? = some (.cells #[.bool na, .slice ua un uc, .int .i64 ea, .bool nb, .slice va vn vc, .int .i64 eb] 24 (0, 0)) → Calls Tryz.prog 68 #[.slice (some ⟨g, 0, none⟩) 2 2] W fun r w' => r = .returned (.bool false) ∧ Below W.heap.size W w') :
    Calls Tryz.prog 31 #[.agg #[.bool na, .slice ua un uc, .int .i64 ea], .agg #[.bool nb, .slice va vn vc, .int .i64 eb]] w fun r w' => r = .returned (.tuple #[.agg #[.bool false, .slice none 0 0, .int .i64 0], .int .i64 1]) ∧ Below w.heap.size w w' := by
  obtain ⟨W, hW⟩ : ∃ W, W = ((w.alloc (.cells #[.bool na, .slice ua un uc, .int .i64 ea] 24)).alloc (.cells #[.bool nb, .slice va vn vc, .int .i64 eb] 24)).alloc (.cells #[.bool false, .slice none 0 0, .int .i64 0] 24) := ⟨_, rfl⟩
  obtain ⟨hA, hBb, hC, hsz, hBW⟩ := boxes3 _ _ _ hW
  have hB4 : Below w.heap.size w (W.alloc (.cells #[.bool na, .slice ua un uc, .int .i64 ea, .bool nb, .slice va vn vc, .int .i64 eb] 24)) := hBW.alloc hBW.size _
  have k1 := k67 (W.alloc (.cells #[.bool na, .slice ua un uc, .int .i64 ea, .bool nb, .slice va vn vc, .int .i64 eb] 24)) (w.heap.size + 1 + 1 + 1) hB4 (by rw [← hsz]; exact heap_alloc_new _ _)
  have HH : Hid ((W.heap[w.heap.size]? = some (.cells #[.bool na, .slice ua un uc, .int .i64 ea] 24 (0, 0)) ∧ W.heap[w.heap.size + 1]? = some (.cells #[.bool nb, .slice va vn vc, .int .i64 eb] 24 (0, 0)) ∧ W.heap[w.heap.size + 1 + 1]? = some (.cells #[.bool false, .slice none 0 0, .int .i64 0] 24 (0, 0))) ∧ W.heap.size = w.heap.size + 1 + 1 + 1 ∧ Below w.heap.size w W ∧ Below W.heap.size W (W.alloc (.cells #[.bool na, .slice ua un uc, .int .i64 ea, .bool nb, .slice va vn vc, .int .i64 eb] 24))) := ⟨⟨hA, hBb, hC⟩, hsz, hBW, (Below.refl _ _).alloc (Nat.le_refl _) _⟩
  clear hA hBb hC hsz hBW hB4 k67
  go_enter Tryz.func31, Tryz.ntmps31
  go_wp2_with fail
  rw [← hW]
  clear hW
  refine k1.mono ?_
  rintro r w1 ⟨rfl, hB1⟩
  clear k1
  have hBW1 : Below W.heap.size W w1 := HH.out.2.2.2.trans (hB1.mono HH.out.2.2.2.size)
  obtain ⟨⟨a0, a1, a2⟩, -⟩ := box_cells29 (box_later HH.out.1.1 hBW1 (by have := HH.out.2.1; omega))
  obtain ⟨⟨b0, b1, b2⟩, -⟩ := box_cells29 (box_later HH.out.1.2.1 hBW1 (by have := HH.out.2.1; omega))
  have HB1 : Hid (Below W.heap.size W w1) := hBW1
  clear hB1 hBW1
  have HCz : Hid (w1.heap[w.heap.size + 1 + 1]? = some (.cells #[.bool false, .slice none 0 0, .int .i64 0] 24 (0, 0))) := box_later HH.out.1.2.2 HB1.out (by have := HH.out.2.1; omega)
  obtain ⟨⟨x1, x2, x3⟩, x4, x5, x6⟩ := box_cells29 HCz.out
  go_wp2
  refine bodyPost_ret (results_cell_tmp_row rfl _ _ (w.heap.size + 1 + 1) 24 #[.bool false, .slice none 0 0, .int .i64 0] (0, 0) _ rfl (store3_29 _ _ _ HCz.out) Tryz.underlying24 rfl Tryz.info24) rfl ?_
  obtain ⟨-, hs, hBW, -⟩ := HH.out
  exact ⟨rfl, below_store3 (hBW.trans (HB1.out.mono hBW.size)) (by omega) _ _ _⟩

set_option maxHeartbeats 4000000 in
set_option maxRecDepth 200000 in
theorem rmul_no (na nb : Bool) (ua va : Option Addr) (un uc vn vc : Nat) (ea eb : Int) (w : World) (k67 : ∀ W g, Below w.heap.size w W → W.heap[g]? = some (.cells #[.bool na, .slice ua un uc, .int .i64 ea, .bool nb, .slice va vn vc, .int .i64 eb] 24 (0, 0)) → Calls Tryz.prog 68 #[.slice (some ⟨g, 0, none⟩) 2 2] W fun r w' => r = .returned (.bool false) ∧ Below W.heap.size W w') :
    Calls Tryz.prog 33 #[.agg #[.bool na, .slice ua un uc, .int .i64 ea], .agg #[.bool nb, .slice va vn vc, .int .i64 eb]] w fun r w' => r = .returned (.tuple #[.agg #[.bool false, .slice none 0 0, .int .i64 0], .int .i64 1]) ∧ Below w.heap.size w w' := by
  obtain ⟨W, hW⟩ : ∃ W, W = ((w.alloc (.cells #[.bool na, .slice ua un uc, .int .i64 ea] 24)).alloc (.cells #[.bool nb, .slice va vn vc, .int .i64 eb] 24)).alloc (.cells #[.bool false, .slice none 0 0, .int .i64 0] 24) := ⟨_, rfl⟩
  obtain ⟨hA, hBb, hC, hsz, hBW⟩ := boxes3 _ _ _ hW
  have hB4 : Below w.heap.size w (W.alloc (.cells #[.bool na, .slice ua un uc, .int .i64 ea, .bool nb, .slice va vn vc, .int .i64 eb] 24)) := hBW.alloc hBW.size _
  have k1 := k67 (W.alloc (.cells #[.bool na, .slice ua un uc, .int .i64 ea, .bool nb, .slice va vn vc, .int .i64 eb] 24)) (w.heap.size + 1 + 1 + 1) hB4 (by rw [← hsz]; exact heap_alloc_new _ _)
  have HH : Hid ((W.heap[w.heap.size]? = some (.cells #[.bool na, .slice ua un uc, .int .i64 ea] 24 (0, 0)) ∧ W.heap[w.heap.size + 1]? = some (.cells #[.bool nb, .slice va vn vc, .int .i64 eb] 24 (0, 0)) ∧ W.heap[w.heap.size + 1 + 1]? = some (.cells #[.bool false, .slice none 0 0, .int .i64 0] 24 (0, 0))) ∧ W.heap.size = w.heap.size + 1 + 1 + 1 ∧ Below w.heap.size w W ∧ Below W.heap.size W (W.alloc (.cells #[.bool na, .slice ua un uc, .int .i64 ea, .bool nb, .slice va vn vc, .int .i64 eb] 24))) := ⟨⟨hA, hBb, hC⟩, hsz, hBW, (Below.refl _ _).alloc (Nat.le_refl _) _⟩
  clear hA hBb hC hsz hBW hB4 k67
  go_enter Tryz.func33, Tryz.ntmps33
  go_wp2_with fail
  rw [← hW]
  clear hW
  refine k1.mono ?_
  rintro r w1 ⟨rfl, hB1⟩
  clear k1
  have hBW1 : Below W.heap.size W w1 := HH.out.2.2.2.trans (hB1.mono HH.out.2.2.2.size)
  obtain ⟨⟨a0, a1, a2⟩, -⟩ := box_cells29 (box_later HH.out.1.1 hBW1 (by have := HH.out.2.1; omega))
  obtain ⟨⟨b0, b1, b2⟩, -⟩ := box_cells29 (box_later HH.out.1.2.1 hBW1 (by have := HH.out.2.1; omega))
  have HB1 : Hid (Below W.heap.size W w1) := hBW1
  clear hB1 hBW1
  have HCz : Hid (w1.heap[w.heap.size + 1 + 1]? = some (.cells #[.bool false, .slice none 0 0, .int .i64 0] 24 (0, 0))) := box_later HH.out.1.2.2 HB1.out (by have := HH.out.2.1; omega)
  obtain ⟨⟨x1, x2, x3⟩, x4, x5, x6⟩ := box_cells29 HCz.out
  go_wp2
  refine bodyPost_ret (results_cell_tmp_row rfl _ _ (w.heap.size + 1 + 1) 24 #[.bool false, .slice none 0 0, .int .i64 0] (0, 0) _ rfl (store3_29 _ _ _ HCz.out) Tryz.underlying24 rfl Tryz.info24) rfl ?_
  obtain ⟨-, hs, hBW, -⟩ := HH.out
  exact ⟨rfl, below_store3 (hBW.trans (HB1.out.mono hBW.size)) (by omega) _ _ _⟩

set_option maxHeartbeats 4000000 in
set_option maxRecDepth 200000 in
theorem radd_far (na nb : Bool) (ua va : Option Addr) (un uc vn vc : Nat) (ea eb : Int) (w : World) (k67 : ∀ W g, Below w.heap.size w W → W.heap[g]? = some (.cells #[.bool na, .slice ua un uc, .int .i64 ea, .bool nb, .slice va vn vc, .int .i64 eb] 24 (0, 0)) → Calls Tryz.prog 68 #[.slice (some ⟨g, 0, none⟩) 2 2] W fun r w' => r = .returned (.bool true) ∧ Below W.heap.size W w') (kF : ∀ W, Below w.heap.size w W → Calls Tryz.prog 69 #[.agg #[.bool na, .slice ua un uc, .int .i64 ea], .agg #[.bool nb, .slice va vn vc, .int .i64 eb]] W fun r w' => r = .returned (.bool true) ∧ Below W.heap.size W w') :
    Calls Tryz.prog 29 #[.agg #[.bool na, .slice ua un uc, .int .i64 ea], .agg #[.bool nb, .slice va vn vc, .int .i64 eb]] w fun r w' => r = .returned (.tuple #[.agg #[.bool false, .slice none 0 0, .int .i64 0], .int .i64 2]) ∧ Below w.heap.size w w' := by
  obtain ⟨W, hW⟩ : ∃ W, W = ((w.alloc (.cells #[.bool na, .slice ua un uc, .int .i64 ea] 24)).alloc (.cells #[.bool nb, .slice va vn vc, .int .i64 eb] 24)).alloc (.cells #[.bool false, .slice none 0 0, .int .i64 0] 24) := ⟨_, rfl⟩
  obtain ⟨hA, hBb, hC, hsz, hBW⟩ := boxes3 _ _ _ hW
  have hB4 : Below w.heap.size w (W.alloc (.cells #[.bool na, .slice ua un uc, .int .i64 ea, .bool nb, .slice va vn vc, .int .i64 eb] 24)) := hBW.alloc hBW.size _
  have k1 := k67 (W.alloc (.cells #[.bool na, .slice ua un uc, .int .i64 ea, .bool nb, .slice va vn vc, .int .i64 eb] 24)) (w.heap.size + 1 + 1 + 1) hB4 (by rw [← hsz]; exact heap_alloc_new _ _)
  have HH : Hid ((W.heap[w.heap.size]? = some (.cells #[.bool na, .slice ua un uc, .int .i64 ea] 24 (0, 0)) ∧ W.heap[w.heap.size + 1]? = some (.cells #[.bool nb, .slice va vn vc, .int .i64 eb] 24 (0, 0)) ∧ W.heap[w.heap.size + 1 + 1]? = some (.cells #[.bool false, .slice none 0 0, .int .i64 0] 24 (0, 0))) ∧ W.heap.size = w.heap.size + 1 + 1 + 1 ∧ Below w.heap.size w W ∧ Below W.heap.size W (W.alloc (.cells #[.bool na, .slice ua un uc, .int .i64 ea, .bool nb, .slice va vn vc, .int .i64 eb] 24))) := ⟨⟨hA, hBb, hC⟩, hsz, hBW, (Below.refl _ _).alloc (Nat.le_refl _) _⟩
  have HKF : Hid (∀ W, Below w.heap.size w W → Calls Tryz.prog 69 #[.agg #[.bool na, .slice ua un uc, .int .i64 ea], .agg #[.bool nb, .slice va vn vc, .int .i64 eb]] W fun r w' => r = .returned (.bool true) ∧ Below W.heap.size W w') := kF
  clear kF
  clear hA hBb hC hsz hBW hB4 k67
  go_enter Tryz.func29, Tryz.ntmps29
  go_wp2_with fail
  rw [← hW]
  clear hW
  refine k1.mono ?_
  rintro r w1 ⟨rfl, hB1⟩
  clear k1
  have hBW1 : Below W.heap.size W w1 := HH.out.2.2.2.trans (hB1.mono HH.out.2.2.2.size)
  obtain ⟨⟨a0, a1, a2⟩, -⟩ := box_cells29 (box_later HH.out.1.1 hBW1 (by have := HH.out.2.1; omega))
  obtain ⟨⟨b0, b1, b2⟩, -⟩ := box_cells29 (box_later HH.out.1.2.1 hBW1 (by have := HH.out.2.1; omega))
  have HB1 : Hid (Below W.heap.size W w1) := hBW1
  clear hB1 hBW1
  go_wp2_with fail
  refine (HKF.out w1 (HH.out.2.2.1.trans (HB1.out.mono HH.out.2.2.1.size))).mono ?_
  rintro r w2 ⟨rfl, hB2⟩
  have HB2 : Hid (Below W.heap.size W w2) := HB1.out.trans (hB2.mono HB1.out.size)
  clear hB2 a0 a1 a2 b0 b1 b2
  have HCz : Hid (w2.heap[w.heap.size + 1 + 1]? = some (.cells #[.bool false, .slice none 0 0, .int .i64 0] 24 (0, 0))) := box_later HH.out.1.2.2 HB2.out (by have := HH.out.2.1; omega)
  obtain ⟨⟨x1, x2, x3⟩, x4, x5, x6⟩ := box_cells29 HCz.out
  go_wp2
  refine bodyPost_ret (results_cell_tmp_row rfl _ _ (w.heap.size + 1 + 1) 24 #[.bool false, .slice none 0 0, .int .i64 0] (0, 0) _ rfl (store3_29 _ _ _ HCz.out) Tryz.underlying24 rfl Tryz.info24) rfl ?_
  obtain ⟨-, hs, hBW, -⟩ := HH.out
  exact ⟨rfl, below_store3 (hBW.trans (HB2.out.mono hBW.size)) (by omega) _ _ _⟩

theorem at_box {w : World} {ao : Option Addr} {n z g : Nat} {p q r : Value} (h : At w ao n z) (hz : dlen z = n) (hg : w.heap[g]? = some (.cells #[p, q, r] 24 (0, 0))) (hp : ∀ k, p ≠ .int .u32 k) (hq : ∀ k, q ≠ .int .u32 k) (hr : ∀ k, r ≠ .int .u32 k) (a b c : Value) : At (((w.setCell ⟨g, 0, none⟩ a).setCell ⟨g, 1, none⟩ b).setCell ⟨g, 2, none⟩ c) ao n z := by
  obtain ⟨bb, o, h1, h2⟩ := h
  refine ⟨bb, o, h1, fun i hi => ?_⟩
  by_cases hb : bb = g
  · subst hb
    have := h2 i hi
    simp only [World.cell?, hg] at this
    exfalso
    have hlt : o + i < 3 := by
      rcases Nat.lt_or_ge (o + i) 3 with h | h
      · exact h
      · rw [Array.getElem?_eq_none (by simpa using h)] at this; simp at this
    rcases (show o + i = 0 ∨ o + i = 1 ∨ o + i = 2 by omega) with h | h | h
    · rw [h] at this; simp at this; exact hp _ this
    · rw [h] at this; simp at this; exact hq _ this
    · rw [h] at this; simp at this; exact hr _ this
  · rw [World.cell?_setCell_other _ _ _ _ (by intro e; simp at e <;> omega), World.cell?_setCell_other _ _ _ _ (by intro e; simp at e <;> omega), World.cell?_setCell_other _ _ _ _ (by intro e; simp at e <;> omega)]
    exact h2 i hi
theorem rn_store {w : World} {base : Nat} {A : Value} {t : Bool × Nat × Int} {g : Nat} (h : RN w base A t) (hg : w.heap[g]? = some (.cells #[.bool false, .slice none 0 0, .int .i64 0] 24 (0, 0))) (a b c : Value) : RN (((w.setCell ⟨g, 0, none⟩ a).setCell ⟨g, 1, none⟩ b).setCell ⟨g, 2, none⟩ c) base A t := by
  obtain ⟨ao, cap, h1, h0, h2⟩ := h
  exact ⟨ao, cap, h1, h0, at_box h2 rfl hg (by simp) (by simp) (by simp) a b c⟩

/-- the answer of a call that answers a number and an error -/
def AnsR (w : World) (V : Bool) (t : Bool × Nat × Int) (r : Ending) (w' : World) : Prop := ∃ A, r = .returned (.tuple #[A, .int .i64 (if V then 0 else 2)]) ∧ RN w' w.heap.size A (Ans V t) ∧ Below w.heap.size w w'

set_option maxHeartbeats 4000000 in
set_option maxRecDepth 200000 in
theorem radd_1 (na nb : Bool) (ua va : Option Addr) (un uc vn vc : Nat) (ea eb : Int) (t : Bool × Nat × Int) (V : Bool) (w : World) (hV : okN t.1 (dlen t.2.1) t.2.1 t.2.2 = V) (hz : dlen t.2.1 ≤ 35184372088832) (k67 : ∀ W g, Below w.heap.size w W → W.heap[g]? = some (.cells #[.bool na, .slice ua un uc, .int .i64 ea, .bool nb, .slice va vn vc, .int .i64 eb] 24 (0, 0)) → Calls Tryz.prog 68 #[.slice (some ⟨g, 0, none⟩) 2 2] W fun r w' => r = .returned (.bool true) ∧ Below W.heap.size W w') (kF : ∀ W, Below w.heap.size w W → Calls Tryz.prog 69 #[.agg #[.bool na, .slice ua un uc, .int .i64 ea], .agg #[.bool nb, .slice va vn vc, .int .i64 eb]] W fun r w' => r = .returned (.bool false) ∧ Below W.heap.size W w')
    (kP : ∀ W, Below w.heap.size w W → Calls Tryz.prog 71 #[.agg #[.bool na, .slice ua un uc, .int .i64 ea], .agg #[.bool nb, .slice va vn vc, .int .i64 eb]] W fun r w' => ∃ a, r = .returned a ∧ RN w' W.heap.size a t ∧ Below W.heap.size W w') :
    Calls Tryz.prog 29 #[.agg #[.bool na, .slice ua un uc, .int .i64 ea], .agg #[.bool nb, .slice va vn vc, .int .i64 eb]] w fun r w' => AnsR w V t r w' := by
  have HKP : Hid (∀ W, Below w.heap.size w W → Calls Tryz.prog 71 #[.agg #[.bool na, .slice ua un uc, .int .i64 ea], .agg #[.bool nb, .slice va vn vc, .int .i64 eb]] W fun r w' => ∃ a, r = .returned a ∧ RN w' W.heap.size a t ∧ Below W.heap.size W w') := kP
  have HV : Hid (okN t.1 (dlen t.2.1) t.2.1 t.2.2 = V ∧ dlen t.2.1 ≤ 35184372088832) := ⟨hV, hz⟩
  clear kP hV hz
  obtain ⟨W, hW⟩ : ∃ W, W = ((w.alloc (.cells #[.bool na, .slice ua un uc, .int .i64 ea] 24)).alloc (.cells #[.bool nb, .slice va vn vc, .int .i64 eb] 24)).alloc (.cells #[.bool false, .slice none 0 0, .int .i64 0] 24) := ⟨_, rfl⟩
  obtain ⟨hA, hBb, hC, hsz, hBW⟩ := boxes3 _ _ _ hW
  have hB4 : Below w.heap.size w (W.alloc (.cells #[.bool na, .slice ua un uc, .int .i64 ea, .bool nb, .slice va vn vc, .int .i64 eb] 24)) := hBW.alloc hBW.size _
  have k1 := k67 (W.alloc (.cells #[.bool na, .slice ua un uc, .int .i64 ea, .bool nb, .slice va vn vc, .int .i64 eb] 24)) (w.heap.size + 1 + 1 + 1) hB4 (by rw [← hsz]; exact heap_alloc_new _ _)
  have HH : Hid ((W.heap[w.heap.size]? = some (.cells #[.bool na, .slice ua un uc, .int .i64 ea] 24 (0, 0)) ∧ W.heap[w.heap.size + 1]? = some (.cells #[.bool nb, .slice va vn vc, .int .i64 eb] 24 (0, 0)) ∧ W.heap[w.heap.size + 1 + 1]? = some (.cells #[.bool false, .slice none 0 0, .int .i64 0] 24 (0, 0))) ∧ W.heap.size = w.heap.size + 1 + 1 + 1 ∧ Below w.heap.size w W ∧ Below W.heap.size W (W.alloc (.cells #[.bool na, .slice ua un uc, .int .i64 ea, .bool nb, .slice va vn vc, .int .i64 eb] 24))) := ⟨⟨hA, hBb, hC⟩, hsz, hBW, (Below.refl _ _).alloc (Nat.le_refl _) _⟩
  have HKF : Hid (∀ W, Below w.heap.size w W → Calls Tryz.prog 69 #[.agg #[.bool na, .slice ua un uc, .int .i64 ea], .agg #[.bool nb, .slice va vn vc, .int .i64 eb]] W fun r w' => r = .returned (.bool false) ∧ Below W.heap.size W w') := kF
  clear kF
  clear hA hBb hC hsz hBW hB4 k67
  go_enter Tryz.func29, Tryz.ntmps29
  go_wp2_with fail
  rw [← hW]
  clear hW
  refine k1.mono ?_
  rintro r w1 ⟨rfl, hB1⟩
  clear k1
  have hBW1 : Below W.heap.size W w1 := HH.out.2.2.2.trans (hB1.mono HH.out.2.2.2.size)
  obtain ⟨⟨a0, a1, a2⟩, -⟩ := box_cells29 (box_later HH.out.1.1 hBW1 (by have := HH.out.2.1; omega))
  obtain ⟨⟨b0, b1, b2⟩, -⟩ := box_cells29 (box_later HH.out.1.2.1 hBW1 (by have := HH.out.2.1; omega))
  have HB1 : Hid (Below W.heap.size W w1) := hBW1
  clear hB1 hBW1
  go_wp2_with fail
  refine (HKF.out w1 (HH.out.2.2.1.trans (HB1.out.mono HH.out.2.2.1.size))).mono ?_
  rintro r w2 ⟨rfl, hB2⟩
  have HB2 : Hid (Below W.heap.size W w2) := HB1.out.trans (hB2.mono HB1.out.size)
  clear hB2 a0 a1 a2 b0 b1 b2
  obtain ⟨⟨a0, a1, a2⟩, -⟩ := box_cells29 (box_later HH.out.1.1 HB2.out (by have := HH.out.2.1; omega))
  obtain ⟨⟨b0, b1, b2⟩, -⟩ := box_cells29 (box_later HH.out.1.2.1 HB2.out (by have := HH.out.2.1; omega))
  go_wp2_with fail
  refine (HKP.out w2 (HH.out.2.2.1.trans (HB2.out.mono HH.out.2.2.1.size))).mono ?_
  rintro r w3 ⟨A, rfl, hN, hB3⟩
  have HB3 : Hid (Below W.heap.size W w3) := HB2.out.trans (hB3.mono HB2.out.size)
  have HN : Hid (RN w3 w.heap.size A t) := hN.mono (by have := HH.out.2.1; have := HB2.out.size; omega)
  clear hN hB3 a0 a1 a2 b0 b1 b2
  go_wp2_with fail
  refine (kept_rn HN.out HV.out.2 V HV.out.1).mono ?_
  rintro r w4 ⟨⟨s4, ao4, n4, cap4, e4, rfl, hN4⟩, hB4⟩
  have HB4 : Hid (Below W.heap.size W w4) := HB3.out.trans (hB4.mono HB3.out.size)
  clear hB4
  generalize hE : (if V then (0 : Int) else 2) = E at *
  have HE : Hid ((if V then (0 : Int) else 2) = E) := hE
  clear hE
  have HCz : Hid (w4.heap[w.heap.size + 1 + 1]? = some (.cells #[.bool false, .slice none 0 0, .int .i64 0] 24 (0, 0))) := box_later HH.out.1.2.2 HB4.out (by have := HH.out.2.1; omega)
  obtain ⟨⟨x1, x2, x3⟩, x4, x5, x6⟩ := box_cells29 HCz.out
  go_wp2
  refine bodyPost_ret (results_cell_tmp_row rfl _ _ (w.heap.size + 1 + 1) 24 #[.bool s4, .slice ao4 n4 cap4, .int .i64 e4] (0, 0) _ rfl (store3_29 _ _ _ HCz.out) Tryz.underlying24 rfl Tryz.info24) rfl ?_
  obtain ⟨-, hs, hBW, -⟩ := HH.out
  refine ⟨_, by rw [HE.out]; rfl, rn_store hN4.out HCz.out _ _ _, below_store3 (hBW.trans (HB4.out.mono hBW.size)) (by omega) _ _ _⟩

end Go.Proofs.YtejefbnfmglfeaaGreatDoor

/- The document's Sub; far numbers; all of Add, Sub, Mul, Shift. -/
namespace Go.Proofs.YtejefbnfmglfeaaGreatDoor
set_option linter.unusedVariables false
set_option linter.unusedSimpArgs false
open Go.RowKit

set_option maxHeartbeats 4000000 in
set_option maxRecDepth 200000 in
theorem rsub_1 (na nb : Bool) (ua va : Option Addr) (un uc vn vc : Nat) (ea eb : Int) (nc : Bool) (xa : Option Addr) (xn xc : Nat) (ec : Int) (t : Bool × Nat × Int) (V : Bool) (w : World) (k67 : ∀ W g, Below w.heap.size w W → W.heap[g]? = some (.cells #[.bool na, .slice ua un uc, .int .i64 ea, .bool nb, .slice va vn vc, .int .i64 eb] 24 (0, 0)) → Calls Tryz.prog 68 #[.slice (some ⟨g, 0, none⟩) 2 2] W fun r w' => r = .returned (.bool true) ∧ Below W.heap.size W w') (kM : ∀ W, Calls Tryz.prog 45 #[.agg #[.bool nb, .slice va vn vc, .int .i64 eb]] W fun r w' => r = .returned (.agg #[.bool nc, .slice xa xn xc, .int .i64 ec]) ∧ Below W.heap.size W w')
    (kA : ∀ W, Below w.heap.size w W → Calls Tryz.prog 29 #[.agg #[.bool na, .slice ua un uc, .int .i64 ea], .agg #[.bool nc, .slice xa xn xc, .int .i64 ec]] W fun r w' => AnsR W V t r w') :
    Calls Tryz.prog 31 #[.agg #[.bool na, .slice ua un uc, .int .i64 ea], .agg #[.bool nb, .slice va vn vc, .int .i64 eb]] w fun r w' => AnsR w V t r w' := by
  have HKM : Hid (∀ W, Calls Tryz.prog 45 #[.agg #[.bool nb, .slice va vn vc, .int .i64 eb]] W fun r w' => r = .returned (.agg #[.bool nc, .slice xa xn xc, .int .i64 ec]) ∧ Below W.heap.size W w') := kM
  have HKA : Hid (∀ W, Below w.heap.size w W → Calls Tryz.prog 29 #[.agg #[.bool na, .slice ua un uc, .int .i64 ea], .agg #[.bool nc, .slice xa xn xc, .int .i64 ec]] W fun r w' => AnsR W V t r w') := kA
  clear kM kA
  obtain ⟨W, hW⟩ : ∃ W, W = ((w.alloc (.cells #[.bool na, .slice ua un uc, .int .i64 ea] 24)).alloc (.cells #[.bool nb, .slice va vn vc, .int .i64 eb] 24)).alloc (.cells #[.bool false, .slice none 0 0, .int .i64 0] 24) := ⟨_, rfl⟩
  obtain ⟨hA, hBb, hC, hsz, hBW⟩ := boxes3 _ _ _ hW
  have hB4 : Below w.heap.size w (W.alloc (.cells #[.bool na, .slice ua un uc, .int .i64 ea, .bool nb, .slice va vn vc, .int .i64 eb] 24)) := hBW.alloc hBW.size _
  have k1 := k67 (W.alloc (.cells #[.bool na, .slice ua un uc, .int .i64 ea, .bool nb, .slice va vn vc, .int .i64 eb] 24)) (w.heap.size + 1 + 1 + 1) hB4 (by rw [← hsz]; exact heap_alloc_new _ _)
  have HH : Hid ((W.heap[w.heap.size]? = some (.cells #[.bool na, .slice ua un uc, .int .i64 ea] 24 (0, 0)) ∧ W.heap[w.heap.size + 1]? = some (.cells #[.bool nb, .slice va vn vc, .int .i64 eb] 24 (0, 0)) ∧ W.heap[w.heap.size + 1 + 1]? = some (.cells #[.bool false, .slice none 0 0, .int .i64 0] 24 (0, 0))) ∧ W.heap.size = w.heap.size + 1 + 1 + 1 ∧ Below w.heap.size w W ∧ Below W.heap.size W (W.alloc (.cells #[.bool na, .slice ua un uc, .int .i64 ea, .bool nb, .slice va vn vc, .int .i64 eb] 24))) := ⟨⟨hA, hBb, hC⟩, hsz, hBW, (Below.refl _ _).alloc (Nat.le_refl _) _⟩
  clear hA hBb hC hsz hBW hB4 k67
  go_enter Tryz.func31, Tryz.ntmps31
  go_wp2_with fail
  rw [← hW]
  clear hW
  refine k1.mono ?_
  rintro r w1 ⟨rfl, hB1⟩
  clear k1
  have hBW1 : Below W.heap.size W w1 := HH.out.2.2.2.trans (hB1.mono HH.out.2.2.2.size)
  obtain ⟨⟨a0, a1, a2⟩, -⟩ := box_cells29 (box_later HH.out.1.1 hBW1 (by have := HH.out.2.1; omega))
  obtain ⟨⟨b0, b1, b2⟩, -⟩ := box_cells29 (box_later HH.out.1.2.1 hBW1 (by have := HH.out.2.1; omega))
  have HB1 : Hid (Below W.heap.size W w1) := hBW1
  clear hB1 hBW1
  have kM : ∀ w4, Below w1.heap.size w1 w4 → Calls Tryz.prog 45 #[.agg #[.bool nb, .slice va vn vc, .int .i64 eb]] w4 fun r w' => r = .returned (.agg #[.bool nc, .slice xa xn xc, .int .i64 ec]) ∧ Below w1.heap.size w1 w' := fun w4 hb => (HKM.out w4).mono fun r w' ⟨e1, o2⟩ => ⟨e1, hb.trans (o2.mono hb.size)⟩
  have kA : ∀ w5, Below w1.heap.size w1 w5 → Calls Tryz.prog 29 #[.agg #[.bool na, .slice ua un uc, .int .i64 ea], .agg #[.bool nc, .slice xa xn xc, .int .i64 ec]] w5 fun r w' => ∃ s ao n cap ex E, r = .returned (.tuple #[.agg #[.bool s, .slice ao n cap, .int .i64 ex], .int .i64 E]) ∧ Hid (E = (if V then 0 else 2) ∧ RN w' w.heap.size (.agg #[.bool s, .slice ao n cap, .int .i64 ex]) (Ans V t)) ∧ Below w1.heap.size w1 w' ∧ Hid (w'.heap[w.heap.size + 1 + 1]? = some (.cells #[.bool false, .slice none 0 0, .int .i64 0] 24 (0, 0))) ∧
      (w'.cell? ⟨w.heap.size + 1 + 1, 0, none⟩ = some (.bool false) ∧ w'.cell? ⟨w.heap.size + 1 + 1, 1, none⟩ = some (.slice none 0 0) ∧ w'.cell? ⟨w.heap.size + 1 + 1, 2, none⟩ = some (.int .i64 0)) ∧ (w'.frozen? ⟨w.heap.size + 1 + 1, 0, none⟩ = false ∧ w'.frozen? ⟨w.heap.size + 1 + 1, 1, none⟩ = false ∧ w'.frozen? ⟨w.heap.size + 1 + 1, 2, none⟩ = false) := by
    intro w5 hb
    have hb05 : Below W.heap.size W w5 := HB1.out.trans (hb.mono HB1.out.size)
    refine (HKA.out w5 (HH.out.2.2.1.trans (hb05.mono HH.out.2.2.1.size))).mono ?_
    rintro r w6 ⟨A, rfl, hN, hb6⟩
    obtain ⟨s, ao, n, cap, ex, rfl⟩ := hN.shape
    have hb16 : Below w1.heap.size w1 w6 := hb.trans (hb6.mono hb.size)
    have hblk := box_later HH.out.1.2.2 (HB1.out.trans (hb16.mono HB1.out.size)) (by have := HH.out.2.1; omega)
    obtain ⟨f1, f2⟩ := box_cells29 hblk
    exact ⟨s, ao, n, cap, ex, _, rfl, ⟨rfl, hN.mono (by have := hb05.size; have := HH.out.2.1; omega)⟩, hb16, hblk, f1, f2⟩
  have HK : Hid (∀ w', Below w1.heap.size w1 w' → ((w'.cell? ⟨w.heap.size, 0, none⟩ = some (.bool na) ∧ w'.cell? ⟨w.heap.size, 1, none⟩ = some (.slice ua un uc) ∧ w'.cell? ⟨w.heap.size, 2, none⟩ = some (.int .i64 ea)) ∧ (w'.cell? ⟨w.heap.size + 1, 0, none⟩ = some (.bool nb) ∧ w'.cell? ⟨w.heap.size + 1, 1, none⟩ = some (.slice va vn vc) ∧ w'.cell? ⟨w.heap.size + 1, 2, none⟩ = some (.int .i64 eb)))) := fun w' hb => ⟨(box_cells29 (box_later HH.out.1.1 (HB1.out.trans (hb.mono HB1.out.size)) (by have := HH.out.2.1; omega))).1, (box_cells29 (box_later HH.out.1.2.1 (HB1.out.trans (hb.mono HB1.out.size)) (by have := HH.out.2.1; omega))).1⟩
  have HK2 : Hid (∀ w', Below (w.heap.size + 1 + 1) W w' → ((w'.cell? ⟨w.heap.size, 0, none⟩ = some (.bool na) ∧ w'.cell? ⟨w.heap.size, 1, none⟩ = some (.slice ua un uc) ∧ w'.cell? ⟨w.heap.size, 2, none⟩ = some (.int .i64 ea)) ∧ (w'.cell? ⟨w.heap.size + 1, 0, none⟩ = some (.bool nb) ∧ w'.cell? ⟨w.heap.size + 1, 1, none⟩ = some (.slice va vn vc) ∧ w'.cell? ⟨w.heap.size + 1, 2, none⟩ = some (.int .i64 eb)))) := fun w' hb => ⟨(box_cells29 (box_later HH.out.1.1 hb (by omega))).1, (box_cells29 (box_later HH.out.1.2.1 hb (by omega))).1⟩
  have HS2 : Hid (w.heap.size + 1 + 1 ≤ W.heap.size) := (by have := HH.out.2.1; omega : w.heap.size + 1 + 1 ≤ W.heap.size)
  have hBR : Below w1.heap.size w1 w1.drew := (Below.refl _ _).drew
  go_upto_region 3 with fail
  go_region_held3 (fun w' => ((w'.cell? ⟨w.heap.size, 0, none⟩ = some (.bool na) ∧ w'.cell? ⟨w.heap.size, 1, none⟩ = some (.slice ua un uc) ∧ w'.cell? ⟨w.heap.size, 2, none⟩ = some (.int .i64 ea)) ∧ (w'.cell? ⟨w.heap.size + 1, 0, none⟩ = some (.bool nb) ∧ w'.cell? ⟨w.heap.size + 1, 1, none⟩ = some (.slice va vn vc) ∧ w'.cell? ⟨w.heap.size + 1, 2, none⟩ = some (.int .i64 eb)))) (first | (with_reducible assumption) | exact ⟨⟨a0, a1, a2⟩, b0, b1, b2⟩ | (refine HK.out _ ?_; with_reducible assumption) | (refine HK2.out _ (below_store3 (Below.mono (HB1.out.trans (Below.mono hb6 HB1.out.size)) HS2.out) (Nat.le_refl _) _ _ _)) | go_keep)
    (first | (go_at_call 45; refine (kM _ (by first | (with_reducible assumption) | exact hBR)).mono ?_; rintro r w5 ⟨rfl, hb5⟩) | (go_at_call 29; refine (kA _ (by first | (with_reducible assumption) | exact hBR)).mono ?_; rintro r w6 ⟨s6, ao6, n6, cap6, ex6, E6, rfl, hN6, hb6, hblk6, ⟨x1, x2, x3⟩, x4, x5, x6⟩))
  all_goals (have HF : Hid (Below w1.heap.size w1 w6) := hb6; clear hb5 hb6 kM kA x1 x2 x3 x4 x5 x6 a0 a1 a2 b0 b1 b2 HK HK2 hBR; go_wp2; refine bodyPost_ret (results_cell_tmp_row rfl _ _ (w.heap.size + 1 + 1) 24 #[.bool s6, .slice ao6 n6 cap6, .int .i64 ex6] (0, 0) _ rfl (store3_29 _ _ _ hblk6.out) Tryz.underlying24 rfl Tryz.info24) rfl ?_; exact ⟨_, by rw [← hN6.out.1]; rfl, rn_store hN6.out.2 hblk6.out _ _ _, below_store3 (HH.out.2.2.1.trans ((HB1.out.trans (HF.out.mono HB1.out.size)).mono HH.out.2.2.1.size)) (by omega) _ _ _⟩)
end Go.Proofs.YtejefbnfmglfeaaGreatDoor

/- normal over a slice of any capacity. -/
namespace Go.Proofs.YtejefbnfmglfeaaGreatDoor
set_option linter.unusedVariables false
set_option linter.unusedSimpArgs false
open Go.RowKit

theorem c120_v (b o cap m whole part x k : Nat) (w : World) (hm0 : 0 < m) (hm : m ≤ 35184372088832) (hk : k ≤ 1099511627776) (hcap : whole + m ≤ cap) (hcap2 : cap ≤ 9223372036854775807) (hwh : k / 32 = whole) (hpa : k % 32 = part)
    (hn : dlen x = whole + m) (hcell : ∀ i, i < whole + m → w.cell? ⟨b, o + i, none⟩ = some (.int .u32 (dg x i : Nat))) :
    Calls Tryz.prog 117 #[.slice (some ⟨b, o, none⟩) (whole + m : Nat) cap, .int .i64 k] w fun e w' => ∃ v, e = .returned v ∧ Own w' w.heap.size v (x / 2 ^ k) ∧ Below w.heap.size w w' := by
  have hq : (k : Int).tdiv 32 = ((k / 32 : Nat) : Int) := by rw [Int.tdiv_eq_ediv_of_nonneg (by omega)]; rfl
  have hr : (k : Int).tmod 32 = ((k % 32 : Nat) : Int) := by rw [Int.tmod_eq_emod_of_nonneg (by omega)]; rfl
  have hwb : whole ≤ 1099511627776 := by omega
  have hpb : part < 32 := by omega
  rw [hwh] at hq
  rw [hpa] at hr
  have hmk := run_make_row' (P := Tryz.prog) 22 55 (.int .u32 0) 4 Tryz.underlying22 Tryz.info55 rfl .i64 .i64 m (by omega) (by omega)
  have HN : Hid (dlen x = whole + m) := hn
  have HW : Hid (k / 32 = whole) := hwh
  have HP : Hid (k % 32 = part) := hpa
  clear hn hwh hpa
  have hmi : (whole : Int) < ((whole + m : Nat) : Int) := by omega
  have hmi2 : ¬ whole = cap := by omega
  go_enter Tryz.func117, Tryz.ntmps117
  go_wp2
  clear hmk
  go_loopw [27] (fun i wr => ∃ j : Nat, j ≤ m ∧ i = .int .i64 j ∧ Mk w wr m (fun t => if t < j then dg (x / 2 ^ k) t else 0)) (fun i _ => m - (intOf i).toNat)
  case atStart => exact ⟨0, Nat.zero_le _, rfl, (Mk.start w _).congr fun i hi => by rw [if_neg (by omega)]⟩
  case round =>
    obtain ⟨j, hj, rfl, hM⟩ := hrel
    by_cases hjn : j + 1 < m
    · have g1 := hM.old (hcell (whole + j) (by omega))
      have g4 := hM.old (hcell (whole + (j + 1)) (by omega))
      rw [← Nat.add_assoc] at g1 g4
      have g2 := hM.cell (i := j) (by omega)
      have g3 := hM.frozen j
      rw [if_neg (by omega)] at g2
      have hji : (j : Int) + 1 < (m : Int) := by omega
      have HM : Hid (Mk w wr m (fun t => if t < j then dg (x / 2 ^ k) t else 0)) := hM
      generalize hd : dg x (whole + j) = d at *
      generalize hd1 : dg x (whole + (j + 1)) = d1 at *
      have HD : Hid (dg x (whole + j) = d) := hd
      have HD1 : Hid (dg x (whole + (j + 1)) = d1) := hd1
      have HL : Hid (d < B ∧ d1 < B) := ⟨hd ▸ dg_lt _ _, hd1 ▸ dg_lt _ _⟩
      clear hd hd1 hM hcell
      go_wp2
      exact shr_round HM.out (by rw [shr_word2 HL.out.1 HL.out.2, shr_digit HW.out HP.out, HD.out, HD1.out]) (by omega)
    · by_cases hjm : j < m
      · have g1 := hM.old (hcell (whole + j) (by omega))
        rw [← Nat.add_assoc] at g1
        have g2 := hM.cell (i := j) (by omega)
        have g3 := hM.frozen j
        rw [if_neg (by omega)] at g2
        have hji : ¬ (j : Int) + 1 < (m : Int) := by omega
        have hji2 : (j : Int) < (m : Int) := by omega
        have HM : Hid (Mk w wr m (fun t => if t < j then dg (x / 2 ^ k) t else 0)) := hM
        generalize hd : dg x (whole + j) = d at *
        have HD : Hid (dg x (whole + j) = d) := hd
        have HL : Hid (d < B) := hd ▸ dg_lt _ _
        have HZ : Hid (dg x (whole + (j + 1)) = 0) := dg_past (by rw [HN.out]; omega)
        clear hd hM hcell
        go_wp2
        exact shr_round HM.out (by rw [shr_word1 HL.out, shr_digit HW.out HP.out, HD.out, HZ.out, Nat.zero_mul, Nat.add_zero]) (by omega)
      · obtain rfl : j = m := by omega
        have hE : Mk w wr j (dg (x / 2 ^ k)) := hM.congr fun i hi => if_pos hi
        have hA := hE.at
        have hL := shr_len (k := k) (m := j) (by rw [HW.out]; exact HN.out)
        have HC : Hid (Mk w wr j (dg (x / 2 ^ k))) := hE
        clear hM hcell hE
        go_wp2_with (first | (go_at_call 80; refine (c62 _ _ _ (x / 2 ^ k) _ hL (Nat.le_refl _) (by omega) hA).mono ?_; rintro e w' ⟨rfl, rfl⟩))
        go_ret
        exact ⟨_, rfl, HC.out.own hL (by omega), HC.out.below⟩

theorem tz_in' {x : Nat} (hx0 : x ≠ 0) : tz x / 32 < dlen x := by
  have h1 := (tz_spec _ x (Nat.le_refl _) hx0)
  have h2 : 2 ^ tz x ≤ x := by
    have h3 : 1 ≤ x / 2 ^ tz x := Nat.pos_of_ne_zero fun e0 => by have := h1.2; rw [e0] at this; simp at this
    have := Nat.mul_le_mul_left (2 ^ tz x) h3
    omega
  have h4 := lt_bl x
  have h5 : tz x < bl x := Nat.lt_of_not_le fun h6 => by
    have := Nat.pow_le_pow_right (n := 2) (by omega) h6
    omega
  have hd0 : dlen x ≠ 0 := fun e => hx0 (dlen_eq_zero.1 e)
  have := bl_top hx0
  have := bl_le32 (dg_lt x (dlen x - 1))
  omega

set_option maxRecDepth 200000 in
theorem c56_v (neg : Bool) (b o n cap x : Nat) (e : Int) (w : World) (hcell : ∀ i, i < n → w.cell? ⟨b, o + i, none⟩ = some (.int .u32 (dg x i : Nat))) (hc1 : n ≤ cap) (hc2 : cap ≤ 9223372036854775807) (hn : dlen x = n) (hx : dlen x ≤ 1000000000) (hx0 : x ≠ 0) (hT : Tab32 w) (he : -4611686018427387904 ≤ e ∧ e ≤ 4611686018427387904) :
    Calls Tryz.prog 78 #[.bool neg, .slice (some ⟨b, o, none⟩) n cap, .int .i64 e] w fun r w' => ∃ v, r = .returned (.agg #[.bool neg, v, .int .i64 (e + tz x)]) ∧ Own w' w.heap.size v (x / 2 ^ tz x) ∧ Below w.heap.size w w' := by
  obtain ⟨w0, hw0⟩ : ∃ w0, w0 = w.alloc (.cells #[.bool false, .slice none 0 0, .int .i64 0] 25) := ⟨_, rfl⟩
  have hB0 : Below w.heap.size w w0 := by rw [hw0]; exact (Below.refl _ _).alloc (Nat.le_refl _) _
  have hcell0 : ∀ i, i < n → w0.cell? ⟨b, o + i, none⟩ = some (.int .u32 (dg x i : Nat)) := fun i hi => (hB0.cell (World.block_lt_of_cell? _ _ (hcell i hi))).trans (hcell i hi)
  have hT0 := hT.later hB0
  have k62 := c62 (some ⟨b, o, none⟩) n cap x w0 (by omega) hc1 (by omega) ⟨b, o, fun _ => rfl, hcell0⟩
  rw [hn] at k62
  have k119 := c119_1 b o n cap x w0 (by omega) hn hx0 hT0 hcell0
  have htz := tz_in' hx0
  have htb : tz x ≤ 40000000000 := by omega
  have k120 : Calls Tryz.prog 117 #[.slice (some ⟨b, o, none⟩) n cap, .int .i64 (tz x : Nat)] w0 fun e w' => ∃ v, e = .returned v ∧ Own w' w0.heap.size v (x / 2 ^ tz x) ∧ Below w0.heap.size w0 w' := by
    obtain ⟨m, hm⟩ : ∃ m, dlen x = tz x / 32 + m := ⟨dlen x - tz x / 32, by omega⟩
    rw [← hn, hm]
    exact c120_v b o cap m _ _ x (tz x) w0 (by omega) (by omega) (by omega) (by omega) hc2 rfl rfl hm (fun i hi => hcell0 i (by omega))
  have hn0 : ((n : Int) == 0) = false := by
    have : dlen x ≠ 0 := fun e => hx0 (dlen_eq_zero.1 e)
    simp; omega
  have HH : Hid (w0.heap[w.heap.size]? = some (.cells #[.bool false, .slice none 0 0, .int .i64 0] 25 (0, 0))) := (by rw [hw0]; exact heap_alloc_new _ _ : w0.heap[w.heap.size]? = some (.cells #[.bool false, .slice none 0 0, .int .i64 0] 25 (0, 0)))
  have HB0 : Hid (Below w.heap.size w w0) := hB0
  have HX : Hid (w0.heap.size = w.heap.size + 1) := (by rw [hw0]; simp : w0.heap.size = w.heap.size + 1)
  generalize htzx : tz x = t at *
  have HTZ : Hid (tz x = t) := htzx
  obtain ⟨he1, he2⟩ := he
  clear hcell hcell0 hT hT0 hn hx0 hx hB0 htzx htz
  go_enter Tryz.func78, Tryz.ntmps78
  go_wp2_with fail
  rw [← hw0]
  clear hw0
  refine k62.mono ?_
  rintro e w1 ⟨rfl, rfl⟩
  clear k62
  go_wp2_with fail
  refine k119.mono ?_
  rintro e w2 ⟨rfl, rfl⟩
  clear k119
  go_wp2_with fail
  refine k120.mono ?_
  rintro e w3 ⟨v, rfl, hO, hB⟩
  obtain ⟨va, vc, rfl, -, -, -⟩ := hO.is
  generalize dlen (x / 2 ^ t) = vl at *
  have HH3 : Hid (w3.heap[w.heap.size]? = some (.cells #[.bool false, .slice none 0 0, .int .i64 0] 25 (0, 0))) := box_later HH.out hB (by have := HX.out; omega)
  obtain ⟨⟨a1, a2, a3⟩, a4, a5, a6⟩ := box_cells HH3.out
  have HO : Hid (Own w3 w2.heap.size (.slice va vl vc) (x / 2 ^ t)) := hO
  have HB : Hid (Below w2.heap.size w2 w3) := hB
  clear k120 hO hB
  go_wp2
  refine bodyPost_ret (results_cell_row rfl _ _ w.heap.size 25 #[.bool neg, .slice va vl vc, .int .i64 (e + t)] (0, 0) _ rfl (store3 _ _ _ HH3.out) Tryz.underlying25 rfl Tryz.info25) rfl ?_
  have hx := HX.out
  exact ⟨_, rfl, (own_store3 HO.out (by omega) _ _ _).mono (by omega), below_store3 (HB0.out.trans (HB.out.mono (by omega))) (Nat.le_refl _) _ _ _⟩

end Go.Proofs.YtejefbnfmglfeaaGreatDoor

/- Make. -/
namespace Go.Proofs.YtejefbnfmglfeaaGreatDoor
set_option linter.unusedVariables false
set_option linter.unusedSimpArgs false
open Go.RowKit

/-- what Make answers -/
def Mk25 (w w' : World) (neg : Bool) (x : Nat) (e : Int) (r : Ending) : Prop :=
  (okR neg x e = true ∧ ∃ A, r = .returned (.tuple #[A, .int .i64 0]) ∧ Nrm w' w.heap.size A neg x e) ∨ (okR neg x e = false ∧ r = .returned (.tuple #[.agg #[.bool false, .slice none 0 0, .int .i64 0], .int .i64 2]))

set_option maxRecDepth 200000 in
theorem c15_0 (neg : Bool) (ao : Option Addr) (n cap : Nat) (e : Int) (w : World) (h : At w ao n 0) (hn : n ≤ cap) (hc : n ≤ 70368744177664) :
    Calls Tryz.prog 38 #[.bool neg, .slice ao n cap, .int .i64 e] w fun r w' => Mk25 w w' neg 0 e r ∧ Below w.heap.size w w' := by
  have HB : Hid (Below w.heap.size w (w.alloc (.cells #[.bool false, .slice none 0 0, .int .i64 0] 25))) := (Below.refl _ _).alloc (Nat.le_refl _) _
  have k := c62 ao n cap 0 (w.alloc (.cells #[.bool false, .slice none 0 0, .int .i64 0] 25)) (by rw [dlen_zero]; omega) hn hc (h.later HB.out)
  rw [dlen_zero] at k
  clear h
  go_enter Tryz.func38, Tryz.ntmps38
  go_wp2_with fail
  refine k.mono ?_
  rintro r w1 ⟨rfl, rfl⟩
  go_wp2
  refine bodyPost_ret (results_cell_tmp_row rfl _ _ w.heap.size 25 #[.bool false, .slice none 0 0, .int .i64 0] (0, 0) _ rfl (heap_alloc_new _ _) Tryz.underlying25 rfl Tryz.info25) rfl ?_
  refine ⟨?_, HB.out⟩
  unfold Mk25
  exact .inl ⟨by unfold okR; rw [if_pos rfl], _, rfl, .inl ⟨rfl, rfl⟩⟩

theorem okR_bad {neg : Bool} {x : Nat} {e : Int} (hx : x ≠ 0) (h : e > 65536 ∨ e < -65536 - 32 * (dlen x : Int)) : okR neg x e = false := by
  have ht := tz_in' hx
  unfold okR okN
  rw [if_neg hx]
  have hy : dlen (x / 2 ^ tz x) ≠ 0 := by
    intro e0
    have := (tz_spec _ x (Nat.le_refl _) hx).2
    rw [dlen_eq_zero.1 e0] at this
    simp at this
  rw [if_neg hy]
  simp only [Bool.and_eq_false_iff, decide_eq_false_iff_not]
  rcases h with h | h
  · exact .inr (by omega)
  · exact .inl (.inr (by omega))

set_option maxHeartbeats 2000000 in
set_option maxRecDepth 200000 in
theorem c15_1 (neg : Bool) (b o n cap x : Nat) (e : Int) (w : World) (hcell : ∀ i, i < n → w.cell? ⟨b, o + i, none⟩ = some (.int .u32 (dg x i : Nat))) (hxn : dlen x ≤ n) (hn : n ≤ cap) (hc2 : cap ≤ 9223372036854775807) (hc : n ≤ 1000000000) (hx0 : x ≠ 0) (he : -9223372036854775808 ≤ e ∧ e ≤ 9223372036854775807) (hT : Tab32 w) :
    Calls Tryz.prog 38 #[.bool neg, .slice (some ⟨b, o, none⟩) n cap, .int .i64 e] w fun r w' => Mk25 w w' neg x e r ∧ Below w.heap.size w w' := by
  obtain ⟨W, hW⟩ : ∃ W, W = w.alloc (.cells #[.bool false, .slice none 0 0, .int .i64 0] 25) := ⟨_, rfl⟩
  have hBW : Below w.heap.size w W := by rw [hW]; exact (Below.refl _ _).alloc (Nat.le_refl _) _
  have hcW : ∀ i, i < n → W.cell? ⟨b, o + i, none⟩ = some (.int .u32 (dg x i : Nat)) := fun i hi => (hBW.cell (World.block_lt_of_cell? _ _ (hcell i hi))).trans (hcell i hi)
  have k38 := c62 (some ⟨b, o, none⟩) n cap x W hxn hn (by omega) ⟨b, o, fun _ => rfl, hcW⟩
  have HX : Hid (Below w.heap.size w W ∧ W.heap.size = w.heap.size + 1 ∧ W.heap[w.heap.size]? = some (.cells #[.bool false, .slice none 0 0, .int .i64 0] 25 (0, 0))) := ⟨hBW, by rw [hW]; simp, by rw [hW]; exact heap_alloc_new _ _⟩
  obtain ⟨he1, he2⟩ := he
  have hl0 : dlen x ≠ 0 := fun e => hx0 (dlen_eq_zero.1 e)
  have hlb : dlen x ≤ 1000000000 := by omega
  have hn0 : ((dlen x : Int) == 0) = false := by simp; omega
  by_cases hbad : e > 65536 ∨ e < -65536 - 32 * (dlen x : Int)
  · have HO : Hid (okR neg x e = false) := okR_bad hx0 hbad
    clear hcell hcW hBW hT hx0
    generalize dlen x = L at *
    obtain ⟨⟨a0, a1, a2⟩, a3, a4, a5⟩ := box_cells HX.out.2.2
    rcases hbad with hbad | hbad
    · go_enter Tryz.func38, Tryz.ntmps38
      go_wp2_with fail
      rw [← hW]
      clear hW
      refine k38.mono ?_
      rintro r w1 ⟨rfl, hw1⟩
      replace hw1 := hw1.symm
      subst hw1
      clear k38
      go_wp2_with fail
      refine bodyPost_ret (results_cell_tmp_row rfl _ _ w.heap.size 25 #[.bool false, .slice none 0 0, .int .i64 0] (0, 0) _ rfl (store3 _ _ _ HX.out.2.2) Tryz.underlying25 rfl Tryz.info25) rfl ?_
      refine ⟨?_, below_store3 HX.out.1 (Nat.le_refl _) _ _ _⟩
      unfold Mk25
      exact .inr ⟨HO.out, rfl⟩
    · have hnb : ¬ e > 65536 := by omega
      go_enter Tryz.func38, Tryz.ntmps38
      go_wp2_with fail
      rw [← hW]
      clear hW
      refine k38.mono ?_
      rintro r w1 ⟨rfl, hw1⟩
      replace hw1 := hw1.symm
      subst hw1
      clear k38
      go_wp2_with fail
      refine bodyPost_ret (results_cell_tmp_row rfl _ _ w.heap.size 25 #[.bool false, .slice none 0 0, .int .i64 0] (0, 0) _ rfl (store3 _ _ _ HX.out.2.2) Tryz.underlying25 rfl Tryz.info25) rfl ?_
      refine ⟨?_, below_store3 HX.out.1 (Nat.le_refl _) _ _ _⟩
      unfold Mk25
      exact .inr ⟨HO.out, rfl⟩
  · have h1 : ¬ e > 65536 := fun h => hbad (.inl h)
    have h2 : ¬ e < -65536 - 32 * (dlen x : Int) := fun h => hbad (.inr h)
    have k31 := c56_v neg b o (dlen x) cap x e W (fun i hi => hcW i (by omega)) (by omega) hc2 rfl (by omega) hx0 (hT.later hBW) (by omega)
    have HN0 : Hid (x ≠ 0 ∧ dlen x ≤ 35184372088832) := ⟨hx0, by omega⟩
    clear hcell hcW hBW hT hx0 hbad
    generalize hLx : dlen x = L at *
    have HLx : Hid (dlen x = L) := hLx
    clear hLx
    go_enter Tryz.func38, Tryz.ntmps38
    go_wp2_with fail
    rw [← hW]
    clear hW
    refine k38.mono ?_
    rintro r w1 ⟨rfl, hw1⟩
    replace hw1 := hw1.symm
    subst hw1
    clear k38
    go_wp2_with fail
    refine k31.mono ?_
    rintro r w2 ⟨v, rfl, ho, hb2⟩
    obtain ⟨va, vk, rfl, -, -, -⟩ := ho.is
    have HN : Hid (Nrm w2 W.heap.size (.agg #[.bool neg, .slice va (dlen (x / 2 ^ tz x)) vk, .int .i64 (e + tz x)]) neg x e) := (.inr ⟨HN0.out.1, _, rfl, ho⟩ : Nrm w2 W.heap.size (.agg #[.bool neg, .slice va (dlen (x / 2 ^ tz x)) vk, .int .i64 (e + tz x)]) neg x e)
    have HB2 : Hid (Below W.heap.size W w2) := hb2
    have k39 := c63n HN.out (by rw [HLx.out]; exact HN0.out.2)
    clear k31 ho hb2
    go_wp2_with fail
    refine k39.mono ?_
    rintro r w3 ⟨rfl, hb3⟩
    have HB3 : Hid (Below W.heap.size W w3) := HB2.out.trans (hb3.mono HB2.out.size)
    have HN3 : Hid (Nrm w3 W.heap.size (.agg #[.bool neg, .slice va (dlen (x / 2 ^ tz x)) vk, .int .i64 (e + tz x)]) neg x e) := HN.out.later hb3
    have HC3 : Hid (w3.heap[w.heap.size]? = some (.cells #[.bool false, .slice none 0 0, .int .i64 0] 25 (0, 0))) := box_later HX.out.2.2 HB3.out (by have := HX.out.2.1; omega)
    obtain ⟨⟨x1, x2, x3⟩, x4, x5, x6⟩ := box_cells HC3.out
    clear k39 hb3
    cases hok : okR neg x e
    · have HOK : Hid (okR neg x e = false) := hok
      have hNil : Nil = .agg #[.bool false, .slice none 0 0, .int .i64 0] := rfl
      go_wp2
      refine bodyPost_ret (results_cell_tmp_row rfl _ _ w.heap.size 25 #[.bool false, .slice none 0 0, .int .i64 0] (0, 0) _ rfl (store3 _ _ _ HC3.out) Tryz.underlying25 rfl Tryz.info25) rfl ?_
      refine ⟨?_, below_store3 (HX.out.1.trans (HB3.out.mono HX.out.1.size)) (Nat.le_refl _) _ _ _⟩
      unfold Mk25
      exact .inr ⟨HOK.out, rfl⟩
    · have HOK : Hid (okR neg x e = true) := hok
      go_wp2
      refine bodyPost_ret (results_cell_tmp_row rfl _ _ w.heap.size 25 #[.bool neg, .slice va (dlen (x / 2 ^ tz x)) vk, .int .i64 (e + tz x)] (0, 0) _ rfl (store3 _ _ _ HC3.out) Tryz.underlying25 rfl Tryz.info25) rfl ?_
      refine ⟨?_, below_store3 (HX.out.1.trans (HB3.out.mono HX.out.1.size)) (Nat.le_refl _) _ _ _⟩
      unfold Mk25
      have hn3 := HN3.out
      exact .inl ⟨HOK.out, _, rfl, (hn3.store (by have := HX.out.2.1; omega) _ _ _).mono (by have := HX.out.2.1; omega)⟩
end Go.Proofs.YtejefbnfmglfeaaGreatDoor

/- DyadOf: the law's walk, and what it answers. -/
namespace Go.Proofs.YtejefbnfmglfeaaGreatDoor
set_option linter.unusedVariables false
set_option linter.unusedSimpArgs false
open Go.RowKit Go.Fl64

theorem same_ok {w : World} {A C : Value} {b c : Nat} {s s' : Bool} {m M : Nat} {e E : Int} (hA : Nrm w b A s m e) (hC : Nr w c C s' M E)
    (h : (m = 0 ∧ M = 0) ∨ (m ≠ 0 ∧ M ≠ 0 ∧ s = s' ∧ m / 2 ^ tz m = M / 2 ^ tz M ∧ e + (tz m : Int) = E + (tz M : Int))) (hl : dlen (m / 2 ^ tz m) ≤ 35184372088832) :
    Calls Tryz.prog 12 #[A, C] w fun r w' => r = .returned (.bool true) ∧ Below w.heap.size w w' := by
  rcases h with ⟨rfl, rfl⟩ | ⟨h1, h2, rfl, h3, h4⟩
  · obtain rfl := hA.nil
    rcases hC with ⟨-, rfl⟩ | ⟨h, -⟩
    · have i := is_nil w
      obtain ⟨ao, cap, e0, h1, h2, h3⟩ := i
      simp only [Value.slice.injEq] at e0
      obtain ⟨rfl, -, rfl⟩ := e0
      rw [dlen_zero] at h3
      exact same_1 false 0 none none 0 0 0 0 w h3 h3 (by omega)
    · exact absurd rfl h
  · rcases hA with ⟨h, -⟩ | ⟨-, v, rfl, ho⟩
    · exact absurd h h1
    · rcases hC with ⟨h, -⟩ | ⟨-, g, cap, rfl, -, ha⟩
      · exact absurd h h2
      · obtain ⟨ao, cap', rfl, -, -, hi⟩ := ho.is
        unfold NumV
        rw [h4]
        rw [← h3] at ha ⊢
        exact same_1 _ _ _ _ _ _ _ _ w hi ha hl

end Go.Proofs.YtejefbnfmglfeaaGreatDoor

/- DyadMakes: the law's walk, where there are digits. -/
namespace Go.Proofs.YtejefbnfmglfeaaGreatDoor
set_option linter.unusedVariables false
set_option linter.unusedSimpArgs false
open Go.RowKit Go.Fl64

end Go.Proofs.YtejefbnfmglfeaaGreatDoor

/- DyadOf answers true, whatever the float and the whole number are. -/
namespace Go.Proofs.YtejefbnfmglfeaaGreatDoor
set_option linter.unusedVariables false
set_option linter.unusedSimpArgs false
open Go.RowKit Go.Fl64

theorem short {m : Nat} (h : m < 18446744073709551616) : dlen (m / 2 ^ tz m) ≤ 35184372088832 := by
  have h1 : dlen m ≤ 2 := (dlen_le 2 m).2 (by unfold B; omega)
  have h2 : dlen (m / 2 ^ tz m) ≤ dlen m := dlen_mono (Nat.div_le_self ..)
  omega

/-- the float's odd digits and exponent are those of the document's number -/
theorem of_parts (a m : Nat) (ha : a < 18446744073709551616) (hf : mag a < 9218868437227405312) (hm : Ie.sM a = (m : Int)) :
    (m = 0 ∧ Ie.mant a = 0) ∨ (m ≠ 0 ∧ Ie.mant a ≠ 0 ∧ neg a = neg a ∧ m / 2 ^ tz m = Ie.mant a / 2 ^ tz (Ie.mant a) ∧ Ie.sE a + (tz m : Int) = Ie.lp a + (tz (Ie.mant a) : Int)) := by
  unfold Ie.sM at hm
  unfold Ie.sE
  rw [if_neg (by omega)] at hm ⊢
  by_cases h0 : mag a = 0
  · rw [if_pos h0] at hm
    exact .inl ⟨by omega, by unfold Ie.mant; rw [if_pos (by omega)]; exact h0⟩
  · rw [if_neg h0] at hm ⊢
    have hb := Ie.mant_bound a
    have hne := Ie.mant_ne h0
    have hct : Lib.ctz 64 (Ie.mant a) = tz (Ie.mant a) := tz_ctz hne (by omega)
    rw [hct] at hm ⊢
    have e1 : m = Ie.mant a / 2 ^ tz (Ie.mant a) := by
      have : ((Ie.mant a / 2 ^ tz (Ie.mant a) : Nat) : Int) = (m : Int) := by rw [← hm]; simp
      omega
    obtain ⟨h1, h2⟩ := tz_spec _ (Ie.mant a) (Nat.le_refl _) hne
    rw [← e1] at h2
    have e2 : tz m = 0 := tz_odd h2
    refine .inr ⟨by intro e; rw [e] at h2; simp at h2, hne, rfl, ?_, ?_⟩
    · rw [e2, ← e1]; simp
    · rw [e2]; simp

theorem nil_same {w : World} : Calls Tryz.prog 12 #[.agg #[.bool false, .slice none 0 0, .int .i64 0], .agg #[.bool false, .slice none 0 0, .int .i64 0]] w fun r w' => r = .returned (.bool true) ∧ Below w.heap.size w w' := by
  obtain ⟨ao, cap, e0, h1, h2, h3⟩ := is_nil w
  simp only [Value.slice.injEq] at e0
  obtain ⟨rfl, -, rfl⟩ := e0
  rw [dlen_zero] at h3
  exact same_1 false 0 none none 0 0 0 0 w h3 h3 (by omega)

end Go.Proofs.YtejefbnfmglfeaaGreatDoor

/- DyadMakes answers true: digits, and none. -/
namespace Go.Proofs.YtejefbnfmglfeaaGreatDoor
set_option linter.unusedVariables false
set_option linter.unusedSimpArgs false
open Go.RowKit Go.Fl64

theorem okR_val {neg : Bool} {x : Nat} {e : Int} (hx : x ≠ 0) : okR neg x e = (decide (dlen (x / 2 ^ tz x) ≤ 2048) && decide (-65536 ≤ e + (tz x : Int)) && decide (e + (tz x : Int) ≤ 65536)) := by
  have ho := (tz_spec _ x (Nat.le_refl _) hx).2
  have hy : x / 2 ^ tz x ≠ 0 := by intro e0; rw [e0] at ho; simp at ho
  have hd : dlen (x / 2 ^ tz x) ≠ 0 := fun e0 => hy (dlen_eq_zero.1 e0)
  unfold okR okN
  rw [if_neg hx, if_neg hd]
  have h1 : (dg (x / 2 ^ tz x) (dlen (x / 2 ^ tz x) - 1) != 0) = true := by simp; exact dg_top hy
  have h2 : (dg (x / 2 ^ tz x) 0 % 2 == 1) = true := by
    have : dg (x / 2 ^ tz x) 0 % 2 = 1 := by
      unfold dg
      simp only [Nat.pow_zero, Nat.div_one]
      unfold B
      omega
    simp [this]
  rw [h1, h2, Bool.and_true, Bool.and_true]

end Go.Proofs.YtejefbnfmglfeaaGreatDoor

/- The document's Add, Sub, Mul, Shift of numbers that may be, and of others. -/
namespace Go.Proofs.YtejefbnfmglfeaaGreatDoor
set_option linter.unusedVariables false
set_option linter.unusedSimpArgs false
open Go.RowKit

theorem two_B (n : Nat) : 2 ^ (32 * n) = B ^ n := by rw [Nat.pow_mul]; rfl
theorem far_half {x y K d n : Nat} (hx : x % 2 = 1) (hy : y % 2 = 1) (hK : 32 * n = K) (hly : dlen y ≤ n) (hd : 0 < d) (hb : K + 1 < bl x + d) :
    (x * 2 ^ d + y) % 2 = 1 ∧ n < dlen (x * 2 ^ d + y) ∧ y < x * 2 ^ d ∧ (x * 2 ^ d - y) % 2 = 1 ∧ n < dlen (x * 2 ^ d - y) := by
  have hx0 : x ≠ 0 := by omega
  have h1 := le_bl hx0
  have hP : 2 ^ K = B ^ n := by rw [← hK]; exact two_B n
  have h2 : y < 2 ^ K := by rw [hP]; exact (dlen_le n y).1 hly
  have h3 : 2 ^ (K + 1) ≤ x * 2 ^ d := by
    have e1 : 2 ^ (K + 1) ≤ 2 ^ (bl x - 1 + d) := Nat.pow_le_pow_right (by omega) (by omega)
    have e2 : 2 ^ (bl x - 1 + d) ≤ x * 2 ^ d := by rw [Nat.pow_add]; exact Nat.mul_le_mul_right _ h1
    omega
  rw [Nat.pow_succ] at h3
  have h4 : x * 2 ^ d % 2 = 0 := by
    obtain ⟨k, rfl⟩ : ∃ k, d = k + 1 := ⟨d - 1, by omega⟩
    rw [Nat.pow_succ, ← Nat.mul_assoc]; omega
  have h5 : ∀ z, 2 ^ K ≤ z → n < dlen z := fun z hz => by
    rcases Nat.lt_or_ge n (dlen z) with h | h
    · exact h
    · have := (dlen_le n z).1 h
      rw [hP] at hz
      exact absurd this (Nat.not_lt.2 hz)
  generalize x * 2 ^ d = X at *
  generalize 2 ^ K = P at *
  exact ⟨by omega, h5 _ (by omega), by omega, by omega, h5 _ (by omega)⟩

theorem okR_long {s : Bool} {z : Nat} {e : Int} (ho : z % 2 = 1) (hl : 2048 < dlen z) : okR s z e = false := by
  rw [okR_val (by omega), tz_odd ho, Nat.pow_zero, Nat.div_one, decide_eq_false (by omega)]
  simp

/-- numbers that are far apart have no sum -/
theorem far_no {na nb : Bool} {x y : Nat} {ea eb : Int} (ok1 : Ok (na, x, ea)) (ok2 : Ok (nb, y, eb)) (hx : x ≠ 0) (hy : y ≠ 0) (hf : 65600 < max (bl x + ea) (bl y + eb) - min ea eb) :
    okR (sumN na x ea nb y eb).1 (sumN na x ea nb y eb).2.1 (sumN na x ea nb y eb).2.2 = false := by
  have f1 := ok1.facts
  have f2 := ok2.facts
  simp only at f1 f2
  have o1 := f1.2.2.2.2 hx
  have o2 := f2.2.2.2.2 hy
  have b1 := bl_le_dlen x
  have b2 := bl_le_dlen y
  unfold sumN
  rw [if_neg hx, if_neg hy]
  obtain ⟨K, hK⟩ : ∃ K, 32 * 2048 = K := ⟨_, rfl⟩
  rcases Int.lt_trichotomy ea eb with h | h | h
  · have hm : min ea eb = ea := by omega
    rw [hm, show (ea - ea).toNat = 0 by omega, Nat.pow_zero, Nat.mul_one]
    obtain ⟨p1, p2, p3, p4, p5⟩ := far_half (x := y) (y := x) (d := (eb - ea).toNat) (n := 2048) o2 o1 hK f1.1 (by omega) (by omega)
    by_cases hs : na = nb
    · rw [if_pos hs]; rw [Nat.add_comm] at p1 p2; exact okR_long p1 p2
    · rw [if_neg hs, if_pos p3]; exact okR_long p4 p5
  · omega
  · have hm : min ea eb = eb := by omega
    rw [hm, show (eb - eb).toNat = 0 by omega, Nat.pow_zero, Nat.mul_one]
    obtain ⟨p1, p2, p3, p4, p5⟩ := far_half (x := x) (y := y) (d := (ea - eb).toNat) (n := 2048) o1 o2 hK f2.1 (by omega) (by omega)
    by_cases hs : na = nb
    · rw [if_pos hs]; exact okR_long p1 p2
    · rw [if_neg hs, if_neg (by omega)]; exact okR_long p4 p5

theorem sumN_len {na nb : Bool} {x y : Nat} {ea eb : Int} (ok1 : Ok (na, x, ea)) (ok2 : Ok (nb, y, eb)) : dlen (sumN na x ea nb y eb).2.1 ≤ 1000000 := by
  have f1 := ok1.facts
  have f2 := ok2.facts
  simp only at f1 f2
  have l1 : dlen (x * 2 ^ (ea - min ea eb).toNat) ≤ 760000 := by have := shl_len (x := x) (k := (ea - min ea eb).toNat) rfl; omega
  have l2 : dlen (y * 2 ^ (eb - min ea eb).toNat) ≤ 760000 := by have := shl_len (x := y) (k := (eb - min ea eb).toNat) rfl; omega
  unfold sumN
  split
  · show dlen y ≤ _; omega
  · split
    · show dlen x ≤ _; omega
    · split
      · have := dlen_add_le (x * 2 ^ (ea - min ea eb).toNat) (y * 2 ^ (eb - min ea eb).toNat)
        show dlen (_ + _) ≤ _; omega
      · split
        · exact Nat.le_trans (dlen_mono (Nat.sub_le ..)) (by omega)
        · exact Nat.le_trans (dlen_mono (Nat.sub_le ..)) (by omega)
theorem cn_len {s : Bool} {z : Nat} {e : Int} : dlen (cn s z e).2.1 ≤ dlen z := by
  unfold cn
  by_cases h0 : z = 0
  · rw [if_pos h0, h0]; exact Nat.le_refl _
  · rw [if_neg h0]; exact dlen_mono (Nat.div_le_self ..)

theorem radd {na nb : Bool} {ua va : Option Addr} {uc vc x y : Nat} {ea eb : Int} {w : World} (h1 : Arg w ua (dlen x) uc x) (h2 : Arg w va (dlen y) vc y) (ok1 : Ok (na, x, ea)) (ok2 : Ok (nb, y, eb)) :
    Calls Tryz.prog 29 #[.agg #[.bool na, .slice ua (dlen x) uc, .int .i64 ea], .agg #[.bool nb, .slice va (dlen y) vc, .int .i64 eb]] w fun r w' => AnsR w (okR (sumN na x ea nb y eb).1 (sumN na x ea nb y eb).2.1 (sumN na x ea nb y eb).2.2) (cn (sumN na x ea nb y eb).1 (sumN na x ea nb y eb).2.1 (sumN na x ea nb y eb).2.2) r w' := by
  have f1 := ok1.facts
  have f2 := ok2.facts
  simp only at f1 f2
  have k67 : ∀ W g, Below w.heap.size w W → W.heap[g]? = some (.cells #[.bool na, .slice ua (dlen x) uc, .int .i64 ea, .bool nb, .slice va (dlen y) vc, .int .i64 eb] 24 (0, 0)) → Calls Tryz.prog 68 #[.slice (some ⟨g, 0, none⟩) 2 2] W fun r w' => r = .returned (.bool true) ∧ Below W.heap.size W w' := fun W g hW hg => by
    have := rknown2 hg (h1.later hW) (h2.later hW)
    rw [show okN na (dlen x) x ea = true from ok1, show okN nb (dlen y) y eb = true from ok2] at this
    exact this
  have kF := fun W (hW : Below w.heap.size w W) => rfar (na := na) (nb := nb) (uc := uc) (vc := vc) (h1.later hW).at_ (h2.later hW).at_ (by omega) (by omega) (ea := ea) (eb := eb) (by omega) (by omega)
  by_cases hf : x ≠ 0 ∧ y ≠ 0 ∧ 65600 < max (bl x + ea) (bl y + eb) - min ea eb
  · rw [decide_eq_true hf] at kF
    rw [far_no ok1 ok2 hf.1 hf.2.1 hf.2.2]
    refine (radd_far na nb ua va _ uc _ vc ea eb w k67 kF).mono ?_
    rintro r w' ⟨rfl, hb⟩
    exact ⟨_, rfl, rn_nil w' _, hb⟩
  · rw [decide_eq_false hf] at kF
    have hl := sumN_len ok1 ok2
    exact radd_1 na nb ua va _ uc _ vc ea eb _ _ w (okR_cn _ _ _).symm (by have := cn_len (s := (sumN na x ea nb y eb).1) (z := (sumN na x ea nb y eb).2.1) (e := (sumN na x ea nb y eb).2.2); omega) k67 kF (fun W hW => rplus (h1.later hW) (h2.later hW) ok1 ok2)
end Go.Proofs.YtejefbnfmglfeaaGreatDoor

/- Sub, Mul refused; Shift. -/
namespace Go.Proofs.YtejefbnfmglfeaaGreatDoor
set_option linter.unusedVariables false
set_option linter.unusedSimpArgs false
open Go.RowKit

set_option maxRecDepth 200000 in
theorem sub_no (na nb : Bool) (ua va : Option Addr) (un uc vn vc : Nat) (ea eb : Int) (w : World)
    (k67 : ∀ W g, Below w.heap.size w W → W.heap[g]? = some (.cells #[.bool na, .slice ua un uc, .int .i64 ea, .bool nb, .slice va vn vc, .int .i64 eb] 25 (0, 0)) → Calls Tryz.prog 42 #[.slice (some ⟨g, 0, none⟩) 2 2] W fun r w' => r = .returned (.bool false) ∧ Below W.heap.size W w') :
    Calls Tryz.prog 30 #[NumV na (.slice ua un uc) ea, NumV nb (.slice va vn vc) eb] w fun r w' => r = .returned (.tuple #[Nil, .int .i64 1]) ∧ Below w.heap.size w w' := by
  obtain ⟨W, hW⟩ : ∃ W, W = ((w.alloc (.cells #[.bool na, .slice ua un uc, .int .i64 ea] 25)).alloc (.cells #[.bool nb, .slice va vn vc, .int .i64 eb] 25)).alloc (.cells #[.bool false, .slice none 0 0, .int .i64 0] 25) := ⟨_, rfl⟩
  obtain ⟨hA, hBb, hC, hsz, hBW⟩ := boxes3 _ _ _ hW
  have hB4 : Below w.heap.size w (W.alloc (.cells #[.bool na, .slice ua un uc, .int .i64 ea, .bool nb, .slice va vn vc, .int .i64 eb] 25)) := hBW.alloc hBW.size _
  have k1 := k67 (W.alloc (.cells #[.bool na, .slice ua un uc, .int .i64 ea, .bool nb, .slice va vn vc, .int .i64 eb] 25)) (w.heap.size + 1 + 1 + 1) hB4 (by rw [← hsz]; exact heap_alloc_new _ _)
  have HH : Hid (W.heap[w.heap.size + 1 + 1]? = some (.cells #[.bool false, .slice none 0 0, .int .i64 0] 25 (0, 0)) ∧ W.heap.size = w.heap.size + 1 + 1 + 1 ∧ Below w.heap.size w W ∧ Below W.heap.size W (W.alloc (.cells #[.bool na, .slice ua un uc, .int .i64 ea, .bool nb, .slice va vn vc, .int .i64 eb] 25))) := ⟨hC, hsz, hBW, (Below.refl _ _).alloc (Nat.le_refl _) _⟩
  unfold NumV
  clear hA hBb hC hsz hBW hB4 k67
  go_enter Tryz.func30, Tryz.ntmps30
  go_wp2_with fail
  rw [← hW]
  clear hW
  refine k1.mono ?_
  rintro r w1 ⟨rfl, hB1⟩
  clear k1
  have hBW1 : Below W.heap.size W w1 := HH.out.2.2.2.trans (hB1.mono HH.out.2.2.2.size)
  have HC3 : Hid (w1.heap[w.heap.size + 1 + 1]? = some (.cells #[.bool false, .slice none 0 0, .int .i64 0] 25 (0, 0))) := box_later HH.out.1 hBW1 (by have := HH.out.2.1; omega)
  have HB1 : Hid (Below W.heap.size W w1) := hBW1
  obtain ⟨⟨x1, x2, x3⟩, x4, x5, x6⟩ := box_cells HC3.out
  clear hB1 hBW1
  go_wp2
  refine bodyPost_ret (results_cell_tmp_row rfl _ _ (w.heap.size + 1 + 1) 25 #[.bool false, .slice none 0 0, .int .i64 0] (0, 0) _ rfl (store3 _ _ _ HC3.out) Tryz.underlying25 rfl Tryz.info25) rfl ?_
  obtain ⟨b1, b2, b3, b4⟩ := HH.out
  exact ⟨rfl, below_store3 (b3.trans (HB1.out.mono b3.size)) (by omega) _ _ _⟩
set_option maxRecDepth 200000 in
theorem mul_no (na nb : Bool) (ua va : Option Addr) (un uc vn vc : Nat) (ea eb : Int) (w : World)
    (k67 : ∀ W g, Below w.heap.size w W → W.heap[g]? = some (.cells #[.bool na, .slice ua un uc, .int .i64 ea, .bool nb, .slice va vn vc, .int .i64 eb] 25 (0, 0)) → Calls Tryz.prog 42 #[.slice (some ⟨g, 0, none⟩) 2 2] W fun r w' => r = .returned (.bool false) ∧ Below W.heap.size W w') :
    Calls Tryz.prog 32 #[NumV na (.slice ua un uc) ea, NumV nb (.slice va vn vc) eb] w fun r w' => r = .returned (.tuple #[Nil, .int .i64 1]) ∧ Below w.heap.size w w' := by
  obtain ⟨W, hW⟩ : ∃ W, W = ((w.alloc (.cells #[.bool na, .slice ua un uc, .int .i64 ea] 25)).alloc (.cells #[.bool nb, .slice va vn vc, .int .i64 eb] 25)).alloc (.cells #[.bool false, .slice none 0 0, .int .i64 0] 25) := ⟨_, rfl⟩
  obtain ⟨hA, hBb, hC, hsz, hBW⟩ := boxes3 _ _ _ hW
  have hB4 : Below w.heap.size w (W.alloc (.cells #[.bool na, .slice ua un uc, .int .i64 ea, .bool nb, .slice va vn vc, .int .i64 eb] 25)) := hBW.alloc hBW.size _
  have k1 := k67 (W.alloc (.cells #[.bool na, .slice ua un uc, .int .i64 ea, .bool nb, .slice va vn vc, .int .i64 eb] 25)) (w.heap.size + 1 + 1 + 1) hB4 (by rw [← hsz]; exact heap_alloc_new _ _)
  have HH : Hid (W.heap[w.heap.size + 1 + 1]? = some (.cells #[.bool false, .slice none 0 0, .int .i64 0] 25 (0, 0)) ∧ W.heap.size = w.heap.size + 1 + 1 + 1 ∧ Below w.heap.size w W ∧ Below W.heap.size W (W.alloc (.cells #[.bool na, .slice ua un uc, .int .i64 ea, .bool nb, .slice va vn vc, .int .i64 eb] 25))) := ⟨hC, hsz, hBW, (Below.refl _ _).alloc (Nat.le_refl _) _⟩
  unfold NumV
  clear hA hBb hC hsz hBW hB4 k67
  go_enter Tryz.func32, Tryz.ntmps32
  go_wp2_with fail
  rw [← hW]
  clear hW
  refine k1.mono ?_
  rintro r w1 ⟨rfl, hB1⟩
  clear k1
  have hBW1 : Below W.heap.size W w1 := HH.out.2.2.2.trans (hB1.mono HH.out.2.2.2.size)
  have HC3 : Hid (w1.heap[w.heap.size + 1 + 1]? = some (.cells #[.bool false, .slice none 0 0, .int .i64 0] 25 (0, 0))) := box_later HH.out.1 hBW1 (by have := HH.out.2.1; omega)
  have HB1 : Hid (Below W.heap.size W w1) := hBW1
  obtain ⟨⟨x1, x2, x3⟩, x4, x5, x6⟩ := box_cells HC3.out
  clear hB1 hBW1
  go_wp2
  refine bodyPost_ret (results_cell_tmp_row rfl _ _ (w.heap.size + 1 + 1) 25 #[.bool false, .slice none 0 0, .int .i64 0] (0, 0) _ rfl (store3 _ _ _ HC3.out) Tryz.underlying25 rfl Tryz.info25) rfl ?_
  obtain ⟨b1, b2, b3, b4⟩ := HH.out
  exact ⟨rfl, below_store3 (b3.trans (HB1.out.mono b3.size)) (by omega) _ _ _⟩

set_option maxHeartbeats 4000000 in
set_option maxRecDepth 200000 in
theorem shift_0 (na : Bool) (ua : Option Addr) (un uc : Nat) (ea k0 : Int) (w : World) (k43 : ∀ W g, Below w.heap.size w W → W.heap[g]? = some (.cells #[.bool na, .slice ua un uc, .int .i64 ea] 25 (0, 0)) → Calls Tryz.prog 42 #[.slice (some ⟨g, 0, none⟩) 1 1] W fun r w' => r = .returned (.bool false) ∧ Below W.heap.size W w') :
    Calls Tryz.prog 34 #[.agg #[.bool na, .slice ua un uc, .int .i64 ea], .int .i64 k0] w fun r w' => r = .returned (.tuple #[.agg #[.bool false, .slice none 0 0, .int .i64 0], .int .i64 1]) ∧ Below w.heap.size w w' := by
  obtain ⟨W, hW⟩ : ∃ W, W = (w.alloc (.cells #[.bool na, .slice ua un uc, .int .i64 ea] 25)).alloc (.cells #[.bool false, .slice none 0 0, .int .i64 0] 25) := ⟨_, rfl⟩
  have hBW : Below w.heap.size w W := by rw [hW]; exact ((Below.refl _ _).alloc (Nat.le_refl _) _).alloc (by simp) _
  have hbA : W.heap[w.heap.size]? = some (.cells #[.bool na, .slice ua un uc, .int .i64 ea] 25 (0, 0)) := by
    rw [hW, Below.heap_alloc _ _ _ (by simp)]; exact heap_alloc_new _ _
  have hbB : W.heap[w.heap.size + 1]? = some (.cells #[.bool false, .slice none 0 0, .int .i64 0] 25 (0, 0)) := by
    have := heap_alloc_new (w.alloc (.cells #[.bool na, .slice ua un uc, .int .i64 ea] 25)) (.cells #[.bool false, .slice none 0 0, .int .i64 0] 25)
    rw [hW]; simpa using this
  have hsz : W.heap.size = w.heap.size + 1 + 1 := by rw [hW]; simp
  have k1 := k43 (W.alloc (.cells #[.bool na, .slice ua un uc, .int .i64 ea] 25)) (w.heap.size + 1 + 1) (hBW.alloc hBW.size _) (by rw [← hsz]; exact heap_alloc_new _ _)
  have HX : Hid (Below w.heap.size w W ∧ W.heap.size = w.heap.size + 1 + 1 ∧ W.heap[w.heap.size]? = some (.cells #[.bool na, .slice ua un uc, .int .i64 ea] 25 (0, 0)) ∧ W.heap[w.heap.size + 1]? = some (.cells #[.bool false, .slice none 0 0, .int .i64 0] 25 (0, 0))) := ⟨hBW, hsz, hbA, hbB⟩
  clear hBW hsz hbA hbB k43
  go_enter Tryz.func34, Tryz.ntmps34
  go_wp2_with fail
  rw [← hW]
  clear hW
  refine k1.mono ?_
  rintro r w1 ⟨rfl, hb1⟩
  have HB1 : Hid (Below W.heap.size W w1) := ((Below.refl W.heap.size W).alloc (Nat.le_refl _) _).trans (hb1.mono (by simp))
  have H3 : Hid (w1.heap[w.heap.size]? = some (.cells #[.bool na, .slice ua un uc, .int .i64 ea] 25 (0, 0)) ∧ w1.heap[w.heap.size + 1]? = some (.cells #[.bool false, .slice none 0 0, .int .i64 0] 25 (0, 0)) ∧ w.heap.size + 1 + 1 ≤ w1.heap.size ∧ Below w.heap.size w w1) := ⟨box_later HX.out.2.2.1 HB1.out (by have := HX.out.2.1; omega), box_later HX.out.2.2.2 HB1.out (by have := HX.out.2.1; omega), by have := HB1.out.size; have := HX.out.2.1; omega, HX.out.1.trans (HB1.out.mono HX.out.1.size)⟩
  clear k1 hb1
  obtain ⟨⟨a0, a1, a2⟩, -⟩ := box_cells H3.out.1
  obtain ⟨⟨x1, x2, x3⟩, x4, x5, x6⟩ := box_cells H3.out.2.1
  go_wp2
  refine bodyPost_ret (results_cell_tmp_row rfl _ _ (w.heap.size + 1) 25 #[.bool false, .slice none 0 0, .int .i64 0] (0, 0) _ rfl (store3 _ _ _ H3.out.2.1) Tryz.underlying25 rfl Tryz.info25) rfl ?_
  exact ⟨rfl, below_store3 H3.out.2.2.2 (by omega) _ _ _⟩

set_option maxHeartbeats 4000000 in
set_option maxRecDepth 200000 in
theorem shift_1 (na : Bool) (ua : Option Addr) (uc : Nat) (ea k0 : Int) (w : World) (k43 : ∀ W g, Below w.heap.size w W → W.heap[g]? = some (.cells #[.bool na, .slice ua 0 uc, .int .i64 ea] 25 (0, 0)) → Calls Tryz.prog 42 #[.slice (some ⟨g, 0, none⟩) 1 1] W fun r w' => r = .returned (.bool true) ∧ Below W.heap.size W w') :
    Calls Tryz.prog 34 #[.agg #[.bool na, .slice ua 0 uc, .int .i64 ea], .int .i64 k0] w fun r w' => r = .returned (.tuple #[.agg #[.bool false, .slice none 0 0, .int .i64 0], .int .i64 0]) ∧ Below w.heap.size w w' := by
  obtain ⟨W, hW⟩ : ∃ W, W = (w.alloc (.cells #[.bool na, .slice ua 0 uc, .int .i64 ea] 25)).alloc (.cells #[.bool false, .slice none 0 0, .int .i64 0] 25) := ⟨_, rfl⟩
  have hBW : Below w.heap.size w W := by rw [hW]; exact ((Below.refl _ _).alloc (Nat.le_refl _) _).alloc (by simp) _
  have hbA : W.heap[w.heap.size]? = some (.cells #[.bool na, .slice ua 0 uc, .int .i64 ea] 25 (0, 0)) := by
    rw [hW, Below.heap_alloc _ _ _ (by simp)]; exact heap_alloc_new _ _
  have hbB : W.heap[w.heap.size + 1]? = some (.cells #[.bool false, .slice none 0 0, .int .i64 0] 25 (0, 0)) := by
    have := heap_alloc_new (w.alloc (.cells #[.bool na, .slice ua 0 uc, .int .i64 ea] 25)) (.cells #[.bool false, .slice none 0 0, .int .i64 0] 25)
    rw [hW]; simpa using this
  have hsz : W.heap.size = w.heap.size + 1 + 1 := by rw [hW]; simp
  have k1 := k43 (W.alloc (.cells #[.bool na, .slice ua 0 uc, .int .i64 ea] 25)) (w.heap.size + 1 + 1) (hBW.alloc hBW.size _) (by rw [← hsz]; exact heap_alloc_new _ _)
  have HX : Hid (Below w.heap.size w W ∧ W.heap.size = w.heap.size + 1 + 1 ∧ W.heap[w.heap.size]? = some (.cells #[.bool na, .slice ua 0 uc, .int .i64 ea] 25 (0, 0)) ∧ W.heap[w.heap.size + 1]? = some (.cells #[.bool false, .slice none 0 0, .int .i64 0] 25 (0, 0))) := ⟨hBW, hsz, hbA, hbB⟩
  clear hBW hsz hbA hbB k43
  go_enter Tryz.func34, Tryz.ntmps34
  go_wp2_with fail
  rw [← hW]
  clear hW
  refine k1.mono ?_
  rintro r w1 ⟨rfl, hb1⟩
  have HB1 : Hid (Below W.heap.size W w1) := ((Below.refl W.heap.size W).alloc (Nat.le_refl _) _).trans (hb1.mono (by simp))
  have H3 : Hid (w1.heap[w.heap.size]? = some (.cells #[.bool na, .slice ua 0 uc, .int .i64 ea] 25 (0, 0)) ∧ w1.heap[w.heap.size + 1]? = some (.cells #[.bool false, .slice none 0 0, .int .i64 0] 25 (0, 0)) ∧ w.heap.size + 1 + 1 ≤ w1.heap.size ∧ Below w.heap.size w w1) := ⟨box_later HX.out.2.2.1 HB1.out (by have := HX.out.2.1; omega), box_later HX.out.2.2.2 HB1.out (by have := HX.out.2.1; omega), by have := HB1.out.size; have := HX.out.2.1; omega, HX.out.1.trans (HB1.out.mono HX.out.1.size)⟩
  clear k1 hb1
  obtain ⟨⟨a0, a1, a2⟩, -⟩ := box_cells H3.out.1
  obtain ⟨⟨x1, x2, x3⟩, x4, x5, x6⟩ := box_cells H3.out.2.1
  go_wp2
  refine bodyPost_ret (results_cell_tmp_row rfl _ _ (w.heap.size + 1) 25 #[.bool false, .slice none 0 0, .int .i64 0] (0, 0) _ rfl (store3 _ _ _ H3.out.2.1) Tryz.underlying25 rfl Tryz.info25) rfl ?_
  exact ⟨rfl, below_store3 H3.out.2.2.2 (by omega) _ _ _⟩

set_option maxHeartbeats 4000000 in
set_option maxRecDepth 200000 in
theorem shift_2 (na : Bool) (ua : Option Addr) (un uc : Nat) (ea k0 : Int) (w : World) (hn : un ≤ 35184372088832) (hn0 : ((un : Int) == 0) = false) (he1 : -65536 ≤ ea) (he2 : ea ≤ 65536) (hk : k0 < -65536 - ea ∨ 65536 - ea < k0) (k43 : ∀ W g, Below w.heap.size w W → W.heap[g]? = some (.cells #[.bool na, .slice ua un uc, .int .i64 ea] 25 (0, 0)) → Calls Tryz.prog 42 #[.slice (some ⟨g, 0, none⟩) 1 1] W fun r w' => r = .returned (.bool true) ∧ Below W.heap.size W w') :
    Calls Tryz.prog 34 #[.agg #[.bool na, .slice ua un uc, .int .i64 ea], .int .i64 k0] w fun r w' => r = .returned (.tuple #[.agg #[.bool false, .slice none 0 0, .int .i64 0], .int .i64 2]) ∧ Below w.heap.size w w' := by
  obtain ⟨W, hW⟩ : ∃ W, W = (w.alloc (.cells #[.bool na, .slice ua un uc, .int .i64 ea] 25)).alloc (.cells #[.bool false, .slice none 0 0, .int .i64 0] 25) := ⟨_, rfl⟩
  have hBW : Below w.heap.size w W := by rw [hW]; exact ((Below.refl _ _).alloc (Nat.le_refl _) _).alloc (by simp) _
  have hbA : W.heap[w.heap.size]? = some (.cells #[.bool na, .slice ua un uc, .int .i64 ea] 25 (0, 0)) := by
    rw [hW, Below.heap_alloc _ _ _ (by simp)]; exact heap_alloc_new _ _
  have hbB : W.heap[w.heap.size + 1]? = some (.cells #[.bool false, .slice none 0 0, .int .i64 0] 25 (0, 0)) := by
    have := heap_alloc_new (w.alloc (.cells #[.bool na, .slice ua un uc, .int .i64 ea] 25)) (.cells #[.bool false, .slice none 0 0, .int .i64 0] 25)
    rw [hW]; simpa using this
  have hsz : W.heap.size = w.heap.size + 1 + 1 := by rw [hW]; simp
  have k1 := k43 (W.alloc (.cells #[.bool na, .slice ua un uc, .int .i64 ea] 25)) (w.heap.size + 1 + 1) (hBW.alloc hBW.size _) (by rw [← hsz]; exact heap_alloc_new _ _)
  have HX : Hid (Below w.heap.size w W ∧ W.heap.size = w.heap.size + 1 + 1 ∧ W.heap[w.heap.size]? = some (.cells #[.bool na, .slice ua un uc, .int .i64 ea] 25 (0, 0)) ∧ W.heap[w.heap.size + 1]? = some (.cells #[.bool false, .slice none 0 0, .int .i64 0] 25 (0, 0))) := ⟨hBW, hsz, hbA, hbB⟩
  clear hBW hsz hbA hbB k43
  go_enter Tryz.func34, Tryz.ntmps34
  go_wp2_with fail
  rw [← hW]
  clear hW
  refine k1.mono ?_
  rintro r w1 ⟨rfl, hb1⟩
  have HB1 : Hid (Below W.heap.size W w1) := ((Below.refl W.heap.size W).alloc (Nat.le_refl _) _).trans (hb1.mono (by simp))
  have H3 : Hid (w1.heap[w.heap.size]? = some (.cells #[.bool na, .slice ua un uc, .int .i64 ea] 25 (0, 0)) ∧ w1.heap[w.heap.size + 1]? = some (.cells #[.bool false, .slice none 0 0, .int .i64 0] 25 (0, 0)) ∧ w.heap.size + 1 + 1 ≤ w1.heap.size ∧ Below w.heap.size w w1) := ⟨box_later HX.out.2.2.1 HB1.out (by have := HX.out.2.1; omega), box_later HX.out.2.2.2 HB1.out (by have := HX.out.2.1; omega), by have := HB1.out.size; have := HX.out.2.1; omega, HX.out.1.trans (HB1.out.mono HX.out.1.size)⟩
  clear k1 hb1
  obtain ⟨⟨a0, a1, a2⟩, -⟩ := box_cells H3.out.1
  obtain ⟨⟨x1, x2, x3⟩, x4, x5, x6⟩ := box_cells H3.out.2.1
  by_cases hk1 : k0 < -65536 - ea
  · clear hk
    go_wp2
    refine bodyPost_ret (results_cell_tmp_row rfl _ _ (w.heap.size + 1) 25 #[.bool false, .slice none 0 0, .int .i64 0] (0, 0) _ rfl (store3 _ _ _ H3.out.2.1) Tryz.underlying25 rfl Tryz.info25) rfl ?_
    exact ⟨rfl, below_store3 H3.out.2.2.2 (by omega) _ _ _⟩
  · have hk2 : 65536 - ea < k0 := by omega
    clear hk
    go_wp2
    refine bodyPost_ret (results_cell_tmp_row rfl _ _ (w.heap.size + 1) 25 #[.bool false, .slice none 0 0, .int .i64 0] (0, 0) _ rfl (store3 _ _ _ H3.out.2.1) Tryz.underlying25 rfl Tryz.info25) rfl ?_
    exact ⟨rfl, below_store3 H3.out.2.2.2 (by omega) _ _ _⟩

set_option maxHeartbeats 4000000 in
set_option maxRecDepth 200000 in
theorem shift_3 (na : Bool) (ua : Option Addr) (un uc : Nat) (ea k0 : Int) (w : World) (x : Nat) (h1 : Is w (.slice ua un uc) x) (hx : dlen x ≤ 1000000) (hn : un ≤ 35184372088832) (hn0 : ((un : Int) == 0) = false) (he1 : -65536 ≤ ea) (he2 : ea ≤ 65536) (hk1 : ¬ k0 < -65536 - ea) (hk2 : ¬ 65536 - ea < k0) (k43 : ∀ W g, Below w.heap.size w W → W.heap[g]? = some (.cells #[.bool na, .slice ua un uc, .int .i64 ea] 25 (0, 0)) → Calls Tryz.prog 42 #[.slice (some ⟨g, 0, none⟩) 1 1] W fun r w' => r = .returned (.bool true) ∧ Below W.heap.size W w') :
    Calls Tryz.prog 34 #[.agg #[.bool na, .slice ua un uc, .int .i64 ea], .int .i64 k0] w fun r w' => ∃ v, r = .returned (.tuple #[.agg #[.bool na, v, .int .i64 (ea + k0)], .int .i64 0]) ∧ Own w' w.heap.size v x ∧ Below w.heap.size w w' := by
  obtain ⟨W, hW⟩ : ∃ W, W = (w.alloc (.cells #[.bool na, .slice ua un uc, .int .i64 ea] 25)).alloc (.cells #[.bool false, .slice none 0 0, .int .i64 0] 25) := ⟨_, rfl⟩
  have hBW : Below w.heap.size w W := by rw [hW]; exact ((Below.refl _ _).alloc (Nat.le_refl _) _).alloc (by simp) _
  have hbA : W.heap[w.heap.size]? = some (.cells #[.bool na, .slice ua un uc, .int .i64 ea] 25 (0, 0)) := by
    rw [hW, Below.heap_alloc _ _ _ (by simp)]; exact heap_alloc_new _ _
  have hbB : W.heap[w.heap.size + 1]? = some (.cells #[.bool false, .slice none 0 0, .int .i64 0] 25 (0, 0)) := by
    have := heap_alloc_new (w.alloc (.cells #[.bool na, .slice ua un uc, .int .i64 ea] 25)) (.cells #[.bool false, .slice none 0 0, .int .i64 0] 25)
    rw [hW]; simpa using this
  have hsz : W.heap.size = w.heap.size + 1 + 1 := by rw [hW]; simp
  have k1 := k43 (W.alloc (.cells #[.bool na, .slice ua un uc, .int .i64 ea] 25)) (w.heap.size + 1 + 1) (hBW.alloc hBW.size _) (by rw [← hsz]; exact heap_alloc_new _ _)
  have HX : Hid (Below w.heap.size w W ∧ W.heap.size = w.heap.size + 1 + 1 ∧ W.heap[w.heap.size]? = some (.cells #[.bool na, .slice ua un uc, .int .i64 ea] 25 (0, 0)) ∧ W.heap[w.heap.size + 1]? = some (.cells #[.bool false, .slice none 0 0, .int .i64 0] 25 (0, 0))) := ⟨hBW, hsz, hbA, hbB⟩
  have HI : Hid (Is w (.slice ua un uc) x ∧ dlen x ≤ 1000000) := ⟨h1, hx⟩
  clear h1 hx
  clear hBW hsz hbA hbB k43
  go_enter Tryz.func34, Tryz.ntmps34
  go_wp2_with fail
  rw [← hW]
  clear hW
  refine k1.mono ?_
  rintro r w1 ⟨rfl, hb1⟩
  have HB1 : Hid (Below W.heap.size W w1) := ((Below.refl W.heap.size W).alloc (Nat.le_refl _) _).trans (hb1.mono (by simp))
  have H3 : Hid (w1.heap[w.heap.size]? = some (.cells #[.bool na, .slice ua un uc, .int .i64 ea] 25 (0, 0)) ∧ w1.heap[w.heap.size + 1]? = some (.cells #[.bool false, .slice none 0 0, .int .i64 0] 25 (0, 0)) ∧ w.heap.size + 1 + 1 ≤ w1.heap.size ∧ Below w.heap.size w w1) := ⟨box_later HX.out.2.2.1 HB1.out (by have := HX.out.2.1; omega), box_later HX.out.2.2.2 HB1.out (by have := HX.out.2.1; omega), by have := HB1.out.size; have := HX.out.2.1; omega, HX.out.1.trans (HB1.out.mono HX.out.1.size)⟩
  clear k1 hb1
  obtain ⟨⟨a0, a1, a2⟩, -⟩ := box_cells H3.out.1
  obtain ⟨⟨x1, x2, x3⟩, x4, x5, x6⟩ := box_cells H3.out.2.1
  have HK : Hid (∀ w', Below (w.heap.size + 1) w1 w' → (w'.cell? ⟨w.heap.size, 0, none⟩ = some (.bool na) ∧ w'.cell? ⟨w.heap.size, 1, none⟩ = some (.slice ua un uc) ∧ w'.cell? ⟨w.heap.size, 2, none⟩ = some (.int .i64 ea))) := fun w' hb => (box_cells (box_later H3.out.1 hb (by omega))).1
  have kC : ∀ w4, Below w1.heap.size w1 w4 → Calls Tryz.prog 46 #[.slice ua un uc] w4 fun r w' => ∃ ao n cap, r = .returned (.slice ao n cap) ∧ Own w' w1.heap.size (.slice ao n cap) x ∧ Below w1.heap.size w1 w' := fun w4 hb =>
    (clone_ok ((HI.out.1.later H3.out.2.2.2).later hb) (by have := HI.out.2; omega)).mono fun r w' ⟨v, e1, o1, o2⟩ => by
      obtain ⟨ao, cap, rfl, -, -, -⟩ := o1.is
      exact ⟨_, _, _, e1, o1.mono hb.size, hb.trans (o2.mono hb.size)⟩
  have hBR : Below w1.heap.size w1 w1.drew := (Below.refl _ _).drew
  have hBR1 : Below (w.heap.size + 1) w1 w1.drew := (Below.refl _ _).drew
  have H1 : Hid (w.heap.size + 1 ≤ w1.heap.size) := (by have := H3.out.2.2.1; omega : w.heap.size + 1 ≤ w1.heap.size)
  have HZ : Hid (IntKind.i64.wrap (ea + k0) = ea + k0) := (by rw [IntKind.wrap_i64]; omega : IntKind.i64.wrap (ea + k0) = ea + k0)
  go_upto_region 8 with fail
  clear x1 x2 x3 x4 x5 x6
  go_region_held3 (fun w' => w'.cell? ⟨w.heap.size, 0, none⟩ = some (.bool na) ∧ w'.cell? ⟨w.heap.size, 1, none⟩ = some (.slice ua un uc) ∧ w'.cell? ⟨w.heap.size, 2, none⟩ = some (.int .i64 ea)) (first | (with_reducible assumption) | exact HK.out _ hBR1 | (refine HK.out _ (Below.mono ?_ H1.out); with_reducible assumption) | (refine HK.out _ (below_store3 (Below.mono hb5 H1.out) (Nat.le_refl _) _ _ _)) | go_keep)
    (first | (go_at_call 46; refine (kC _ (by first | (with_reducible assumption) | exact hBR)).mono ?_; rintro r w5 ⟨ao5, n5, cap5, rfl, ho5, hb5⟩; have hblk5 := box_later H3.out.2.1 hb5 (by have := H3.out.2.2.1; omega); obtain ⟨⟨x1, x2, x3⟩, x4, x5, x6⟩ := box_cells hblk5))
  all_goals (have HF : Hid (Below w1.heap.size w1 w5 ∧ Own w5 w1.heap.size (.slice ao5 n5 cap5) x ∧ w5.heap[w.heap.size + 1]? = some (.cells #[.bool false, .slice none 0 0, .int .i64 0] 25 (0, 0))) := ⟨hb5, ho5, hblk5⟩; clear ho5 hb5 hblk5 x1 x2 x3 x4 x5 x6 kC HK hBR hBR1 a0 a1 a2; (try rw [HZ.out]); go_wp2; refine bodyPost_ret (results_cell_tmp_row rfl _ _ (w.heap.size + 1) 25 #[.bool na, .slice ao5 n5 cap5, .int .i64 (ea + k0)] (0, 0) _ rfl (store3 _ _ _ HF.out.2.2) Tryz.underlying25 rfl Tryz.info25) rfl ?_; exact ⟨_, rfl, (own_store3 HF.out.2.1 (by have := H3.out.2.2.1; omega) _ _ _).mono (by have := H3.out.2.2.1; omega), below_store3 (H3.out.2.2.2.trans (HF.out.1.mono H3.out.2.2.2.size)) (by omega) _ _ _⟩)
end Go.Proofs.YtejefbnfmglfeaaGreatDoor
