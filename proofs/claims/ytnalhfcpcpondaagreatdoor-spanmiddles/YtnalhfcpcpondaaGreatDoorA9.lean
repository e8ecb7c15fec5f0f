/- Own work: contracts of the program's functions, part 9: W44 RC5 RD1 SA6 L5 G3 W43 L7 L9 RT2 DV1 RV1 DV2 DV3 RV2 DV4 RV3 RV4 RW2 RW3 RW4 RW5 RW6 RW7 RW8 RW9 RX1 W49 RX2 RX3 W50 L16 L10 L17 L14 W51 W52 FM. -/
import Derived.Test.YtnalhfcpcpondaaGreatDoorA8
import Derived.Test.YtnalhfcpcpondaaGreatDoorA6
import Derived.Test.YtnalhfcpcpondaaGreatDoorA7
import Derived.Deep.CutRange
import Derived.Test.YtnalhfcpcpondaaGreatDoorA4
import Derived.Test.YtnalhfcpcpondaaGreatDoorA2
import Derived.Deep.CutBlock
import Derived.Test.YtnalhfcpcpondaaGreatDoorA3
import Derived.Test.YtnalhfcpcpondaaGreatDoorA1

/- Sub, Mul refused; Shift. -/
namespace Go.Proofs.YtnalhfcpcpondaaGreatDoor
set_option linter.unusedVariables false
set_option linter.unusedSimpArgs false
open Go.RowKit

set_option maxRecDepth 200000 in
theorem mul_no (na nb : Bool) (ua va : Option Addr) (un uc vn vc : Nat) (ea eb : Int) (w : World)
    (k67 : ∀ W g, Below w.heap.size w W → W.heap[g]? = some (.cells #[.bool na, .slice ua un uc, .int .i64 ea, .bool nb, .slice va vn vc, .int .i64 eb] 95 (0, 0)) → Calls Tryz.prog 136 #[.slice (some ⟨g, 0, none⟩) 2 2] W fun r w' => r = .returned (.bool false) ∧ Below W.heap.size W w') :
    Calls Tryz.prog 134 #[NumV na (.slice ua un uc) ea, NumV nb (.slice va vn vc) eb] w fun r w' => r = .returned (.tuple #[Nil, .int .i64 1]) ∧ Below w.heap.size w w' := by
  obtain ⟨W, hW⟩ : ∃ W, W = ((w.alloc (.cells #[.bool na, .slice ua un uc, .int .i64 ea] 95)).alloc (.cells #[.bool nb, .slice va vn vc, .int .i64 eb] 95)).alloc (.cells #[.bool false, .slice none 0 0, .int .i64 0] 95) := ⟨_, rfl⟩
  obtain ⟨hA, hBb, hC, hsz, hBW⟩ := boxes3 _ _ _ hW
  have hB4 : Below w.heap.size w (W.alloc (.cells #[.bool na, .slice ua un uc, .int .i64 ea, .bool nb, .slice va vn vc, .int .i64 eb] 95)) := hBW.alloc hBW.size _
  have k1 := k67 (W.alloc (.cells #[.bool na, .slice ua un uc, .int .i64 ea, .bool nb, .slice va vn vc, .int .i64 eb] 95)) (w.heap.size + 1 + 1 + 1) hB4 (by rw [← hsz]; exact heap_alloc_new _ _)
  have HH : Hid (W.heap[w.heap.size + 1 + 1]? = some (.cells #[.bool false, .slice none 0 0, .int .i64 0] 95 (0, 0)) ∧ W.heap.size = w.heap.size + 1 + 1 + 1 ∧ Below w.heap.size w W ∧ Below W.heap.size W (W.alloc (.cells #[.bool na, .slice ua un uc, .int .i64 ea, .bool nb, .slice va vn vc, .int .i64 eb] 95))) := ⟨hC, hsz, hBW, (Below.refl _ _).alloc (Nat.le_refl _) _⟩
  unfold NumV
  clear hA hBb hC hsz hBW hB4 k67
  go_enter Tryz.func134, Tryz.ntmps134
  go_wp2_with fail
  rw [← hW]
  clear hW
  refine k1.mono ?_
  rintro r w1 ⟨rfl, hB1⟩
  clear k1
  have hBW1 : Below W.heap.size W w1 := HH.out.2.2.2.trans (hB1.mono HH.out.2.2.2.size)
  have HC3 : Hid (w1.heap[w.heap.size + 1 + 1]? = some (.cells #[.bool false, .slice none 0 0, .int .i64 0] 95 (0, 0))) := box_later HH.out.1 hBW1 (by have := HH.out.2.1; omega)
  have HB1 : Hid (Below W.heap.size W w1) := hBW1
  obtain ⟨⟨x1, x2, x3⟩, x4, x5, x6⟩ := box_cells HC3.out
  clear hB1 hBW1
  go_wp2
  refine bodyPost_ret (results_cell_tmp_row rfl _ _ (w.heap.size + 1 + 1) 95 #[.bool false, .slice none 0 0, .int .i64 0] (0, 0) _ rfl (store3 _ _ _ HC3.out) Tryz.underlying95 rfl Tryz.info95) rfl ?_
  obtain ⟨b1, b2, b3, b4⟩ := HH.out
  exact ⟨rfl, below_store3 (b3.trans (HB1.out.mono b3.size)) (by omega) _ _ _⟩

set_option maxHeartbeats 4000000 in
set_option maxRecDepth 200000 in
theorem shift_0 (na : Bool) (ua : Option Addr) (un uc : Nat) (ea k0 : Int) (w : World) (k43 : ∀ W g, Below w.heap.size w W → W.heap[g]? = some (.cells #[.bool na, .slice ua un uc, .int .i64 ea] 95 (0, 0)) → Calls Tryz.prog 136 #[.slice (some ⟨g, 0, none⟩) 1 1] W fun r w' => r = .returned (.bool false) ∧ Below W.heap.size W w') :
    Calls Tryz.prog 105 #[.agg #[.bool na, .slice ua un uc, .int .i64 ea], .int .i64 k0] w fun r w' => r = .returned (.tuple #[.agg #[.bool false, .slice none 0 0, .int .i64 0], .int .i64 1]) ∧ Below w.heap.size w w' := by
  obtain ⟨W, hW⟩ : ∃ W, W = (w.alloc (.cells #[.bool na, .slice ua un uc, .int .i64 ea] 95)).alloc (.cells #[.bool false, .slice none 0 0, .int .i64 0] 95) := ⟨_, rfl⟩
  have hBW : Below w.heap.size w W := by rw [hW]; exact ((Below.refl _ _).alloc (Nat.le_refl _) _).alloc (by simp) _
  have hbA : W.heap[w.heap.size]? = some (.cells #[.bool na, .slice ua un uc, .int .i64 ea] 95 (0, 0)) := by
    rw [hW, Below.heap_alloc _ _ _ (by simp)]; exact heap_alloc_new _ _
  have hbB : W.heap[w.heap.size + 1]? = some (.cells #[.bool false, .slice none 0 0, .int .i64 0] 95 (0, 0)) := by
    have := heap_alloc_new (w.alloc (.cells #[.bool na, .slice ua un uc, .int .i64 ea] 95)) (.cells #[.bool false, .slice none 0 0, .int .i64 0] 95)
    rw [hW]; simpa using this
  have hsz : W.heap.size = w.heap.size + 1 + 1 := by rw [hW]; simp
  have k1 := k43 (W.alloc (.cells #[.bool na, .slice ua un uc, .int .i64 ea] 95)) (w.heap.size + 1 + 1) (hBW.alloc hBW.size _) (by rw [← hsz]; exact heap_alloc_new _ _)
  have HX : Hid (Below w.heap.size w W ∧ W.heap.size = w.heap.size + 1 + 1 ∧ W.heap[w.heap.size]? = some (.cells #[.bool na, .slice ua un uc, .int .i64 ea] 95 (0, 0)) ∧ W.heap[w.heap.size + 1]? = some (.cells #[.bool false, .slice none 0 0, .int .i64 0] 95 (0, 0))) := ⟨hBW, hsz, hbA, hbB⟩
  clear hBW hsz hbA hbB k43
  go_enter Tryz.func105, Tryz.ntmps105
  go_wp2_with fail
  rw [← hW]
  clear hW
  refine k1.mono ?_
  rintro r w1 ⟨rfl, hb1⟩
  have HB1 : Hid (Below W.heap.size W w1) := ((Below.refl W.heap.size W).alloc (Nat.le_refl _) _).trans (hb1.mono (by simp))
  have H3 : Hid (w1.heap[w.heap.size]? = some (.cells #[.bool na, .slice ua un uc, .int .i64 ea] 95 (0, 0)) ∧ w1.heap[w.heap.size + 1]? = some (.cells #[.bool false, .slice none 0 0, .int .i64 0] 95 (0, 0)) ∧ w.heap.size + 1 + 1 ≤ w1.heap.size ∧ Below w.heap.size w w1) := ⟨box_later HX.out.2.2.1 HB1.out (by have := HX.out.2.1; omega), box_later HX.out.2.2.2 HB1.out (by have := HX.out.2.1; omega), by have := HB1.out.size; have := HX.out.2.1; omega, HX.out.1.trans (HB1.out.mono HX.out.1.size)⟩
  clear k1 hb1
  obtain ⟨⟨a0, a1, a2⟩, -⟩ := box_cells H3.out.1
  obtain ⟨⟨x1, x2, x3⟩, x4, x5, x6⟩ := box_cells H3.out.2.1
  go_wp2
  refine bodyPost_ret (results_cell_tmp_row rfl _ _ (w.heap.size + 1) 95 #[.bool false, .slice none 0 0, .int .i64 0] (0, 0) _ rfl (store3 _ _ _ H3.out.2.1) Tryz.underlying95 rfl Tryz.info95) rfl ?_
  exact ⟨rfl, below_store3 H3.out.2.2.2 (by omega) _ _ _⟩

set_option maxHeartbeats 4000000 in
set_option maxRecDepth 200000 in
theorem shift_1 (na : Bool) (ua : Option Addr) (uc : Nat) (ea k0 : Int) (w : World) (k43 : ∀ W g, Below w.heap.size w W → W.heap[g]? = some (.cells #[.bool na, .slice ua 0 uc, .int .i64 ea] 95 (0, 0)) → Calls Tryz.prog 136 #[.slice (some ⟨g, 0, none⟩) 1 1] W fun r w' => r = .returned (.bool true) ∧ Below W.heap.size W w') :
    Calls Tryz.prog 105 #[.agg #[.bool na, .slice ua 0 uc, .int .i64 ea], .int .i64 k0] w fun r w' => r = .returned (.tuple #[.agg #[.bool false, .slice none 0 0, .int .i64 0], .int .i64 0]) ∧ Below w.heap.size w w' := by
  obtain ⟨W, hW⟩ : ∃ W, W = (w.alloc (.cells #[.bool na, .slice ua 0 uc, .int .i64 ea] 95)).alloc (.cells #[.bool false, .slice none 0 0, .int .i64 0] 95) := ⟨_, rfl⟩
  have hBW : Below w.heap.size w W := by rw [hW]; exact ((Below.refl _ _).alloc (Nat.le_refl _) _).alloc (by simp) _
  have hbA : W.heap[w.heap.size]? = some (.cells #[.bool na, .slice ua 0 uc, .int .i64 ea] 95 (0, 0)) := by
    rw [hW, Below.heap_alloc _ _ _ (by simp)]; exact heap_alloc_new _ _
  have hbB : W.heap[w.heap.size + 1]? = some (.cells #[.bool false, .slice none 0 0, .int .i64 0] 95 (0, 0)) := by
    have := heap_alloc_new (w.alloc (.cells #[.bool na, .slice ua 0 uc, .int .i64 ea] 95)) (.cells #[.bool false, .slice none 0 0, .int .i64 0] 95)
    rw [hW]; simpa using this
  have hsz : W.heap.size = w.heap.size + 1 + 1 := by rw [hW]; simp
  have k1 := k43 (W.alloc (.cells #[.bool na, .slice ua 0 uc, .int .i64 ea] 95)) (w.heap.size + 1 + 1) (hBW.alloc hBW.size _) (by rw [← hsz]; exact heap_alloc_new _ _)
  have HX : Hid (Below w.heap.size w W ∧ W.heap.size = w.heap.size + 1 + 1 ∧ W.heap[w.heap.size]? = some (.cells #[.bool na, .slice ua 0 uc, .int .i64 ea] 95 (0, 0)) ∧ W.heap[w.heap.size + 1]? = some (.cells #[.bool false, .slice none 0 0, .int .i64 0] 95 (0, 0))) := ⟨hBW, hsz, hbA, hbB⟩
  clear hBW hsz hbA hbB k43
  go_enter Tryz.func105, Tryz.ntmps105
  go_wp2_with fail
  rw [← hW]
  clear hW
  refine k1.mono ?_
  rintro r w1 ⟨rfl, hb1⟩
  have HB1 : Hid (Below W.heap.size W w1) := ((Below.refl W.heap.size W).alloc (Nat.le_refl _) _).trans (hb1.mono (by simp))
  have H3 : Hid (w1.heap[w.heap.size]? = some (.cells #[.bool na, .slice ua 0 uc, .int .i64 ea] 95 (0, 0)) ∧ w1.heap[w.heap.size + 1]? = some (.cells #[.bool false, .slice none 0 0, .int .i64 0] 95 (0, 0)) ∧ w.heap.size + 1 + 1 ≤ w1.heap.size ∧ Below w.heap.size w w1) := ⟨box_later HX.out.2.2.1 HB1.out (by have := HX.out.2.1; omega), box_later HX.out.2.2.2 HB1.out (by have := HX.out.2.1; omega), by have := HB1.out.size; have := HX.out.2.1; omega, HX.out.1.trans (HB1.out.mono HX.out.1.size)⟩
  clear k1 hb1
  obtain ⟨⟨a0, a1, a2⟩, -⟩ := box_cells H3.out.1
  obtain ⟨⟨x1, x2, x3⟩, x4, x5, x6⟩ := box_cells H3.out.2.1
  go_wp2
  refine bodyPost_ret (results_cell_tmp_row rfl _ _ (w.heap.size + 1) 95 #[.bool false, .slice none 0 0, .int .i64 0] (0, 0) _ rfl (store3 _ _ _ H3.out.2.1) Tryz.underlying95 rfl Tryz.info95) rfl ?_
  exact ⟨rfl, below_store3 H3.out.2.2.2 (by omega) _ _ _⟩

set_option maxHeartbeats 4000000 in
set_option maxRecDepth 200000 in
theorem shift_2 (na : Bool) (ua : Option Addr) (un uc : Nat) (ea k0 : Int) (w : World) (hn : un ≤ 35184372088832) (hn0 : ((un : Int) == 0) = false) (he1 : -65536 ≤ ea) (he2 : ea ≤ 65536) (hk : k0 < -65536 - ea ∨ 65536 - ea < k0) (k43 : ∀ W g, Below w.heap.size w W → W.heap[g]? = some (.cells #[.bool na, .slice ua un uc, .int .i64 ea] 95 (0, 0)) → Calls Tryz.prog 136 #[.slice (some ⟨g, 0, none⟩) 1 1] W fun r w' => r = .returned (.bool true) ∧ Below W.heap.size W w') :
    Calls Tryz.prog 105 #[.agg #[.bool na, .slice ua un uc, .int .i64 ea], .int .i64 k0] w fun r w' => r = .returned (.tuple #[.agg #[.bool false, .slice none 0 0, .int .i64 0], .int .i64 2]) ∧ Below w.heap.size w w' := by
  obtain ⟨W, hW⟩ : ∃ W, W = (w.alloc (.cells #[.bool na, .slice ua un uc, .int .i64 ea] 95)).alloc (.cells #[.bool false, .slice none 0 0, .int .i64 0] 95) := ⟨_, rfl⟩
  have hBW : Below w.heap.size w W := by rw [hW]; exact ((Below.refl _ _).alloc (Nat.le_refl _) _).alloc (by simp) _
  have hbA : W.heap[w.heap.size]? = some (.cells #[.bool na, .slice ua un uc, .int .i64 ea] 95 (0, 0)) := by
    rw [hW, Below.heap_alloc _ _ _ (by simp)]; exact heap_alloc_new _ _
  have hbB : W.heap[w.heap.size + 1]? = some (.cells #[.bool false, .slice none 0 0, .int .i64 0] 95 (0, 0)) := by
    have := heap_alloc_new (w.alloc (.cells #[.bool na, .slice ua un uc, .int .i64 ea] 95)) (.cells #[.bool false, .slice none 0 0, .int .i64 0] 95)
    rw [hW]; simpa using this
  have hsz : W.heap.size = w.heap.size + 1 + 1 := by rw [hW]; simp
  have k1 := k43 (W.alloc (.cells #[.bool na, .slice ua un uc, .int .i64 ea] 95)) (w.heap.size + 1 + 1) (hBW.alloc hBW.size _) (by rw [← hsz]; exact heap_alloc_new _ _)
  have HX : Hid (Below w.heap.size w W ∧ W.heap.size = w.heap.size + 1 + 1 ∧ W.heap[w.heap.size]? = some (.cells #[.bool na, .slice ua un uc, .int .i64 ea] 95 (0, 0)) ∧ W.heap[w.heap.size + 1]? = some (.cells #[.bool false, .slice none 0 0, .int .i64 0] 95 (0, 0))) := ⟨hBW, hsz, hbA, hbB⟩
  clear hBW hsz hbA hbB k43
  go_enter Tryz.func105, Tryz.ntmps105
  go_wp2_with fail
  rw [← hW]
  clear hW
  refine k1.mono ?_
  rintro r w1 ⟨rfl, hb1⟩
  have HB1 : Hid (Below W.heap.size W w1) := ((Below.refl W.heap.size W).alloc (Nat.le_refl _) _).trans (hb1.mono (by simp))
  have H3 : Hid (w1.heap[w.heap.size]? = some (.cells #[.bool na, .slice ua un uc, .int .i64 ea] 95 (0, 0)) ∧ w1.heap[w.heap.size + 1]? = some (.cells #[.bool false, .slice none 0 0, .int .i64 0] 95 (0, 0)) ∧ w.heap.size + 1 + 1 ≤ w1.heap.size ∧ Below w.heap.size w w1) := ⟨box_later HX.out.2.2.1 HB1.out (by have := HX.out.2.1; omega), box_later HX.out.2.2.2 HB1.out (by have := HX.out.2.1; omega), by have := HB1.out.size; have := HX.out.2.1; omega, HX.out.1.trans (HB1.out.mono HX.out.1.size)⟩
  clear k1 hb1
  obtain ⟨⟨a0, a1, a2⟩, -⟩ := box_cells H3.out.1
  obtain ⟨⟨x1, x2, x3⟩, x4, x5, x6⟩ := box_cells H3.out.2.1
  by_cases hk1 : k0 < -65536 - ea
  · clear hk
    go_wp2
    refine bodyPost_ret (results_cell_tmp_row rfl _ _ (w.heap.size + 1) 95 #[.bool false, .slice none 0 0, .int .i64 0] (0, 0) _ rfl (store3 _ _ _ H3.out.2.1) Tryz.underlying95 rfl Tryz.info95) rfl ?_
    exact ⟨rfl, below_store3 H3.out.2.2.2 (by omega) _ _ _⟩
  · have hk2 : 65536 - ea < k0 := by omega
    clear hk
    go_wp2
    refine bodyPost_ret (results_cell_tmp_row rfl _ _ (w.heap.size + 1) 95 #[.bool false, .slice none 0 0, .int .i64 0] (0, 0) _ rfl (store3 _ _ _ H3.out.2.1) Tryz.underlying95 rfl Tryz.info95) rfl ?_
    exact ⟨rfl, below_store3 H3.out.2.2.2 (by omega) _ _ _⟩

set_option maxHeartbeats 4000000 in
set_option maxRecDepth 200000 in
theorem shift_3 (na : Bool) (ua : Option Addr) (un uc : Nat) (ea k0 : Int) (w : World) (x : Nat) (h1 : Is w (.slice ua un uc) x) (hx : dlen x ≤ 1000000) (hn : un ≤ 35184372088832) (hn0 : ((un : Int) == 0) = false) (he1 : -65536 ≤ ea) (he2 : ea ≤ 65536) (hk1 : ¬ k0 < -65536 - ea) (hk2 : ¬ 65536 - ea < k0) (k43 : ∀ W g, Below w.heap.size w W → W.heap[g]? = some (.cells #[.bool na, .slice ua un uc, .int .i64 ea] 95 (0, 0)) → Calls Tryz.prog 136 #[.slice (some ⟨g, 0, none⟩) 1 1] W fun r w' => r = .returned (.bool true) ∧ Below W.heap.size W w') :
    Calls Tryz.prog 105 #[.agg #[.bool na, .slice ua un uc, .int .i64 ea], .int .i64 k0] w fun r w' => ∃ v, r = .returned (.tuple #[.agg #[.bool na, v, .int .i64 (ea + k0)], .int .i64 0]) ∧ Own w' w.heap.size v x ∧ Below w.heap.size w w' := by
  obtain ⟨W, hW⟩ : ∃ W, W = (w.alloc (.cells #[.bool na, .slice ua un uc, .int .i64 ea] 95)).alloc (.cells #[.bool false, .slice none 0 0, .int .i64 0] 95) := ⟨_, rfl⟩
  have hBW : Below w.heap.size w W := by rw [hW]; exact ((Below.refl _ _).alloc (Nat.le_refl _) _).alloc (by simp) _
  have hbA : W.heap[w.heap.size]? = some (.cells #[.bool na, .slice ua un uc, .int .i64 ea] 95 (0, 0)) := by
    rw [hW, Below.heap_alloc _ _ _ (by simp)]; exact heap_alloc_new _ _
  have hbB : W.heap[w.heap.size + 1]? = some (.cells #[.bool false, .slice none 0 0, .int .i64 0] 95 (0, 0)) := by
    have := heap_alloc_new (w.alloc (.cells #[.bool na, .slice ua un uc, .int .i64 ea] 95)) (.cells #[.bool false, .slice none 0 0, .int .i64 0] 95)
    rw [hW]; simpa using this
  have hsz : W.heap.size = w.heap.size + 1 + 1 := by rw [hW]; simp
  have k1 := k43 (W.alloc (.cells #[.bool na, .slice ua un uc, .int .i64 ea] 95)) (w.heap.size + 1 + 1) (hBW.alloc hBW.size _) (by rw [← hsz]; exact heap_alloc_new _ _)
  have HX : Hid (Below w.heap.size w W ∧ W.heap.size = w.heap.size + 1 + 1 ∧ W.heap[w.heap.size]? = some (.cells #[.bool na, .slice ua un uc, .int .i64 ea] 95 (0, 0)) ∧ W.heap[w.heap.size + 1]? = some (.cells #[.bool false, .slice none 0 0, .int .i64 0] 95 (0, 0))) := ⟨hBW, hsz, hbA, hbB⟩
  have HI : Hid (Is w (.slice ua un uc) x ∧ dlen x ≤ 1000000) := ⟨h1, hx⟩
  clear h1 hx
  clear hBW hsz hbA hbB k43
  go_enter Tryz.func105, Tryz.ntmps105
  go_wp2_with fail
  rw [← hW]
  clear hW
  refine k1.mono ?_
  rintro r w1 ⟨rfl, hb1⟩
  have HB1 : Hid (Below W.heap.size W w1) := ((Below.refl W.heap.size W).alloc (Nat.le_refl _) _).trans (hb1.mono (by simp))
  have H3 : Hid (w1.heap[w.heap.size]? = some (.cells #[.bool na, .slice ua un uc, .int .i64 ea] 95 (0, 0)) ∧ w1.heap[w.heap.size + 1]? = some (.cells #[.bool false, .slice none 0 0, .int .i64 0] 95 (0, 0)) ∧ w.heap.size + 1 + 1 ≤ w1.heap.size ∧ Below w.heap.size w w1) := ⟨box_later HX.out.2.2.1 HB1.out (by have := HX.out.2.1; omega), box_later HX.out.2.2.2 HB1.out (by have := HX.out.2.1; omega), by have := HB1.out.size; have := HX.out.2.1; omega, HX.out.1.trans (HB1.out.mono HX.out.1.size)⟩
  clear k1 hb1
  obtain ⟨⟨a0, a1, a2⟩, -⟩ := box_cells H3.out.1
  obtain ⟨⟨x1, x2, x3⟩, x4, x5, x6⟩ := box_cells H3.out.2.1
  have HK : Hid (∀ w', Below (w.heap.size + 1) w1 w' → (w'.cell? ⟨w.heap.size, 0, none⟩ = some (.bool na) ∧ w'.cell? ⟨w.heap.size, 1, none⟩ = some (.slice ua un uc) ∧ w'.cell? ⟨w.heap.size, 2, none⟩ = some (.int .i64 ea))) := fun w' hb => (box_cells (box_later H3.out.1 hb (by omega))).1
  have kC : ∀ w4, Below w1.heap.size w1 w4 → Calls Tryz.prog 150 #[.slice ua un uc] w4 fun r w' => ∃ ao n cap, r = .returned (.slice ao n cap) ∧ Own w' w1.heap.size (.slice ao n cap) x ∧ Below w1.heap.size w1 w' := fun w4 hb =>
    (clone_ok ((HI.out.1.later H3.out.2.2.2).later hb) (by have := HI.out.2; omega)).mono fun r w' ⟨v, e1, o1, o2⟩ => by
      obtain ⟨ao, cap, rfl, -, -, -⟩ := o1.is
      exact ⟨_, _, _, e1, o1.mono hb.size, hb.trans (o2.mono hb.size)⟩
  have hBR : Below w1.heap.size w1 w1.drew := (Below.refl _ _).drew
  have hBR1 : Below (w.heap.size + 1) w1 w1.drew := (Below.refl _ _).drew
  have H1 : Hid (w.heap.size + 1 ≤ w1.heap.size) := (by have := H3.out.2.2.1; omega : w.heap.size + 1 ≤ w1.heap.size)
  have HZ : Hid (IntKind.i64.wrap (ea + k0) = ea + k0) := (by rw [IntKind.wrap_i64]; omega : IntKind.i64.wrap (ea + k0) = ea + k0)
  go_upto_region 8 with fail
  clear x1 x2 x3 x4 x5 x6
  go_region_held3 (fun w' => w'.cell? ⟨w.heap.size, 0, none⟩ = some (.bool na) ∧ w'.cell? ⟨w.heap.size, 1, none⟩ = some (.slice ua un uc) ∧ w'.cell? ⟨w.heap.size, 2, none⟩ = some (.int .i64 ea)) (first | (with_reducible assumption) | exact HK.out _ hBR1 | (refine HK.out _ (Below.mono ?_ H1.out); with_reducible assumption) | (refine HK.out _ (below_store3 (Below.mono hb5 H1.out) (Nat.le_refl _) _ _ _)) | go_keep)
    (first | (go_at_call 150; refine (kC _ (by first | (with_reducible assumption) | exact hBR)).mono ?_; rintro r w5 ⟨ao5, n5, cap5, rfl, ho5, hb5⟩; have hblk5 := box_later H3.out.2.1 hb5 (by have := H3.out.2.2.1; omega); obtain ⟨⟨x1, x2, x3⟩, x4, x5, x6⟩ := box_cells hblk5))
  all_goals (have HF : Hid (Below w1.heap.size w1 w5 ∧ Own w5 w1.heap.size (.slice ao5 n5 cap5) x ∧ w5.heap[w.heap.size + 1]? = some (.cells #[.bool false, .slice none 0 0, .int .i64 0] 95 (0, 0))) := ⟨hb5, ho5, hblk5⟩; clear ho5 hb5 hblk5 x1 x2 x3 x4 x5 x6 kC HK hBR hBR1 a0 a1 a2; (try rw [HZ.out]); go_wp2; refine bodyPost_ret (results_cell_tmp_row rfl _ _ (w.heap.size + 1) 95 #[.bool na, .slice ao5 n5 cap5, .int .i64 (ea + k0)] (0, 0) _ rfl (store3 _ _ _ HF.out.2.2) Tryz.underlying95 rfl Tryz.info95) rfl ?_; exact ⟨_, rfl, (own_store3 HF.out.2.1 (by have := H3.out.2.2.1; omega) _ _ _).mono (by have := H3.out.2.2.1; omega), below_store3 (H3.out.2.2.2.trans (HF.out.1.mono H3.out.2.2.2.size)) (by omega) _ _ _⟩)
end Go.Proofs.YtnalhfcpcpondaaGreatDoor
/- The document's and the program's Add, Sub, Mul, Shift, of all numbers. -/
namespace Go.Proofs.YtnalhfcpcpondaaGreatDoor
set_option linter.unusedVariables false
set_option linter.unusedSimpArgs false
open Go.RowKit

end Go.Proofs.YtnalhfcpcpondaaGreatDoor
/- The document's Sgn, Sign, Bits, Top, Neg, Abs. -/
namespace Go.Proofs.YtnalhfcpcpondaaGreatDoor
set_option linter.unusedVariables false
set_option linter.unusedSimpArgs false
open Go.RowKit

set_option maxHeartbeats 4000000 in
set_option maxRecDepth 200000 in
theorem rsgn {na : Bool} {ua : Option Addr} {un uc : Nat} {ea : Int} {w : World} (hn : un ≤ 35184372088832) :
    Calls Tryz.prog 89 #[.agg #[.bool na, .slice ua un uc, .int .i64 ea]] w fun r w' => r = .returned (.int .i64 (if un = 0 then 0 else if na then -1 else 1)) ∧ Below w.heap.size w w' := by
  obtain ⟨W, hW⟩ : ∃ W, W = w.alloc (.cells #[.bool na, .slice ua un uc, .int .i64 ea] 57) := ⟨_, rfl⟩
  have HB : Hid (Below w.heap.size w W) := (by rw [hW]; exact (Below.refl _ _).alloc (Nat.le_refl _) _ : Below w.heap.size w W)
  by_cases h0 : un = 0
  · subst h0
    rw [if_pos rfl]
    go_enter Tryz.func89, Tryz.ntmps89
    go_wp2
    go_ret
    exact ⟨rfl, hW ▸ HB.out⟩
  · have hn0 : ((un : Int) == 0) = false := by simp; omega
    rw [if_neg h0]
    clear h0
    cases na
    · go_enter Tryz.func89, Tryz.ntmps89
      go_wp2
      go_ret
      exact ⟨rfl, hW ▸ HB.out⟩
    · go_enter Tryz.func89, Tryz.ntmps89
      go_wp2
      go_ret
      exact ⟨rfl, hW ▸ HB.out⟩
end Go.Proofs.YtnalhfcpcpondaaGreatDoor
/- The document's Add and Sub of floats: the walks. -/
namespace Go.Proofs.YtnalhfcpcpondaaGreatDoor
set_option linter.unusedVariables false
set_option linter.unusedSimpArgs false
open Go.RowKit Go.Fl64

end Go.Proofs.YtnalhfcpcpondaaGreatDoor
/- DyadRing: the law's walk. -/
namespace Go.Proofs.YtnalhfcpcpondaaGreatDoor
set_option linter.unusedVariables false
set_option linter.unusedSimpArgs false
open Go.RowKit Go.Fl64

theorem ord_of {ops : Array Oper} (h : ((List.range ops.size).all fun i => match ops[i]? with | some o => o.after.all (fun e => decide (e.on < i)) | none => true) = true) (i : Nat) (o : Oper) (ho : ops[i]? = some o) : ∀ e ∈ o.after, e.on < i := by
  intro e he
  have hi : i < ops.size := (Array.getElem?_eq_some_iff.1 ho).1
  have h1 := List.all_eq_true.1 h i (List.mem_range.2 hi)
  simp only [ho] at h1
  exact of_decide_eq_true (Array.all_eq_true_iff_forall_mem.1 h1 e he)
/-- a number's box, and the number in it -/
def Bn (w : World) (g : Nat) (s : Bool) (ao : Option Addr) (n cap : Nat) (e : Int) (t : Bool × Nat × Int) : Prop :=
  w.heap[g]? = some (.cells #[.bool s, .slice ao n cap, .int .i64 e] 95 (0, 0)) ∧ PN w (.agg #[.bool s, .slice ao n cap, .int .i64 e]) t
theorem Bn.later {w w' : World} {g : Nat} {s : Bool} {ao : Option Addr} {n cap : Nat} {e : Int} {t : Bool × Nat × Int} (h : Bn w g s ao n cap e t) (hb : Below w.heap.size w w') : Bn w' g s ao n cap e t :=
  ⟨box_later h.1 hb (Array.getElem?_eq_some_iff.1 h.1).1, h.2.later hb⟩
theorem Bn.new {w : World} {s : Bool} {ao : Option Addr} {n cap : Nat} {e : Int} {t : Bool × Nat × Int} (h : PN w (.agg #[.bool s, .slice ao n cap, .int .i64 e]) t) : Bn (w.alloc (.cells #[.bool s, .slice ao n cap, .int .i64 e] 95)) w.heap.size s ao n cap e t :=
  ⟨heap_alloc_new _ _, h.later ((Below.refl _ _).alloc (Nat.le_refl _) _)⟩
end Go.Proofs.YtnalhfcpcpondaaGreatDoor
/- Several numbers given at once, without their signs: x, y := Abs(give(a)), Abs(give(b)). -/
namespace Go.Proofs.YtnalhfcpcpondaaGreatDoor
set_option linter.unusedVariables false
set_option linter.unusedSimpArgs false
open Go.RowKit

end Go.Proofs.YtnalhfcpcpondaaGreatDoor
/- Root, of numbers that may be and are not below nought. -/
namespace Go.Proofs.YtnalhfcpcpondaaGreatDoor
set_option linter.unusedVariables false
set_option linter.unusedSimpArgs false
open Go.RowKit

end Go.Proofs.YtnalhfcpcpondaaGreatDoor
/- DyadLeast: the law's walk. -/
namespace Go.Proofs.YtnalhfcpcpondaaGreatDoor
set_option linter.unusedVariables false
set_option linter.unusedSimpArgs false
open Go.RowKit Go.Fl64

end Go.Proofs.YtnalhfcpcpondaaGreatDoor
/- DyadSums: the law's walk. -/
namespace Go.Proofs.YtnalhfcpcpondaaGreatDoor
set_option linter.unusedVariables false
set_option linter.unusedSimpArgs false
open Go.RowKit

/-- a box, and what it holds -/
def BB (ty : TypeId) (P : World → Value → Prop) (w : World) (g : Nat) (s : Bool) (ao : Option Addr) (n cap : Nat) (e : Int) : Prop :=
  w.heap[g]? = some (.cells #[.bool s, .slice ao n cap, .int .i64 e] ty (0, 0)) ∧ P w (.agg #[.bool s, .slice ao n cap, .int .i64 e])
def Lasts (P : World → Value → Prop) : Prop := ∀ W W' A, Below W.heap.size W W' → P W A → P W' A
theorem BB.later {ty : TypeId} {P : World → Value → Prop} (hP : Lasts P) {w w' : World} {g : Nat} {s : Bool} {ao : Option Addr} {n cap : Nat} {e : Int} (h : BB ty P w g s ao n cap e) (hb : Below w.heap.size w w') : BB ty P w' g s ao n cap e :=
  ⟨box_later h.1 hb (Array.getElem?_eq_some_iff.1 h.1).1, hP _ _ _ hb h.2⟩
theorem BB.new {ty : TypeId} {P : World → Value → Prop} (hP : Lasts P) {w : World} {s : Bool} {ao : Option Addr} {n cap : Nat} {e : Int} (h : P w (.agg #[.bool s, .slice ao n cap, .int .i64 e])) : BB ty P (w.alloc (.cells #[.bool s, .slice ao n cap, .int .i64 e] ty)) w.heap.size s ao n cap e :=
  ⟨heap_alloc_new _ _, hP _ _ _ ((Below.refl _ _).alloc (Nat.le_refl _) _) h⟩
end Go.Proofs.YtnalhfcpcpondaaGreatDoor
/- The document's down, and whether nothing was lost. -/
namespace Go.Proofs.YtnalhfcpcpondaaGreatDoor
set_option linter.unusedVariables false
set_option linter.unusedSimpArgs false
open Go.RowKit

theorem ex_step {x i d : Nat} (hd : dg x i = d) : x % B ^ (i + 1) = 0 ↔ (x % B ^ i = 0 ∧ d = 0) := by
  have h := Nat.mod_pow_succ (x := x) (b := B) (k := i)
  have hp : 0 < B ^ i := Nat.pow_pos B_pos
  unfold dg at hd
  rw [h, hd]
  constructor
  · intro h1
    obtain ⟨h1, h2⟩ := Nat.add_eq_zero_iff.1 h1
    rcases Nat.mul_eq_zero.1 h2 with h3 | h3
    · omega
    · exact ⟨h1, h3⟩
  · rintro ⟨h1, h2⟩
    rw [h1, h2]; rfl
theorem ex_last {x k whole part d : Nat} (hw : k / 32 = whole) (hp : k % 32 = part) (hd : dg x whole = d) : x % 2 ^ k = 0 ↔ (x % B ^ whole = 0 ∧ d % 2 ^ part = 0) := by
  have hB : B ^ whole = 2 ^ (32 * whole) := by rw [show B = 2 ^ 32 by rfl, ← Nat.pow_mul]
  have hk : 2 ^ k = B ^ whole * 2 ^ part := by rw [hB, ← Nat.pow_add]; congr 1; omega
  have hpos : 0 < B ^ whole := Nat.pow_pos B_pos
  have hdd : d % 2 ^ part = x / B ^ whole % 2 ^ part := by
    rw [← hd]; unfold dg
    exact Nat.mod_mod_of_dvd _ (by rw [show B = 2 ^ 32 by rfl]; exact Nat.pow_dvd_pow 2 (by omega))
  rw [hk, Nat.mod_mul, hdd]
  constructor
  · intro h1
    obtain ⟨h1, h2⟩ := Nat.add_eq_zero_iff.1 h1
    rcases Nat.mul_eq_zero.1 h2 with h3 | h3
    · omega
    · exact ⟨h1, h3⟩
  · rintro ⟨h1, h2⟩
    rw [h1, h2]; rfl
theorem ex_past {x k n : Nat} (hn : dlen x ≤ n) (hk : n ≤ k / 32) : (x % B ^ n = 0 ↔ x % 2 ^ k = 0) ∧ x / 2 ^ k = 0 := by
  have h1 : x < B ^ n := Nat.lt_of_lt_of_le (lt_dlen x) (Nat.pow_le_pow_right B_pos hn)
  have h2 : B ^ n ≤ 2 ^ k := by rw [show B = 2 ^ 32 by rfl, ← Nat.pow_mul]; exact Nat.pow_le_pow_right (by omega) (by omega)
  rw [Nat.mod_eq_of_lt h1, Nat.mod_eq_of_lt (by omega)]
  exact ⟨Iff.rfl, Nat.div_eq_of_lt (by omega)⟩
theorem ex_bits {d part : Nat} (hd : d < B) (hp : part < 32) : (bits BinOp.and IntKind.u32 (d : Int) ((2 ^ part - 1) % 4294967296) == 0) = decide (d % 2 ^ part = 0) := by
  have h2 : 2 ^ part < 2 ^ 32 := Nat.pow_lt_pow_right (by omega) hp
  have hpos := Nat.two_pow_pos part
  have e1 : (((2 : Int) ^ part - 1) % 4294967296) = ((2 ^ part - 1 : Nat) : Int) := by
    have : ((2 : Int) ^ part) = ((2 ^ part : Nat) : Int) := by simp
    rw [this]; omega
  rw [e1, u32_and_nat d (2 ^ part - 1) (by unfold B at hd; omega) (by omega), Nat.and_two_pow_sub_one_eq_mod]
  generalize d % 2 ^ part = r
  by_cases h : r = 0
  · rw [h]; simp
  · rw [decide_eq_false h]
    have : ((r : Nat) : Int) ≠ 0 := by omega
    simpa using this
theorem ex_ret {a : Value} {b c : Bool} (h : b = c) : Ending.returned (Value.tuple #[a, .bool b]) = .returned (.tuple #[a, .bool c]) := by rw [h]
theorem ex_false {x k i d part : Nat} (he : false = true ↔ x % B ^ i = 0) (hx : x % 2 ^ k = 0 ↔ (x % B ^ i = 0 ∧ d % 2 ^ part = 0)) : false = decide (x % 2 ^ k = 0) := by
  rw [decide_eq_false]
  intro h
  exact absurd (he.2 (hx.1 h).1) (by decide)
theorem ex_true {x k i d part : Nat} (he : True ↔ x % B ^ i = 0) (hx : x % 2 ^ k = 0 ↔ (x % B ^ i = 0 ∧ d % 2 ^ part = 0)) (h0 : d = dg x i) (hd : d < B) (hp : part < 32) : (bits BinOp.and IntKind.u32 ((dg x i : Nat) : Int) ((2 ^ part - 1) % 4294967296) == 0) = decide (x % 2 ^ k = 0) := by
  rw [← h0, ex_bits hd hp]
  refine decide_eq_decide.2 ?_
  rw [hx]
  exact ⟨fun h => ⟨he.1 trivial, h⟩, fun h => h.2⟩
theorem ex_next {x i d : Nat} {bb : Bool} (h : bb = true ↔ x % B ^ i = 0) (hs : x % B ^ (i + 1) = 0 ↔ (x % B ^ i = 0 ∧ d = 0)) : ((bb && ((d : Int) == 0)) = true) ↔ x % B ^ (i + 1) = 0 := by
  rw [hs, ← h]; simp
set_option maxHeartbeats 2000000 in
set_option maxRecDepth 200000 in
theorem r64b_1 (b o cap m whole part x k : Nat) (w : World) (hm0 : 0 < m) (hm : m ≤ 17592186044416) (hk : k ≤ 1099511627776) (hcap : whole + m ≤ cap) (hwh : k / 32 = whole) (hpa : k % 32 = part)
    (hn : dlen x = whole + m) (hcell : ∀ i, i < whole + m → w.cell? ⟨b, o + i, none⟩ = some (.int .u32 (dg x i : Nat))) :
    Calls Tryz.prog 121 #[.slice (some ⟨b, o, none⟩) (whole + m : Nat) cap, .int .i64 k] w fun e w' => ∃ ao cap', e = .returned (.tuple #[.slice ao (dlen (x / 2 ^ k)) cap', .bool (decide (x % 2 ^ k = 0))]) ∧ At w' ao (dlen (x / 2 ^ k)) (x / 2 ^ k) ∧ dlen (x / 2 ^ k) ≤ cap' ∧ Below w.heap.size w w' := by
  have hq : (k : Int).tdiv 32 = ((k / 32 : Nat) : Int) := by rw [Int.tdiv_eq_ediv_of_nonneg (by omega)]; rfl
  have hr : (k : Int).tmod 32 = ((k % 32 : Nat) : Int) := by rw [Int.tmod_eq_emod_of_nonneg (by omega)]; rfl
  have hwb : whole ≤ 1099511627776 := by omega
  have hpb : part < 32 := by omega
  rw [hwh] at hq
  rw [hpa] at hr
  have HN : Hid (dlen x = whole + m) := hn
  have HW : Hid (k / 32 = whole) := hwh
  have HP : Hid (k % 32 = part) := hpa
  clear hn hwh hpa
  have hmi : (whole : Int) < ((whole + m : Nat) : Int) := by omega
  go_enter Tryz.func121, Tryz.ntmps121
  go_wp2
  go_loop [6, 7] (fun a v => ∃ (bb : Bool) (i : Nat), a = .bool bb ∧ v = .int .i64 (i : Int) ∧ i ≤ whole ∧ Hid (bb = true ↔ x % B ^ i = 0)) (fun _ v => whole - (intOf v).toNat)
  case atStart => exact ⟨true, 0, rfl, rfl, Nat.zero_le _, (by rw [Nat.pow_zero, Nat.mod_one]; simp : true = true ↔ x % B ^ 0 = 0)⟩
  case round =>
    obtain ⟨bb, i, rfl, rfl, hi, HE⟩ := hrel
    by_cases hiw : i < whole
    · have g1 := hcell i (by omega)
      have HS : Hid (x % B ^ (i + 1) = 0 ↔ (x % B ^ i = 0 ∧ dg x i = 0)) := ex_step rfl
      generalize dg x i = d at *
      have hii : (i : Int) < (whole : Int) := by omega
      clear hcell
      cases bb
      · go_wp2
        exact ⟨⟨_, i + 1, rfl, by simp, by omega, ex_next HE.out HS.out⟩, by simp [intOf]; omega⟩
      · go_wp2
        exact ⟨⟨_, i + 1, rfl, by simp, by omega, ex_next HE.out HS.out⟩, by simp [intOf]; omega⟩
    · obtain rfl : i = whole := by omega
      clear hiw hi
      have HX : Hid (x % 2 ^ k = 0 ↔ (x % B ^ i = 0 ∧ dg x i % 2 ^ part = 0)) := ex_last HW.out HP.out rfl
      have g0 := hcell i (by omega)
      have HDL : Hid (dg x i < B) := dg_lt _ _
      have HQ : Hid (dg x i = dg x i) := rfl
      obtain ⟨d0, hd0⟩ : ∃ d0, d0 = dg x i := ⟨_, rfl⟩
      rw [← hd0] at g0 HX HDL
      clear HQ
      have HD0 : Hid (d0 = dg x i) := hd0
      clear hd0
      have HC : Hid (∀ i_1 : Nat, i_1 < i + m → w.cell? { block := b, off := o + i_1 } = some (Value.int IntKind.u32 ↑(dg x i_1))) := hcell
      cases bb
      all_goals
        go_wp2_with fail
        clear hq hmi hr hcell g0
        go_loopw [9, 10] (fun v c wr => ∃ j : Nat, j ≤ m ∧ c = .int .i64 ((i : Int) + j) ∧ wr.ownsRow w.heap.size 104 1 v j (cells (x / 2 ^ k) j) ∧ Below w.heap.size w wr) (fun _ c _ => m - (intOf c - i).toNat)
        case atStart => exact ⟨0, Nat.zero_le _, by simp, World.ownsRow_nil .., Below.refl _ _⟩
        case round =>
          obtain ⟨j, hj, rfl, ho, hB⟩ := hrel
          have HO : Hid (wr.ownsRow w.heap.size 104 1 u9 j (cells (x / 2 ^ k) j)) := ho
          have HB : Hid (Below w.heap.size w wr) := hB
          have hbs : w.heap.size ≤ wr.heap.size := hB.size
          by_cases hjn : j + 1 < m
          · have g1 := (hB.cell (World.block_lt_of_cell? _ _ (HC.out (i + j) (by omega)))).trans (HC.out (i + j) (by omega))
            have g4 := (hB.cell (World.block_lt_of_cell? _ _ (HC.out (i + j + 1) (by omega)))).trans (HC.out (i + j + 1) (by omega))
            have hji : (j : Int) + 1 < (m : Int) := by omega
            generalize hd : dg x (i + j) = d at *
            generalize hd1 : dg x (i + j + 1) = d1 at *
            have HD : Hid (dg x (i + j) = d) := hd
            have HD1 : Hid (dg x (i + (j + 1)) = d1) := hd1
            have HL : Hid (d < B ∧ d1 < B) := ⟨hd ▸ dg_lt _ _, hd1 ▸ dg_lt _ _⟩
            clear hd hd1 hB
            obtain ⟨i0, hi0, hz0, hz1, hz2⟩ := info_parts Tryz.info104
            go_wp2_with (at_builtin; refine wpList_append_own _ rfl _ _ 55 rfl w.heap.size 104 i0 (.int .u32 0) 1 4 Tryz.underlying55 hi0 hz0 hz1 hz2 rfl (by decide) _ _ _ rfl (ho.alloc _) ⟨wr.heap.size, 0, none⟩ 1 1 [.int .u32 (bits BinOp.or IntKind.u64 (IntKind.u64.wrap (d : Int)) (IntKind.u64.wrap (IntKind.u64.wrap (d1 : Int) * 4294967296)) / 2 ^ part % 4294967296)] rfl rfl (cell_one_new _ _ _) (by intro u hu; simp at hu; subst hu; rfl) (by unfold maxLen; omega) (by omega) (by simp; omega) ?_)
            intro v' w4 hown4 hgrow _
            go_wp2
            exact r64_round (by rw [shr_word2 HL.out.1 HL.out.2, shr_digit HW.out HP.out, HD.out, HD1.out]) (by omega) HB.out HO.out hown4 hgrow
          · by_cases hjm : j < m
            · have g1 := (hB.cell (World.block_lt_of_cell? _ _ (HC.out (i + j) (by omega)))).trans (HC.out (i + j) (by omega))
              have hji : ¬ (j : Int) + 1 < (m : Int) := by omega
              have hji2 : (j : Int) < (m : Int) := by omega
              generalize hd : dg x (i + j) = d at *
              have HD : Hid (dg x (i + j) = d) := hd
              have HL : Hid (d < B) := hd ▸ dg_lt _ _
              have HZ : Hid (dg x (i + (j + 1)) = 0) := dg_past (by rw [HN.out]; omega)
              clear hd hB
              obtain ⟨i0, hi0, hz0, hz1, hz2⟩ := info_parts Tryz.info104
              go_wp2_with (at_builtin; refine wpList_append_own _ rfl _ _ 55 rfl w.heap.size 104 i0 (.int .u32 0) 1 4 Tryz.underlying55 hi0 hz0 hz1 hz2 rfl (by decide) _ _ _ rfl (ho.alloc _) ⟨wr.heap.size, 0, none⟩ 1 1 [.int .u32 (IntKind.u64.wrap (d : Int) / 2 ^ part % 4294967296)] rfl rfl (cell_one_new _ _ _) (by intro u hu; simp at hu; subst hu; rfl) (by unfold maxLen; omega) (by omega) (by simp; omega) ?_)
              intro v' w4 hown4 hgrow _
              go_wp2
              exact r64_round (by rw [shr_word1 HL.out, shr_digit HW.out HP.out, HD.out, HZ.out, Nat.zero_mul, Nat.add_zero]) (by omega) HB.out HO.out hown4 hgrow
            · obtain rfl : j = m := by omega
              have hL := shr_len (k := k) (m := j) (by rw [HW.out]; exact HN.out)
              obtain ⟨ao', cap', rfl, hc', hA⟩ := at_of_row ho
              have HA : Hid (At wr ao' (dlen (x / 2 ^ k)) (x / 2 ^ k) ∧ dlen (x / 2 ^ k) ≤ cap') := ⟨at_short hA hL, by omega⟩
              have k40 := r40 ao' j cap' (x / 2 ^ k) wr hL hc' (by omega) hA
              clear hB ho hA
              go_wp2_with (first | (go_at_call 158; refine k40.mono ?_; rintro e w' ⟨rfl, rfl⟩))
              refine bodyPost_ret (results_tmp2 rfl _ _ _) rfl ?_
              first | exact ⟨_, _, ex_ret (ex_false HE.out HX.out), HA.out.1, HA.out.2, HB.out⟩ | exact ⟨_, _, ex_ret (ex_true HE.out HX.out HD0.out HDL.out hpb), HA.out.1, HA.out.2, HB.out⟩
set_option maxHeartbeats 2000000 in
set_option maxRecDepth 200000 in
/-- all digits are lost -/
theorem r64n_1 (bo : Option Addr) (b o n cap whole x k : Nat) (w : World) (hn : n ≤ 17592186044416) (hk : k ≤ 1099511627776) (hcap : n ≤ cap) (hwh : k / 32 = whole) (hwn : n ≤ whole) (hbo : 0 < n → bo = some ⟨b, o, none⟩) (hd : dlen x = n)
    (hcell : ∀ i, i < n → w.cell? ⟨b, o + i, none⟩ = some (.int .u32 (dg x i : Nat))) :
    Calls Tryz.prog 121 #[.slice bo n cap, .int .i64 k] w fun e w' => e = .returned (.tuple #[.slice none 0 0, .bool (decide (x % 2 ^ k = 0))]) ∧ w' = w := by
  have hq : (k : Int).tdiv 32 = ((k / 32 : Nat) : Int) := by rw [Int.tdiv_eq_ediv_of_nonneg (by omega)]; rfl
  rw [hwh] at hq
  have HP : Hid ((x % B ^ n = 0 ↔ x % 2 ^ k = 0) ∧ x / 2 ^ k = 0) := ex_past (Nat.le_of_eq hd) (by omega)
  have hwb : whole ≤ 1099511627776 := by omega
  clear hwh hd
  go_enter Tryz.func121, Tryz.ntmps121
  go_wp2
  go_loop [6, 7] (fun a v => ∃ (bb : Bool) (i : Nat), a = .bool bb ∧ v = .int .i64 (i : Int) ∧ i ≤ n ∧ Hid (bb = true ↔ x % B ^ i = 0)) (fun _ v => n - (intOf v).toNat)
  case atStart => exact ⟨true, 0, rfl, rfl, Nat.zero_le _, (by rw [Nat.pow_zero, Nat.mod_one]; simp : true = true ↔ x % B ^ 0 = 0)⟩
  case round =>
    obtain ⟨bb, i, rfl, rfl, hi, HE⟩ := hrel
    by_cases hiw : i < n
    · obtain rfl := hbo (by omega)
      have g1 := hcell i (by omega)
      have HS : Hid (x % B ^ (i + 1) = 0 ↔ (x % B ^ i = 0 ∧ dg x i = 0)) := ex_step rfl
      generalize dg x i = d at *
      have hii : (i : Int) < (whole : Int) := by omega
      have hin : (i : Int) < (n : Int) := by omega
      clear hcell hbo
      cases bb
      · go_wp2
        exact ⟨⟨_, i + 1, rfl, by simp, by omega, ex_next HE.out HS.out⟩, by simp [intOf]; omega⟩
      · go_wp2
        exact ⟨⟨_, i + 1, rfl, by simp, by omega, ex_next HE.out HS.out⟩, by simp [intOf]; omega⟩
    · obtain rfl : i = n := by omega
      have hwi : (i : Int) ≤ (whole : Int) := by omega
      have hii : ¬ (i : Int) < (i : Int) := by omega
      obtain ⟨b2, hb2⟩ : ∃ b2 : Bool, b2 = bb := ⟨_, rfl⟩
      have HE2 : Hid (bb = decide (x % 2 ^ k = 0)) := (by
        have h1 := HE.out; have h2 := HP.out.1
        cases bb
        · rw [decide_eq_false]; intro h; exact absurd (h1.2 (h2.2 h)) (by decide)
        · rw [decide_eq_true (h2.1 (h1.1 rfl))] : bb = decide (x % 2 ^ k = 0))
      clear hcell hbo hiw hi HE hb2 b2
      go_wp2
      refine bodyPost_ret (results_tmp2 rfl _ _ _) rfl ?_
      exact ⟨ex_ret HE2.out, rfl⟩
/-- down: the number cut, and whether nothing was lost -/
theorem rdown {v : Value} {x : Nat} {w : World} (h : Ir w v x) (k : Nat) (hx : dlen x ≤ 17592186044416) (hk : k ≤ 1099511627776) :
    Calls Tryz.prog 121 #[v, .int .i64 k] w fun e w' => ∃ ao cap', e = .returned (.tuple #[.slice ao (dlen (x / 2 ^ k)) cap', .bool (decide (x % 2 ^ k = 0))]) ∧ At w' ao (dlen (x / 2 ^ k)) (x / 2 ^ k) ∧ dlen (x / 2 ^ k) ≤ cap' ∧ Below w.heap.size w w' := by
  obtain ⟨ao, cap, rfl, hc, b, o, hb, hcell⟩ := h
  by_cases hlt : k / 32 < dlen x
  · obtain rfl := hb (by omega)
    obtain ⟨m, hm⟩ : ∃ m, dlen x = k / 32 + m := ⟨dlen x - k / 32, by omega⟩
    rw [hm] at hcell hc ⊢
    exact r64b_1 b o cap m _ _ x k w (by omega) (by omega) hk hc rfl rfl hm hcell
  · have hp := ex_past (x := x) (k := k) (Nat.le_refl _) (by omega)
    refine (r64n_1 ao b o (dlen x) cap (k / 32) x k w hx hk hc rfl (by omega) hb rfl hcell).mono ?_
    rintro e w' ⟨rfl, rfl⟩
    rw [hp.2, dlen_zero]
    exact ⟨none, 0, rfl, ⟨0, 0, fun h => by omega, fun i hi => by omega⟩, Nat.le_refl _, Below.refl _ _⟩
end Go.Proofs.YtnalhfcpcpondaaGreatDoor
/- The document's long division: how its guesses come to the right digit. -/
namespace Go.Proofs.YtnalhfcpcpondaaGreatDoor
set_option linter.unusedVariables false
set_option linter.unusedSimpArgs false

/-- a guess too high -/
theorem kn_low {R V v1 v2 t r3 d r n : Nat} (hn : 2 ≤ n) (hV : (v1 * B + v2) * B ^ (n - 2) ≤ V) (hR : R < (t * B + r3 + 1) * B ^ (n - 2)) (ht : d * v1 + r = t) (h : r * B + r3 < d * v2) : R < d * V := by
  have h1 : (t * B + r3 + 1) ≤ d * (v1 * B + v2) := by
    have e1 : d * (v1 * B + v2) = (d * v1) * B + d * v2 := by grind
    have e2 : t * B = d * v1 * B + r * B := by rw [← ht, Nat.add_mul]
    omega
  calc R < (t * B + r3 + 1) * B ^ (n - 2) := hR
    _ ≤ d * (v1 * B + v2) * B ^ (n - 2) := Nat.mul_le_mul_right _ h1
    _ = d * ((v1 * B + v2) * B ^ (n - 2)) := Nat.mul_assoc _ _ _
    _ ≤ d * V := Nat.mul_le_mul_left _ hV
/-- a guess that passed is at most one too high -/
theorem kn_high {R V v1 v2 t r3 d r n : Nat} (hn : 2 ≤ n) (hV : V < (v1 * B + v2 + 1) * B ^ (n - 2)) (hR : (t * B + r3) * B ^ (n - 2) ≤ R) (ht : d * v1 + r = t) (hd : d ≤ B) (hv : 1 ≤ v1) (h : d * v2 ≤ r * B + r3) : (d - 1) * V ≤ R := by
  rcases Nat.eq_zero_or_pos d with h0 | h0
  · subst h0; simp
  obtain ⟨c, rfl⟩ : ∃ c, d = c + 1 := ⟨d - 1, by omega⟩
  rw [Nat.add_sub_cancel]
  have hb : c ≤ v1 * B + v2 := by
    have : B ≤ v1 * B := Nat.le_mul_of_pos_left _ hv
    omega
  have h1 : c * (v1 * B + v2 + 1) ≤ t * B + r3 := by
    have e1 : (c + 1) * (v1 * B + v2) = ((c + 1) * v1) * B + (c + 1) * v2 := by grind
    have e2 : t * B = (c + 1) * v1 * B + r * B := by rw [← ht, Nat.add_mul]
    have e3 : (c + 1) * (v1 * B + v2) = c * (v1 * B + v2) + (v1 * B + v2) := by grind
    have e4 : c * (v1 * B + v2 + 1) = c * (v1 * B + v2) + c := by grind
    omega
  calc c * V ≤ c * ((v1 * B + v2 + 1) * B ^ (n - 2)) := Nat.mul_le_mul_left _ (Nat.le_of_lt hV)
    _ = c * (v1 * B + v2 + 1) * B ^ (n - 2) := (Nat.mul_assoc _ _ _).symm
    _ ≤ (t * B + r3) * B ^ (n - 2) := Nat.mul_le_mul_right _ h1
    _ ≤ R := hR
/-- the state of the guess: not below the digit, and the first one no more than two above the base -/
structure Kn (R V v1 t d r : Nat) : Prop where
  sum : d * v1 + r = t
  ge : R < (d + 1) * V
  le : d ≤ B + 1
/-- the first guess -/
theorem kn_start {R V v1 v2 t n : Nat} (hn : 1 ≤ n) (hv : 1 ≤ v1) (hh : B ≤ 2 * v1) (hv2 : v2 < B) (hV1 : v1 * B ^ (n - 1) ≤ V) (hR : R < (t + 1) * B ^ (n - 1)) (ht : t ≤ v1 * B + v2) : Kn R V v1 t (t / v1) (t % v1) := by
  have h0 := Nat.div_add_mod t v1
  have h1 := Nat.mod_lt t (show 0 < v1 by omega)
  refine ⟨by rw [Nat.mul_comm]; exact h0, ?_, ?_⟩
  · have h2 : t + 1 ≤ (t / v1 + 1) * v1 := by rw [Nat.add_mul, Nat.one_mul, Nat.mul_comm]; omega
    calc R < (t + 1) * B ^ (n - 1) := hR
      _ ≤ (t / v1 + 1) * v1 * B ^ (n - 1) := Nat.mul_le_mul_right _ h2
      _ = (t / v1 + 1) * (v1 * B ^ (n - 1)) := Nat.mul_assoc _ _ _
      _ ≤ (t / v1 + 1) * V := Nat.mul_le_mul_left _ hV1
  · refine Nat.le_of_lt_succ ((Nat.div_lt_iff_lt_mul (by omega)).2 ?_)
    have : (B + 1).succ * v1 = v1 * B + 2 * v1 := by rw [Nat.succ_eq_add_one]; grind
    rw [this]; omega
/-- one less -/
theorem Kn.less {R V v1 v2 t d r r3 n : Nat} (h : Kn R V v1 t d r) (hn : 2 ≤ n) (hV : (v1 * B + v2) * B ^ (n - 2) ≤ V) (hR : R < (t * B + r3 + 1) * B ^ (n - 2)) (hq : R < V * B) (hc : B ≤ d ∨ r * B + r3 < d * v2) : Kn R V v1 t (d - 1) (r + v1) ∧ 1 ≤ d := by
  have hd : 1 ≤ d := by
    rcases hc with h | h
    · have := B_pos; omega
    · rcases Nat.eq_zero_or_pos d with h0 | h0
      · rw [h0] at h; omega
      · exact h0
  refine ⟨⟨?_, ?_, ?_⟩, hd⟩
  · have := h.sum
    have e : d * v1 = (d - 1) * v1 + v1 := by
      obtain ⟨c, rfl⟩ : ∃ c, d = c + 1 := ⟨d - 1, by omega⟩
      rw [Nat.add_sub_cancel, Nat.add_mul, Nat.one_mul]
    omega
  · rw [show d - 1 + 1 = d by omega]
    rcases hc with h1 | h1
    · exact Nat.lt_of_lt_of_le hq (by rw [Nat.mul_comm]; exact Nat.mul_le_mul_right _ h1)
    · exact kn_low hn hV hR h.sum h1
  · have := h.le; omega
/-- the guess is done: the digit, or one more -/
theorem Kn.done {R V v1 v2 t d r r3 n : Nat} (h : Kn R V v1 t d r) (hn : 2 ≤ n) (hv : 1 ≤ v1) (hv2 : v2 < B) (hV0 : 0 < V) (hV : V < (v1 * B + v2 + 1) * B ^ (n - 2)) (hR : (t * B + r3) * B ^ (n - 2) ≤ R) (hd : d < B) (hc : d * v2 ≤ r * B + r3 ∨ B ≤ r) : R / V ≤ d ∧ d ≤ R / V + 1 := by
  have hc' : d * v2 ≤ r * B + r3 := by
    rcases hc with h | h
    · exact h
    · have h1 : d * v2 ≤ B * B := Nat.mul_le_mul (Nat.le_of_lt hd) (Nat.le_of_lt hv2)
      have h2 : B * B ≤ r * B := Nat.mul_le_mul_right _ h
      omega
  constructor
  · exact Nat.le_of_lt_succ ((Nat.div_lt_iff_lt_mul hV0).2 h.ge)
  · have h1 := kn_high hn hV hR h.sum (Nat.le_of_lt hd) hv hc'
    have := (Nat.le_div_iff_mul_le hV0).2 h1
    omega
end Go.Proofs.YtnalhfcpcpondaaGreatDoor
/- The document's division by one digit. -/
namespace Go.Proofs.YtnalhfcpcpondaaGreatDoor
set_option linter.unusedVariables false
set_option linter.unusedSimpArgs false
open Go.RowKit

end Go.Proofs.YtnalhfcpcpondaaGreatDoor
/- The document's long division: two rows that are written, and the window. -/
namespace Go.Proofs.YtnalhfcpcpondaaGreatDoor
set_option linter.unusedVariables false
set_option linter.unusedSimpArgs false
open Go.RowKit

/-- of w to wr only blocks g and h have been written: rows of L and M digits -/
structure Two (g h : Nat) (w wr : World) (L M : Nat) (f q : Nat → Nat) : Prop where
  os : wr.os = w.os
  tape : wr.tape = w.tape
  output : wr.output = w.output
  size : wr.heap.size = w.heap.size
  block : ∀ k, k ≠ g → k ≠ h → wr.heap[k]? = w.heap[k]?
  ru : RowGe wr g L (fun i => .int .u32 (f i : Nat))
  rq : RowGe wr h M (fun i => .int .u32 (q i : Nat))
theorem Two.congr {g h : Nat} {w wr : World} {L M : Nat} {f q f' q' : Nat → Nat} (t : Two g h w wr L M f q) (e : ∀ i, i < L → f i = f' i) (e' : ∀ i, i < M → q i = q' i) : Two g h w wr L M f' q' :=
  ⟨t.os, t.tape, t.output, t.size, t.block, t.ru.congr (fun i hi => by rw [e i hi]), t.rq.congr (fun i hi => by rw [e' i hi])⟩
theorem Two.drewN {g h : Nat} {w wr : World} {L M : Nat} {f q : Nat → Nat} (t : Two g h w wr L M f q) (n : Nat) : Two g h w (wr.drewN n) L M f q :=
  ⟨t.os, t.tape, t.output, t.size, t.block, t.ru, t.rq⟩
theorem Two.old {g h : Nat} {w wr : World} {L M : Nat} {f q : Nat → Nat} (t : Two g h w wr L M f q) {p : Addr} {u : Value} (h1 : p.block ≠ g) (h2 : p.block ≠ h) (hc : w.cell? p = some u) : wr.cell? p = some u := (World.cell?_of_block (w := w) (t.block p.block h1 h2)).trans hc
theorem Two.below {g h b : Nat} {w wr : World} {L M : Nat} {f q : Nat → Nat} (t : Two g h w wr L M f q) (h1 : b ≤ g) (h2 : b ≤ h) : Below b w wr := ⟨t.os, t.tape, t.output, by rw [t.size]; exact Nat.le_refl _, fun k hk => t.block k (by omega) (by omega)⟩
/-- what the guess has to know -/
structure Gs (R V v1 v2 t r3 n : Nat) : Prop where
  n2 : 2 ≤ n
  v1p : 1 ≤ v1
  v1h : B ≤ 2 * v1
  v1B : v1 < B
  v2B : v2 < B
  r3B : r3 < B
  V0 : 0 < V
  Vlo : (v1 * B + v2) * B ^ (n - 2) ≤ V
  Vhi : V < (v1 * B + v2 + 1) * B ^ (n - 2)
  Rlo : (t * B + r3) * B ^ (n - 2) ≤ R
  Rhi : R < (t * B + r3 + 1) * B ^ (n - 2)
  V1 : v1 * B ^ (n - 1) ≤ V
  R1 : R < (t + 1) * B ^ (n - 1)
  tle : t ≤ v1 * B + v2
  RV : R < V * B
  tB : t < B * B
theorem Gs.start {R V v1 v2 t r3 n : Nat} (h : Gs R V v1 v2 t r3 n) : Kn R V v1 t (t / v1) (t % v1) := kn_start (by have := h.n2; omega) h.v1p h.v1h h.v2B h.V1 h.R1 h.tle
theorem Gs.less {R V v1 v2 t r3 n d r : Nat} (h : Gs R V v1 v2 t r3 n) (k : Kn R V v1 t d r) (hc : B ≤ d ∨ r * B + r3 < d * v2) : Kn R V v1 t (d - 1) (r + v1) ∧ 1 ≤ d := k.less h.n2 h.Vlo h.Rhi h.RV hc
theorem Gs.done {R V v1 v2 t r3 n d r : Nat} (h : Gs R V v1 v2 t r3 n) (k : Kn R V v1 t d r) (hd : d < B) (hc : d * v2 ≤ r * B + r3 ∨ B ≤ r) : R / V ≤ d ∧ d ≤ R / V + 1 := k.done h.n2 h.v1p h.v2B h.V0 h.Vhi h.Rlo hd hc
end Go.Proofs.YtnalhfcpcpondaaGreatDoor
/- The document's long division: the words of its loops, and what the rows come to. -/
namespace Go.Proofs.YtnalhfcpcpondaaGreatDoor
set_option linter.unusedVariables false
set_option linter.unusedSimpArgs false
open Go.RowKit

end Go.Proofs.YtnalhfcpcpondaaGreatDoor
/- The document's long division: the way to the loop. -/
namespace Go.Proofs.YtnalhfcpcpondaaGreatDoor
set_option linter.unusedVariables false
set_option linter.unusedSimpArgs false
open Go.RowKit

end Go.Proofs.YtnalhfcpcpondaaGreatDoor
/- The document's long division: how far the numbers are shifted. -/
namespace Go.Proofs.YtnalhfcpcpondaaGreatDoor
set_option linter.unusedVariables false
set_option linter.unusedSimpArgs false

end Go.Proofs.YtnalhfcpcpondaaGreatDoor
/- The document's division: the short ways, and all of it. -/
namespace Go.Proofs.YtnalhfcpcpondaaGreatDoor
set_option linter.unusedVariables false
set_option linter.unusedSimpArgs false
open Go.RowKit

end Go.Proofs.YtnalhfcpcpondaaGreatDoor
/- The document's square root of a whole number. -/
namespace Go.Proofs.YtnalhfcpcpondaaGreatDoor
set_option linter.unusedVariables false
set_option linter.unusedSimpArgs false
open Go.RowKit

theorem cmp_eq {x y : Nat} : (cmpI (x : Int) (y : Int) == 0) = decide (x = y) := by
  unfold cmpI
  by_cases h : x = y
  · subst h; simp
  · rw [decide_eq_false h]
    by_cases h2 : (x : Int) < (y : Int)
    · rw [if_pos h2]; rfl
    · rw [if_neg h2, if_pos (by omega)]; rfl
end Go.Proofs.YtnalhfcpcpondaaGreatDoor
/- The document's one and Less. -/
namespace Go.Proofs.YtnalhfcpcpondaaGreatDoor
set_option linter.unusedVariables false
set_option linter.unusedSimpArgs false
open Go.RowKit

set_option maxHeartbeats 4000000 in
set_option maxRecDepth 200000 in
theorem rlessN_1 (na nb : Bool) (ua va : Option Addr) (un uc vn vc : Nat) (ea eb : Int) (nc : Bool) (xa : Option Addr) (xn xc : Nat) (ec : Int) (s : Bool) (z : Nat) (e : Int) (w : World) (kM : ∀ W, Calls Tryz.prog 88 #[.agg #[.bool nb, .slice va vn vc, .int .i64 eb]] W fun r w' => r = .returned (.agg #[.bool nc, .slice xa xn xc, .int .i64 ec]) ∧ Below W.heap.size W w')
    (kA : ∀ W, Below w.heap.size w W → Calls Tryz.prog 75 #[.agg #[.bool na, .slice ua un uc, .int .i64 ea], .agg #[.bool nc, .slice xa xn xc, .int .i64 ec]] W fun r w' => ∃ a, r = .returned a ∧ NC w' W.heap.size a s z e ∧ Below W.heap.size W w') :
    Calls Tryz.prog 126 #[.agg #[.bool na, .slice ua un uc, .int .i64 ea], .agg #[.bool nb, .slice va vn vc, .int .i64 eb]] w fun r w' => ∃ a, r = .returned a ∧ NC w' w.heap.size a s z e ∧ Below w.heap.size w w' := by
  have HKM : Hid (∀ W, Calls Tryz.prog 88 #[.agg #[.bool nb, .slice va vn vc, .int .i64 eb]] W fun r w' => r = .returned (.agg #[.bool nc, .slice xa xn xc, .int .i64 ec]) ∧ Below W.heap.size W w') := kM
  have HKA : Hid (∀ W, Below w.heap.size w W → Calls Tryz.prog 75 #[.agg #[.bool na, .slice ua un uc, .int .i64 ea], .agg #[.bool nc, .slice xa xn xc, .int .i64 ec]] W fun r w' => ∃ a, r = .returned a ∧ NC w' W.heap.size a s z e ∧ Below W.heap.size W w') := kA
  clear kM kA
  obtain ⟨W, hW⟩ : ∃ W, W = ((w.alloc (.cells #[.bool na, .slice ua un uc, .int .i64 ea] 57)).alloc (.cells #[.bool nb, .slice va vn vc, .int .i64 eb] 57)).alloc (.cells #[.bool false, .slice none 0 0, .int .i64 0] 57) := ⟨_, rfl⟩
  obtain ⟨hA, hBb, hC, hsz, hBW⟩ := boxes3 _ _ _ hW
  have HH : Hid ((W.heap[w.heap.size]? = some (.cells #[.bool na, .slice ua un uc, .int .i64 ea] 57 (0, 0)) ∧ W.heap[w.heap.size + 1]? = some (.cells #[.bool nb, .slice va vn vc, .int .i64 eb] 57 (0, 0)) ∧ W.heap[w.heap.size + 1 + 1]? = some (.cells #[.bool false, .slice none 0 0, .int .i64 0] 57 (0, 0))) ∧ W.heap.size = w.heap.size + 1 + 1 + 1 ∧ Below w.heap.size w W) := ⟨⟨hA, hBb, hC⟩, hsz, hBW⟩
  obtain ⟨⟨a0, a1, a2⟩, -⟩ := box_cells29 hA
  obtain ⟨⟨b0, b1, b2⟩, -⟩ := box_cells29 hBb
  clear hA hBb hC hsz hBW
  have kM : ∀ w4, Below W.heap.size W w4 → Calls Tryz.prog 88 #[.agg #[.bool nb, .slice va vn vc, .int .i64 eb]] w4 fun r w' => r = .returned (.agg #[.bool nc, .slice xa xn xc, .int .i64 ec]) ∧ Below W.heap.size W w' := fun w4 hb => (HKM.out w4).mono fun r w' ⟨e1, o2⟩ => ⟨e1, hb.trans (o2.mono hb.size)⟩
  have kA : ∀ w5, Below W.heap.size W w5 → Calls Tryz.prog 75 #[.agg #[.bool na, .slice ua un uc, .int .i64 ea], .agg #[.bool nc, .slice xa xn xc, .int .i64 ec]] w5 fun r w' => ∃ s' ao n cap ex, r = .returned (.agg #[.bool s', .slice ao n cap, .int .i64 ex]) ∧ Hid (NC w' W.heap.size (.agg #[.bool s', .slice ao n cap, .int .i64 ex]) s z e) ∧ Below W.heap.size W w' ∧ Hid (w'.heap[w.heap.size + 1 + 1]? = some (.cells #[.bool false, .slice none 0 0, .int .i64 0] 57 (0, 0))) ∧
      (w'.cell? ⟨w.heap.size + 1 + 1, 0, none⟩ = some (.bool false) ∧ w'.cell? ⟨w.heap.size + 1 + 1, 1, none⟩ = some (.slice none 0 0) ∧ w'.cell? ⟨w.heap.size + 1 + 1, 2, none⟩ = some (.int .i64 0)) ∧ (w'.frozen? ⟨w.heap.size + 1 + 1, 0, none⟩ = false ∧ w'.frozen? ⟨w.heap.size + 1 + 1, 1, none⟩ = false ∧ w'.frozen? ⟨w.heap.size + 1 + 1, 2, none⟩ = false) := by
    intro w5 hb
    refine (HKA.out w5 (HH.out.2.2.trans (hb.mono HH.out.2.2.size))).mono ?_
    rintro r w6 ⟨A, rfl, hN, hb6⟩
    obtain ⟨s', ao, n, cap, ex, rfl⟩ := hN.shape
    have hb16 : Below W.heap.size W w6 := hb.trans (hb6.mono hb.size)
    have hblk := box_later HH.out.1.2.2 hb16 (by have := HH.out.2.1; omega)
    obtain ⟨f1, f2⟩ := box_cells29 hblk
    exact ⟨s', ao, n, cap, ex, rfl, hN.mono hb.size, hb16, hblk, f1, f2⟩
  have HK : Hid (∀ w', Below W.heap.size W w' → ((w'.cell? ⟨w.heap.size, 0, none⟩ = some (.bool na) ∧ w'.cell? ⟨w.heap.size, 1, none⟩ = some (.slice ua un uc) ∧ w'.cell? ⟨w.heap.size, 2, none⟩ = some (.int .i64 ea)) ∧ (w'.cell? ⟨w.heap.size + 1, 0, none⟩ = some (.bool nb) ∧ w'.cell? ⟨w.heap.size + 1, 1, none⟩ = some (.slice va vn vc) ∧ w'.cell? ⟨w.heap.size + 1, 2, none⟩ = some (.int .i64 eb)))) := fun w' hb => ⟨(box_cells29 (box_later HH.out.1.1 hb (by have := HH.out.2.1; omega))).1, (box_cells29 (box_later HH.out.1.2.1 hb (by have := HH.out.2.1; omega))).1⟩
  have HK2 : Hid (∀ w', Below (w.heap.size + 1 + 1) W w' → ((w'.cell? ⟨w.heap.size, 0, none⟩ = some (.bool na) ∧ w'.cell? ⟨w.heap.size, 1, none⟩ = some (.slice ua un uc) ∧ w'.cell? ⟨w.heap.size, 2, none⟩ = some (.int .i64 ea)) ∧ (w'.cell? ⟨w.heap.size + 1, 0, none⟩ = some (.bool nb) ∧ w'.cell? ⟨w.heap.size + 1, 1, none⟩ = some (.slice va vn vc) ∧ w'.cell? ⟨w.heap.size + 1, 2, none⟩ = some (.int .i64 eb)))) := fun w' hb => ⟨(box_cells29 (box_later HH.out.1.1 hb (by omega))).1, (box_cells29 (box_later HH.out.1.2.1 hb (by omega))).1⟩
  have HS2 : Hid (w.heap.size + 1 + 1 ≤ W.heap.size) := (by have := HH.out.2.1; omega : w.heap.size + 1 + 1 ≤ W.heap.size)
  have hBR : Below W.heap.size W W.drew := (Below.refl _ _).drew
  go_enter Tryz.func126, Tryz.ntmps126
  go_upto_region 1 with fail
  rw [← hW]
  clear hW
  go_region_held3 (fun w' => ((w'.cell? ⟨w.heap.size, 0, none⟩ = some (.bool na) ∧ w'.cell? ⟨w.heap.size, 1, none⟩ = some (.slice ua un uc) ∧ w'.cell? ⟨w.heap.size, 2, none⟩ = some (.int .i64 ea)) ∧ (w'.cell? ⟨w.heap.size + 1, 0, none⟩ = some (.bool nb) ∧ w'.cell? ⟨w.heap.size + 1, 1, none⟩ = some (.slice va vn vc) ∧ w'.cell? ⟨w.heap.size + 1, 2, none⟩ = some (.int .i64 eb)))) (first | (with_reducible assumption) | exact ⟨⟨a0, a1, a2⟩, b0, b1, b2⟩ | (refine HK.out _ ?_; with_reducible assumption) | (refine HK2.out _ (below_store3 (Below.mono hb6 HS2.out) (Nat.le_refl _) _ _ _)) | go_keep)
    (first | (go_at_call 88; refine (kM _ (by first | (with_reducible assumption) | exact hBR)).mono ?_; rintro r w5 ⟨rfl, hb5⟩) | (go_at_call 75; refine (kA _ (by first | (with_reducible assumption) | exact hBR)).mono ?_; rintro r w6 ⟨s6, ao6, n6, cap6, ex6, rfl, hN6, hb6, hblk6, ⟨x1, x2, x3⟩, x4, x5, x6⟩))
  all_goals (have HF : Hid (Below W.heap.size W w6) := hb6; clear hb5 hb6 kM kA x1 x2 x3 x4 x5 x6 a0 a1 a2 b0 b1 b2 HK HK2 hBR; go_wp2; refine bodyPost_ret (results_cell_row rfl _ _ (w.heap.size + 1 + 1) 57 #[.bool s6, .slice ao6 n6 cap6, .int .i64 ex6] (0, 0) _ rfl (store3_29 _ _ _ hblk6.out) Tryz.underlying57 rfl Tryz.info57) rfl ?_; exact ⟨_, rfl, (hN6.out.store (by have := HH.out.2.1; omega) _ _ _).mono HH.out.2.2.size, below_store3 (HH.out.2.2.trans (HF.out.mono HH.out.2.2.size)) (by omega) _ _ _⟩)
end Go.Proofs.YtnalhfcpcpondaaGreatDoor
/- The document's Over: the quotient, cut to a place. -/
namespace Go.Proofs.YtnalhfcpcpondaaGreatDoor
set_option linter.unusedVariables false
set_option linter.unusedSimpArgs false
open Go.RowKit

end Go.Proofs.YtnalhfcpcpondaaGreatDoor
/- The document's Over, joined. -/
namespace Go.Proofs.YtnalhfcpcpondaaGreatDoor
set_option linter.unusedVariables false
set_option linter.unusedSimpArgs false
open Go.RowKit

end Go.Proofs.YtnalhfcpcpondaaGreatDoor
/- The document's RootOf: the root, cut to a place. -/
namespace Go.Proofs.YtnalhfcpcpondaaGreatDoor
set_option linter.unusedVariables false
set_option linter.unusedSimpArgs false
open Go.RowKit

/-- nought can be handed on -/
theorem NC.nought (w : World) (base : Nat) (s : Bool) (e : Int) : NC w base (.agg #[.bool false, .slice none 0 0, .int .i64 0]) s 0 e := by
  refine ⟨none, 0, ?_, ?_, fun ad e => by cases e⟩
  · unfold cn; rw [if_pos rfl, dlen_zero]
  · unfold cn; rw [if_pos rfl]
    exact ⟨fun _ => .inr ⟨rfl, rfl⟩, ⟨0, 0, fun h => by rw [dlen_zero] at h; omega, fun i hi => by rw [dlen_zero] at hi; omega⟩, by rw [dlen_zero]; exact Nat.le_refl _, by rw [dlen_zero]; omega⟩
end Go.Proofs.YtnalhfcpcpondaaGreatDoor
/- The document's Cut: a number, cut to a place. -/
namespace Go.Proofs.YtnalhfcpcpondaaGreatDoor
set_option linter.unusedVariables false
set_option linter.unusedSimpArgs false
open Go.RowKit

end Go.Proofs.YtnalhfcpcpondaaGreatDoor
/- The document's Quo. -/
namespace Go.Proofs.YtnalhfcpcpondaaGreatDoor
set_option linter.unusedVariables false
set_option linter.unusedSimpArgs false
open Go.RowKit

end Go.Proofs.YtnalhfcpcpondaaGreatDoor
/- The document's Quo, joined. -/
namespace Go.Proofs.YtnalhfcpcpondaaGreatDoor
set_option linter.unusedVariables false
set_option linter.unusedSimpArgs false
open Go.RowKit

end Go.Proofs.YtnalhfcpcpondaaGreatDoor
/- The document's Floor. -/
namespace Go.Proofs.YtnalhfcpcpondaaGreatDoor
set_option linter.unusedVariables false
set_option linter.unusedSimpArgs false
open Go.RowKit

end Go.Proofs.YtnalhfcpcpondaaGreatDoor
/- The document's Floor, joined. -/
namespace Go.Proofs.YtnalhfcpcpondaaGreatDoor
set_option linter.unusedVariables false
set_option linter.unusedSimpArgs false
open Go.RowKit

end Go.Proofs.YtnalhfcpcpondaaGreatDoor
/- The program's Floor. -/
namespace Go.Proofs.YtnalhfcpcpondaaGreatDoor
set_option linter.unusedVariables false
set_option linter.unusedSimpArgs false
open Go.RowKit

end Go.Proofs.YtnalhfcpcpondaaGreatDoor
/- The document's Root. -/
namespace Go.Proofs.YtnalhfcpcpondaaGreatDoor
set_option linter.unusedVariables false
set_option linter.unusedSimpArgs false
open Go.RowKit

end Go.Proofs.YtnalhfcpcpondaaGreatDoor
/- The document's Root, joined. -/
namespace Go.Proofs.YtnalhfcpcpondaaGreatDoor
set_option linter.unusedVariables false
set_option linter.unusedSimpArgs false
open Go.RowKit

end Go.Proofs.YtnalhfcpcpondaaGreatDoor
/- The program's Floor, Quo, Root, refused. -/
namespace Go.Proofs.YtnalhfcpcpondaaGreatDoor
set_option linter.unusedVariables false
set_option linter.unusedSimpArgs false
open Go.RowKit

end Go.Proofs.YtnalhfcpcpondaaGreatDoor
/- DyadCuts: the law's walk. -/
namespace Go.Proofs.YtnalhfcpcpondaaGreatDoor
set_option linter.unusedVariables false
set_option linter.unusedSimpArgs false
open Go.RowKit

end Go.Proofs.YtnalhfcpcpondaaGreatDoor
/- DyadSums. -/
namespace Go.Proofs.YtnalhfcpcpondaaGreatDoor
set_option linter.unusedVariables false
set_option linter.unusedSimpArgs false
open Go.RowKit

/-- digits that give laid -/
def PI (s : Bool) (n z : Nat) (e : Int) (W : World) (A : Value) : Prop := ∃ v b, A = .agg #[.bool s, v, .int .i64 e] ∧ Dn W b v n z
theorem Ans.len {V : Bool} {t : Bool × Nat × Int} (h : V = true → dlen t.2.1 ≤ 35184372088832) : dlen (Ans V t).2.1 ≤ 35184372088832 := by
  unfold Ans
  cases V
  · rw [if_neg (by simp)]; show dlen 0 ≤ _; rw [dlen_zero]; omega
  · rw [if_pos rfl]; exact h rfl
end Go.Proofs.YtnalhfcpcpondaaGreatDoor
/- DyadCuts. -/
namespace Go.Proofs.YtnalhfcpcpondaaGreatDoor
set_option linter.unusedVariables false
set_option linter.unusedSimpArgs false
open Go.RowKit

end Go.Proofs.YtnalhfcpcpondaaGreatDoor
/- DyadOrder: the law's walk. -/
namespace Go.Proofs.YtnalhfcpcpondaaGreatDoor
set_option linter.unusedVariables false
set_option linter.unusedSimpArgs false
open Go.RowKit

end Go.Proofs.YtnalhfcpcpondaaGreatDoor
/- The program's Sqrt. -/
namespace Go.Proofs.YtnalhfcpcpondaaGreatDoor
set_option linter.unusedVariables false
set_option linter.unusedSimpArgs false
open Go.RowKit

end Go.Proofs.YtnalhfcpcpondaaGreatDoor
/- The program's Ratio. -/
namespace Go.Proofs.YtnalhfcpcpondaaGreatDoor
set_option linter.unusedVariables false
set_option linter.unusedSimpArgs false
open Go.RowKit

set_option maxHeartbeats 4000000 in
set_option maxRecDepth 200000 in
theorem pratio_1 (na nb : Bool) (ua va : Option Addr) (un uc vn vc x y k bx by' : Nat) (ea eb mode : Int) (sg : Bool) (w : World) (hsg : Hid ((!(na == nb)) = sg)) (hT : Tab32 w) (h1 : Is w (.slice ua un uc) x) (h2 : Is w (.slice va vn vc) y) (hx : dlen x ≤ 3000) (hy : dlen y ≤ 3000) (hy0 : y ≠ 0) (he1 : -65536 ≤ ea) (he2 : ea ≤ 65536) (he3 : -65536 ≤ eb) (he4 : eb ≤ 65536) (hm : mode = 1 ∨ mode = 2 ∨ mode = 3)
    (hbx : bl x = bx) (hby : bl y = by') (hbx2 : bx ≤ 96000) (hby2 : by' ≤ 96000) (hk : max 0 (64 + (by' : Int) - (bx : Int)) = (k : Int)) (hk2 : k ≤ 100000) (hn0 : ((un : Int) == 0) = false) (hn1 : ((vn : Int) == 0) = false)
    (k67 : ∀ W g, Below w.heap.size w W → W.heap[g]? = some (.cells #[.bool na, .slice ua un uc, .int .i64 ea, .bool nb, .slice va vn vc, .int .i64 eb] 95 (0, 0)) → Calls Tryz.prog 136 #[.slice (some ⟨g, 0, none⟩) 2 2] W fun r w' => r = .returned (.bool true) ∧ Below W.heap.size W w') :
    Calls Tryz.prog 100 #[.agg #[.bool na, .slice ua un uc, .int .i64 ea], .agg #[.bool nb, .slice va vn vc, .int .i64 eb], .int .i64 mode] w fun r w' => r = .returned (.tuple #[.float .f64 (tfF sg (decide (x * 2 ^ k % y = 0)) (x * 2 ^ k / y) (ea - eb - k) mode), .int .i64 0]) ∧ Below w.heap.size w w' := by
  obtain ⟨W, hW⟩ : ∃ W, W = (w.alloc (.cells #[.bool na, .slice ua un uc, .int .i64 ea] 95)).alloc (.cells #[.bool nb, .slice va vn vc, .int .i64 eb] 95) := ⟨_, rfl⟩
  have hBW : Below w.heap.size w W := by rw [hW]; exact ((Below.refl _ _).alloc (Nat.le_refl _) _).alloc (by simp) _
  have hbA : W.heap[w.heap.size]? = some (.cells #[.bool na, .slice ua un uc, .int .i64 ea] 95 (0, 0)) := by
    rw [hW, Below.heap_alloc _ _ _ (by simp)]; exact heap_alloc_new _ _
  have hbB : W.heap[w.heap.size + 1]? = some (.cells #[.bool nb, .slice va vn vc, .int .i64 eb] 95 (0, 0)) := by
    have := heap_alloc_new (w.alloc (.cells #[.bool na, .slice ua un uc, .int .i64 ea] 95)) (.cells #[.bool nb, .slice va vn vc, .int .i64 eb] 95)
    rw [hW]; simpa using this
  have hsz : W.heap.size = w.heap.size + 1 + 1 := by rw [hW]; simp
  have k1 := k67 (W.alloc (.cells #[.bool na, .slice ua un uc, .int .i64 ea, .bool nb, .slice va vn vc, .int .i64 eb] 95)) (w.heap.size + 1 + 1) (hBW.alloc hBW.size _) (by rw [← hsz]; exact heap_alloc_new _ _)
  have HX : Hid (Below w.heap.size w W ∧ W.heap.size = w.heap.size + 1 + 1 ∧ W.heap[w.heap.size]? = some (.cells #[.bool na, .slice ua un uc, .int .i64 ea] 95 (0, 0)) ∧ W.heap[w.heap.size + 1]? = some (.cells #[.bool nb, .slice va vn vc, .int .i64 eb] 95 (0, 0))) := ⟨hBW, hsz, hbA, hbB⟩
  have HT : Hid (Tab32 w ∧ Is w (.slice ua un uc) x ∧ dlen x ≤ 3000 ∧ Is w (.slice va vn vc) y ∧ dlen y ≤ 3000 ∧ y ≠ 0) := ⟨hT, h1, hx, h2, hy, hy0⟩
  have k48 := fun W => c48 mode hm W
  clear hBW hsz hbA hbB k67 hT h1 hx h2 hy hy0
  go_enter Tryz.func100, Tryz.ntmps100
  go_wp2_with fail
  rw [← hW]
  clear hW
  refine k1.mono ?_
  rintro r w1 ⟨rfl, hb1⟩
  have HB1 : Hid (Below W.heap.size W w1) := ((Below.refl W.heap.size W).alloc (Nat.le_refl _) _).trans (hb1.mono (by simp))
  have HW1 : Hid (Below w.heap.size w w1) := HX.out.1.trans (HB1.out.mono HX.out.1.size)
  obtain ⟨⟨a0, a1, a2⟩, -⟩ := box_cells (box_later HX.out.2.2.1 HB1.out (by have := HX.out.2.1; omega))
  obtain ⟨⟨b0, b1, b2⟩, -⟩ := box_cells (box_later HX.out.2.2.2 HB1.out (by have := HX.out.2.1; omega))
  clear k1 hb1
  go_wp2_with fail
  refine (k48 w1).mono ?_
  rintro r w1' ⟨rfl, hw⟩
  replace hw := hw.symm
  subst hw
  clear k48
  have kla : ∀ d, Calls Tryz.prog 138 #[.slice ua un uc] (w1.drewN d) fun e w' => e = .returned (.int .i64 (bx : Nat)) ∧ w' = w1.drewN d := fun d => by
    have := c74 (w := w1.drewN d) (HT.out.2.1.later (HW1.out.trans ⟨rfl, rfl, rfl, Nat.le_refl _, fun _ _ => rfl⟩)) (by have := HT.out.2.2; omega)
    rw [hbx] at this; exact this
  have klb : ∀ d, Calls Tryz.prog 138 #[.slice va vn vc] (w1.drewN d) fun e w' => e = .returned (.int .i64 (by' : Nat)) ∧ w' = w1.drewN d := fun d => by
    have := c74 (w := w1.drewN d) (HT.out.2.2.2.1.later (HW1.out.trans ⟨rfl, rfl, rfl, Nat.le_refl _, fun _ _ => rfl⟩)) (by have := HT.out.2.2; omega)
    rw [hby] at this; exact this
  go_wp2
  go_quiet (first | (go_at_call 138; first | (with_reducible refine Calls.quiet_of_same (klb _)) | (with_reducible refine Calls.quiet_of_same (kla _))))
  have HB2 : Hid (Below W.heap.size W (w1.drewN nq)) := HB1.out.trans ⟨rfl, rfl, rfl, Nat.le_refl _, fun _ _ => rfl⟩
  obtain ⟨w2, hw2⟩ : ∃ w2, w2 = w1.drewN nq := ⟨_, rfl⟩
  rw [← hw2] at HB2 ⊢
  clear hw2 kla klb a0 a1 a2 b0 b1 b2
  have HK : Hid (∀ w', Below w2.heap.size w2 w' → ((w'.cell? ⟨w.heap.size, 0, none⟩ = some (.bool na) ∧ w'.cell? ⟨w.heap.size, 1, none⟩ = some (.slice ua un uc) ∧ w'.cell? ⟨w.heap.size, 2, none⟩ = some (.int .i64 ea)) ∧ (w'.cell? ⟨w.heap.size + 1, 0, none⟩ = some (.bool nb) ∧ w'.cell? ⟨w.heap.size + 1, 1, none⟩ = some (.slice va vn vc) ∧ w'.cell? ⟨w.heap.size + 1, 2, none⟩ = some (.int .i64 eb)))) := fun w' hb => ⟨(box_cells (box_later HX.out.2.2.1 (HB2.out.trans (hb.mono HB2.out.size)) (by have := HX.out.2.1; omega))).1, (box_cells (box_later HX.out.2.2.2 (HB2.out.trans (hb.mono HB2.out.size)) (by have := HX.out.2.1; omega))).1⟩
  obtain ⟨⟨a0, a1, a2⟩, b0, b1, b2⟩ := HK.out w2 (Below.refl _ _)
  have hBR : Below w2.heap.size w2 w2.drew := (Below.refl _ _).drew
  have hl : dlen (x * 2 ^ k) ≤ 7000 := by have := shl_len (x := x) (k := k) rfl; have := HT.out.2.2; omega
  have HL : Hid (dlen (x * 2 ^ k) ≤ 7000) := hl
  have kS : ∀ w', Below w2.heap.size w2 w' → Calls Tryz.prog 140 #[.slice ua un uc, .int .i64 (k : Int)] w' fun e w'' => ∃ v, e = .returned v ∧ Hid (Is w'' v (x * 2 ^ k)) ∧ Below w2.heap.size w2 w'' := fun w' hb => (c109 (HT.out.2.1.later (HX.out.1.trans ((HB2.out.trans (hb.mono HB2.out.size)).mono HX.out.1.size))) k (by have := HT.out.2.2; omega) (by omega)).mono fun r w'' ⟨v, e1, e2, e3⟩ => ⟨v, e1, e2.is, hb.trans (e3.mono hb.size)⟩
  have kD : ∀ v w', Hid (Is w' v (x * 2 ^ k)) → Below w2.heap.size w2 w' → Calls Tryz.prog 139 #[v, .slice va vn vc] w' fun e w'' => ∃ q, e = .returned (.tuple #[q, .bool (decide (x * 2 ^ k % y = 0))]) ∧ Hid (Is w'' q (x * 2 ^ k / y)) ∧ Below w2.heap.size w2 w'' := fun v w' hI hb => (c100 hI.out (HT.out.2.2.2.1.later (HX.out.1.trans ((HB2.out.trans (hb.mono HB2.out.size)).mono HX.out.1.size))) (by have := HL.out; omega) (by have := HT.out.2.2.2.2; omega) HT.out.2.2.2.2.2).mono fun r w'' ⟨q, e1, e2, e3⟩ => ⟨q, e1, e2.is, hb.trans (e3.mono hb.size)⟩
  obtain ⟨xb, hxb⟩ : ∃ xb : Bool, xb = decide (x * 2 ^ k % y = 0) := ⟨_, rfl⟩
  rw [← hxb] at kD
  have HXB : Hid (xb = decide (x * 2 ^ k % y = 0)) := hxb
  clear hxb hl
  go_upto_region 8 with fail
  go_cut [9, 10] from 42 to 50 (fun q b wx => b = .bool xb ∧ Hid (Is wx q (x * 2 ^ k / y)) ∧ Hid (Below w2.heap.size w2 wx))
  case first =>
    go_region_held3 (fun w' => ((w'.cell? ⟨w.heap.size, 0, none⟩ = some (.bool na) ∧ w'.cell? ⟨w.heap.size, 1, none⟩ = some (.slice ua un uc) ∧ w'.cell? ⟨w.heap.size, 2, none⟩ = some (.int .i64 ea)) ∧ (w'.cell? ⟨w.heap.size + 1, 0, none⟩ = some (.bool nb) ∧ w'.cell? ⟨w.heap.size + 1, 1, none⟩ = some (.slice va vn vc) ∧ w'.cell? ⟨w.heap.size + 1, 2, none⟩ = some (.int .i64 eb)))) (first | (with_reducible assumption) | exact ⟨⟨a0, a1, a2⟩, b0, b1, b2⟩ | (refine HK.out _ ?_; with_reducible assumption) | go_keep)
      (first | (go_at_call 140; refine (kS _ (by first | (with_reducible assumption) | exact hBR)).mono ?_; rintro r w5 ⟨v5, rfl, hI5, hb5⟩) | (go_at_call 139; refine (kD _ _ hI5 (by with_reducible assumption)).mono ?_; rintro r w6 ⟨v6, rfl, hI6, hb6⟩))
    all_goals go_wp2_with fail
    all_goals go_meet
    all_goals exact ⟨rfl, hI6, hb6⟩
  case rest =>
    obtain ⟨rfl, hI, hB⟩ := hcut
    obtain ⟨w3, rfl⟩ : ∃ w3 : World, w3 = wc := ⟨_, rfl⟩
    have HB3 : Hid (Below W.heap.size W w3) := HB2.out.trans (hB.out.mono HB2.out.size)
    clear a0 a1 a2 b0 b1 b2 kS kD hBR
    obtain ⟨⟨a0, a1, a2⟩, b0, b1, b2⟩ := HK.out w3 hB.out
    have kt := c110 (neg := sg) (exact := xb) (e := ea - eb - k) (mode := mode) (HT.out.1.later (HX.out.1.trans (HB3.out.mono HX.out.1.size))) hI.out (Nat.le_trans (dlen_mono (Nat.div_le_self _ _)) (by have := HL.out; omega)) (by omega) (by omega)
    go_wp2_with fail
    rw [hsg.out]
    refine kt.mono ?_
    rintro r w4 ⟨rfl, hb4⟩
    have HB4 : Hid (Below W.heap.size W w4) := HB3.out.trans (hb4.mono HB3.out.size)
    clear kt hb4
    go_wp2
    refine bodyPost_ret (results_tmp2 rfl _ _ _) rfl ?_
    exact ⟨congrArg (fun b => Ending.returned (Value.tuple #[.float .f64 (tfF sg b (x * 2 ^ k / y) (ea - eb - k) mode), .int .i64 0])) HXB.out, HX.out.1.trans (HB4.out.mono HX.out.1.size)⟩
end Go.Proofs.YtnalhfcpcpondaaGreatDoor
/- The values of floats by their bodies, and how values are rounded: plain facts. -/
namespace Go.Proofs.YtnalhfcpcpondaaGreatDoor
set_option linter.unusedVariables false
set_option linter.unusedSimpArgs false

/-- the value of a float's body (its bits without the sign), in units of 2^-1074 -/
def bv (b : Nat) : Nat := if b < 4503599627370496 then b else (4503599627370496 + b % 4503599627370496) * 2 ^ (b / 4503599627370496 - 1)
theorem bv_at {j q : Nat} (h : (j = 0 ∧ q ≤ 9007199254740992) ∨ (4503599627370496 ≤ q ∧ q ≤ 9007199254740992)) : bv (j * 4503599627370496 + q) = q * 2 ^ j := by
  unfold bv
  by_cases h1 : j * 4503599627370496 + q < 4503599627370496
  · have hj : j = 0 := by omega
    subst hj
    rw [if_pos h1]; simp
  · rw [if_neg h1]
    by_cases h2 : q = 9007199254740992
    · subst h2
      rw [show (j * 4503599627370496 + 9007199254740992) % 4503599627370496 = 0 by omega, show (j * 4503599627370496 + 9007199254740992) / 4503599627370496 - 1 = j + 1 by omega, Nat.pow_succ]
      omega
    · have h3 : 4503599627370496 ≤ q := by omega
      rw [show (j * 4503599627370496 + q) % 4503599627370496 = q - 4503599627370496 by omega, show (j * 4503599627370496 + q) / 4503599627370496 - 1 = j by omega]
      rw [show 4503599627370496 + (q - 4503599627370496) = q by omega]
theorem bv_form (b : Nat) : ∃ j q, b = j * 4503599627370496 + q ∧ bv b = q * 2 ^ j ∧ bv (b + 1) = (q + 1) * 2 ^ j := by
  by_cases h : b < 4503599627370496
  · refine ⟨0, b, by omega, ?_, ?_⟩
    · have := bv_at (j := 0) (q := b) (.inl ⟨rfl, by omega⟩); simpa using this
    · have := bv_at (j := 0) (q := b + 1) (.inl ⟨rfl, by omega⟩); simpa using this
  · have e : b = (b / 4503599627370496 - 1) * 4503599627370496 + (4503599627370496 + b % 4503599627370496) := by omega
    refine ⟨_, _, e, ?_, ?_⟩
    · have := bv_at (j := b / 4503599627370496 - 1) (q := 4503599627370496 + b % 4503599627370496) (.inr ⟨by omega, by omega⟩)
      rw [← e] at this; exact this
    · have := bv_at (j := b / 4503599627370496 - 1) (q := 4503599627370496 + b % 4503599627370496 + 1) (.inr ⟨by omega, by omega⟩)
      rw [← Nat.add_assoc, ← e] at this; exact this
theorem bv_succ (b : Nat) : bv b < bv (b + 1) := by
  obtain ⟨j, q, -, h1, h2⟩ := bv_form b
  rw [h1, h2]
  exact Nat.mul_lt_mul_of_pos_right (by omega) (Nat.two_pow_pos j)
theorem bv_lt {a b : Nat} (h : a < b) : bv a < bv b := by
  induction b with
  | zero => omega
  | succ b ih =>
    by_cases h1 : a < b
    · exact Nat.lt_trans (ih h1) (bv_succ b)
    · obtain rfl : a = b := by omega
      exact bv_succ a
theorem bv_le {a b : Nat} (h : a ≤ b) : bv a ≤ bv b := by
  by_cases h1 : a = b
  · rw [h1]; exact Nat.le_refl _
  · exact Nat.le_of_lt (bv_lt (by omega))
theorem bv_inj_lt {a b : Nat} (h : bv a < bv b) : a < b := by
  apply Decidable.byContradiction
  intro h1
  have := bv_le (a := b) (b := a) (by omega)
  omega

/-- the number x·2^e (x' / 2^k units of the body's rung j) -/
structure IsR (x : Nat) (e : Int) (j X k : Nat) : Prop where
  eq : ∀ K : Nat, 0 ≤ e + K → 0 ≤ (j : Int) - 1074 - k + K → X * 2 ^ ((j : Int) - 1074 - k + K).toNat = x * 2 ^ (e + K).toNat
  lt : X / 2 ^ k < 9007199254740992
  ge : j = 0 ∨ 4503599627370496 ≤ X / 2 ^ k

/-- how a value A (in units u of 2^-1074) lies at the bodies b and b + 1, by what is left over -/
structure Lies (A u b : Nat) (r m : Nat) : Prop where
  lo : bv b * u ≤ A
  hi : A < bv (b + 1) * u
  ex : r = 0 ↔ A = bv b * u
  half_lt : 2 * r < m ↔ 2 * A < (bv b + bv (b + 1)) * u
  half_eq : 2 * r = m ↔ 2 * A = (bv b + bv (b + 1)) * u
theorem IsR.lies {x : Nat} {e : Int} {j X k : Nat} (h : IsR x e j X k) {K : Nat} (hK : 1074 ≤ K) (h1 : 0 ≤ e + K) (h2 : 0 ≤ (j : Int) - 1074 - k + K) :
    Lies (x * 2 ^ (e + K).toNat) (2 ^ (K - 1074)) (j * 4503599627370496 + X / 2 ^ k) (X % 2 ^ k) (2 ^ k) := by
  have eq := h.eq K h1 h2
  have hl := h.lt
  have hg := h.ge
  have b0 : bv (j * 4503599627370496 + X / 2 ^ k) = X / 2 ^ k * 2 ^ j := bv_at (j := j) (q := X / 2 ^ k) (by
    generalize X / 2 ^ k = q at *
    rcases hg with g | g
    · exact .inl ⟨g, by omega⟩
    · exact .inr ⟨g, by omega⟩)
  have b1 : bv (j * 4503599627370496 + X / 2 ^ k + 1) = (X / 2 ^ k + 1) * 2 ^ j := by
    have := bv_at (j := j) (q := X / 2 ^ k + 1) (by
      generalize X / 2 ^ k = q at *
      rcases hg with g | g
      · exact .inl ⟨g, by omega⟩
      · exact .inr ⟨by omega, by omega⟩)
    rw [← Nat.add_assoc] at this
    exact this
  have hu : 2 ^ j * 2 ^ (K - 1074) = 2 ^ k * 2 ^ ((j : Int) - 1074 - k + K).toNat := by
    rw [← Nat.pow_add, ← Nat.pow_add, show j + (K - 1074) = k + ((j : Int) - 1074 - k + K).toNat by omega]
  have hX : X = 2 ^ k * (X / 2 ^ k) + X % 2 ^ k := (Nat.div_add_mod X (2 ^ k)).symm
  have hr : X % 2 ^ k < 2 ^ k := Nat.mod_lt _ (Nat.two_pow_pos k)
  have hU : 0 < 2 ^ ((j : Int) - 1074 - k + K).toNat := Nat.two_pow_pos _
  rw [← eq]
  generalize 2 ^ ((j : Int) - 1074 - k + K).toNat = U at *
  generalize X / 2 ^ k = q at *
  generalize X % 2 ^ k = r at *
  generalize 2 ^ k = M at *
  generalize 2 ^ j = J at *
  generalize 2 ^ (K - 1074) = u at *
  have e0 : bv (j * 4503599627370496 + q) * u = q * (M * U) := by rw [b0, Nat.mul_assoc, hu]
  have e1 : bv (j * 4503599627370496 + q + 1) * u = (q + 1) * (M * U) := by rw [b1, Nat.mul_assoc, hu]
  have eA : X * U = q * (M * U) + r * U := by rw [hX, Nat.add_mul]; congr 1; rw [← Nat.mul_assoc, Nat.mul_comm q M]
  have e1' : (q + 1) * (M * U) = q * (M * U) + M * U := by rw [Nat.add_mul, Nat.one_mul]
  have hrU : r * U < M * U := Nat.mul_lt_mul_of_pos_right hr hU
  have hr0 : r = 0 ↔ r * U = 0 := by
    constructor
    · rintro rfl; simp
    · intro h; rcases Nat.mul_eq_zero.1 h with h | h
      · exact h
      · omega
  have hh1 : 2 * r < M ↔ 2 * (r * U) < M * U := by
    rw [← Nat.mul_assoc]
    exact (Nat.mul_lt_mul_right hU).symm
  have hh2 : 2 * r = M ↔ 2 * (r * U) = M * U := by
    rw [← Nat.mul_assoc]
    exact (Nat.mul_left_inj (by omega)).symm
  refine ⟨?_, ?_, ?_, ?_, ?_⟩
  · rw [e0, eA]; omega
  · rw [e1, eA, e1']; omega
  · rw [hr0, e0, eA]; omega
  · rw [hh1, Nat.add_mul, e0, e1, eA, e1']; omega
  · rw [hh2, Nat.add_mul, e0, e1, eA, e1']; omega

/-- a value rounded by a way: 0 inward, 1 to the nearest, 2 outward; no greatest one -/
structure Rounds (A u b way : Nat) : Prop where
  fl : ∃ b0, (bv b0 * u ≤ A ∧ A < bv (b0 + 1) * u) ∧ (way = 0 → b = b0) ∧ (way = 2 → b = if A = bv b0 * u then b0 else b0 + 1) ∧ (way = 1 → b = if 2 * A < (bv b0 + bv (b0 + 1)) * u then b0 else if 2 * A = (bv b0 + bv (b0 + 1)) * u then b0 + b0 % 2 else b0 + 1)
theorem floor_mono {A A' u b b' : Nat} (h : A ≤ A') (h1 : bv b * u ≤ A) (h2 : A' < bv (b' + 1) * u) : b ≤ b' := by
  have h3 : bv b * u < bv (b' + 1) * u := by omega
  have h4 : bv b < bv (b' + 1) := Nat.lt_of_mul_lt_mul_right h3
  have := bv_inj_lt h4
  omega
theorem Rounds.mono {A A' u b b' way : Nat} (hw : way = 0 ∨ way = 1 ∨ way = 2) (h : Rounds A u b way) (h' : Rounds A' u b' way) (hle : A ≤ A') : b ≤ b' := by
  obtain ⟨b0, ⟨l, g⟩, w0, w2, w1⟩ := h.fl
  obtain ⟨b1, ⟨l', g'⟩, w0', w2', w1'⟩ := h'.fl
  have hb := floor_mono hle l g'
  rcases hw with hw | hw | hw
  · rw [w0 hw, w0' hw]; exact hb
  · rw [w1 hw, w1' hw]
    by_cases he : b0 = b1
    · subst he
      split
      · split
        · exact Nat.le_refl _
        · split <;> omega
      · split
        · split
          · omega
          · split
            · exact Nat.le_refl _
            · have : b0 % 2 < 2 := Nat.mod_lt _ (by omega)
              omega
        · rw [if_neg (by omega), if_neg (by omega)]; exact Nat.le_refl _
    · have hlt : b0 < b1 := by omega
      have h1 : (if 2 * A < (bv b0 + bv (b0 + 1)) * u then b0 else if 2 * A = (bv b0 + bv (b0 + 1)) * u then b0 + b0 % 2 else b0 + 1) ≤ b0 + 1 := by
        split
        · omega
        · split <;> omega
      have h2 : b1 ≤ (if 2 * A' < (bv b1 + bv (b1 + 1)) * u then b1 else if 2 * A' = (bv b1 + bv (b1 + 1)) * u then b1 + b1 % 2 else b1 + 1) := by
        split
        · omega
        · split <;> omega
      omega
  · rw [w2 hw, w2' hw]
    by_cases he : b0 = b1
    · subst he
      split
      · split <;> omega
      · rw [if_neg (by omega)]; exact Nat.le_refl _
    · split
      · split <;> omega
      · split <;> omega
/-- inward is not above nearest, nor that above outward; inward and outward hold the value -/
theorem Rounds.order {A u b0 b1 b2 : Nat} (h0 : Rounds A u b0 0) (h1 : Rounds A u b1 1) (h2 : Rounds A u b2 2) : b0 ≤ b1 ∧ b1 ≤ b2 ∧ bv b0 * u ≤ A ∧ A ≤ bv b2 * u ∧ (b0 = b2 → A = bv b0 * u) := by
  obtain ⟨c0, ⟨l0, g0⟩, w0, -, -⟩ := h0.fl
  obtain ⟨c1, ⟨l1, g1⟩, -, -, w1⟩ := h1.fl
  obtain ⟨c2, ⟨l2, g2⟩, -, w2, -⟩ := h2.fl
  have e1 : c1 = c0 := by
    have := floor_mono (Nat.le_refl A) l1 g0
    have := floor_mono (Nat.le_refl A) l0 g1
    omega
  have e2 : c2 = c0 := by
    have := floor_mono (Nat.le_refl A) l2 g0
    have := floor_mono (Nat.le_refl A) l0 g2
    omega
  subst e1; subst e2
  have r0 := w0 rfl
  have r1 := w1 rfl
  have r2 := w2 rfl
  subst r0
  have hu : 0 < u := by
    apply Decidable.byContradiction
    intro h
    have : u = 0 := by omega
    subst this
    simp at g0
  have hs : bv b0 * u < bv (b0 + 1) * u := Nat.mul_lt_mul_of_pos_right (bv_succ b0) hu
  have hm : (bv b0 + bv (b0 + 1)) * u = bv b0 * u + bv (b0 + 1) * u := Nat.add_mul ..
  have hp : b0 % 2 < 2 := Nat.mod_lt _ (by omega)
  refine ⟨?_, ?_, l0, ?_, ?_⟩
  · rw [r1]
    split
    · omega
    · split <;> omega
  · rw [r1, r2]
    by_cases he : A = bv b0 * u
    · rw [if_pos he, if_pos (by omega)]; exact Nat.le_refl _
    · rw [if_neg he]
      split
      · omega
      · split <;> omega
  · rw [r2]
    split
    · omega
    · omega
  · intro h
    rw [r2] at h
    split at h
    · assumption
    · omega
end Go.Proofs.YtnalhfcpcpondaaGreatDoor
