/- Own work: contracts of the program's functions, part 8: W44 RC5 RD1 SA6 L5 G3 W43 L7 L9 RT2 DV1 RV1 DV2 DV3 RV2 DV4 RV3 RV4 RW2 RW3 RW4 RW5 RW6 RW7 RW8 RW9 RX1 W49 RX2 RX3 W50 L16 L10 L17 L14 W51 W52 FM FM2 F1 F6 F7. -/
import Derived.Test.YtlicjplmcepbnaaGreatDoorA7
import Derived.Test.YtlicjplmcepbnaaGreatDoorA6
import Derived.Deep.CutRange
import Derived.Test.YtlicjplmcepbnaaGreatDoorA4
import Derived.Test.YtlicjplmcepbnaaGreatDoorA2
import Derived.Deep.CutBlock
import Derived.Test.YtlicjplmcepbnaaGreatDoorA3
import Derived.Test.YtlicjplmcepbnaaGreatDoorA1

/- Sub, Mul refused; Shift. -/
namespace Go.Proofs.YtlicjplmcepbnaaGreatDoor
set_option linter.unusedVariables false
set_option linter.unusedSimpArgs false
open Go.RowKit

set_option maxRecDepth 200000 in
theorem mul_no (na nb : Bool) (ua va : Option Addr) (un uc vn vc : Nat) (ea eb : Int) (w : World)
    (k67 : ∀ W g, Below w.heap.size w W → W.heap[g]? = some (.cells #[.bool na, .slice ua un uc, .int .i64 ea, .bool nb, .slice va vn vc, .int .i64 eb] 65 (0, 0)) → Calls Tryz.prog 71 #[.slice (some ⟨g, 0, none⟩) 2 2] W fun r w' => r = .returned (.bool false) ∧ Below W.heap.size W w') :
    Calls Tryz.prog 62 #[NumV na (.slice ua un uc) ea, NumV nb (.slice va vn vc) eb] w fun r w' => r = .returned (.tuple #[Nil, .int .i64 1]) ∧ Below w.heap.size w w' := by
  obtain ⟨W, hW⟩ : ∃ W, W = ((w.alloc (.cells #[.bool na, .slice ua un uc, .int .i64 ea] 65)).alloc (.cells #[.bool nb, .slice va vn vc, .int .i64 eb] 65)).alloc (.cells #[.bool false, .slice none 0 0, .int .i64 0] 65) := ⟨_, rfl⟩
  obtain ⟨hA, hBb, hC, hsz, hBW⟩ := boxes3 _ _ _ hW
  have hB4 : Below w.heap.size w (W.alloc (.cells #[.bool na, .slice ua un uc, .int .i64 ea, .bool nb, .slice va vn vc, .int .i64 eb] 65)) := hBW.alloc hBW.size _
  have k1 := k67 (W.alloc (.cells #[.bool na, .slice ua un uc, .int .i64 ea, .bool nb, .slice va vn vc, .int .i64 eb] 65)) (w.heap.size + 1 + 1 + 1) hB4 (by rw [← hsz]; exact heap_alloc_new _ _)
  have HH : Hid (W.heap[w.heap.size + 1 + 1]? = some (.cells #[.bool false, .slice none 0 0, .int .i64 0] 65 (0, 0)) ∧ W.heap.size = w.heap.size + 1 + 1 + 1 ∧ Below w.heap.size w W ∧ Below W.heap.size W (W.alloc (.cells #[.bool na, .slice ua un uc, .int .i64 ea, .bool nb, .slice va vn vc, .int .i64 eb] 65))) := ⟨hC, hsz, hBW, (Below.refl _ _).alloc (Nat.le_refl _) _⟩
  unfold NumV
  clear hA hBb hC hsz hBW hB4 k67
  go_enter Tryz.func62, Tryz.ntmps62
  go_wp2_with fail
  rw [← hW]
  clear hW
  refine k1.mono ?_
  rintro r w1 ⟨rfl, hB1⟩
  clear k1
  have hBW1 : Below W.heap.size W w1 := HH.out.2.2.2.trans (hB1.mono HH.out.2.2.2.size)
  have HC3 : Hid (w1.heap[w.heap.size + 1 + 1]? = some (.cells #[.bool false, .slice none 0 0, .int .i64 0] 65 (0, 0))) := box_later HH.out.1 hBW1 (by have := HH.out.2.1; omega)
  have HB1 : Hid (Below W.heap.size W w1) := hBW1
  obtain ⟨⟨x1, x2, x3⟩, x4, x5, x6⟩ := box_cells HC3.out
  clear hB1 hBW1
  go_wp2
  refine bodyPost_ret (results_cell_tmp_row rfl _ _ (w.heap.size + 1 + 1) 65 #[.bool false, .slice none 0 0, .int .i64 0] (0, 0) _ rfl (store3 _ _ _ HC3.out) Tryz.underlying65 rfl Tryz.info65) rfl ?_
  obtain ⟨b1, b2, b3, b4⟩ := HH.out
  exact ⟨rfl, below_store3 (b3.trans (HB1.out.mono b3.size)) (by omega) _ _ _⟩

set_option maxHeartbeats 4000000 in
set_option maxRecDepth 200000 in
theorem shift_0 (na : Bool) (ua : Option Addr) (un uc : Nat) (ea k0 : Int) (w : World) (k43 : ∀ W g, Below w.heap.size w W → W.heap[g]? = some (.cells #[.bool na, .slice ua un uc, .int .i64 ea] 65 (0, 0)) → Calls Tryz.prog 71 #[.slice (some ⟨g, 0, none⟩) 1 1] W fun r w' => r = .returned (.bool false) ∧ Below W.heap.size W w') :
    Calls Tryz.prog 49 #[.agg #[.bool na, .slice ua un uc, .int .i64 ea], .int .i64 k0] w fun r w' => r = .returned (.tuple #[.agg #[.bool false, .slice none 0 0, .int .i64 0], .int .i64 1]) ∧ Below w.heap.size w w' := by
  obtain ⟨W, hW⟩ : ∃ W, W = (w.alloc (.cells #[.bool na, .slice ua un uc, .int .i64 ea] 65)).alloc (.cells #[.bool false, .slice none 0 0, .int .i64 0] 65) := ⟨_, rfl⟩
  have hBW : Below w.heap.size w W := by rw [hW]; exact ((Below.refl _ _).alloc (Nat.le_refl _) _).alloc (by simp) _
  have hbA : W.heap[w.heap.size]? = some (.cells #[.bool na, .slice ua un uc, .int .i64 ea] 65 (0, 0)) := by
    rw [hW, Below.heap_alloc _ _ _ (by simp)]; exact heap_alloc_new _ _
  have hbB : W.heap[w.heap.size + 1]? = some (.cells #[.bool false, .slice none 0 0, .int .i64 0] 65 (0, 0)) := by
    have := heap_alloc_new (w.alloc (.cells #[.bool na, .slice ua un uc, .int .i64 ea] 65)) (.cells #[.bool false, .slice none 0 0, .int .i64 0] 65)
    rw [hW]; simpa using this
  have hsz : W.heap.size = w.heap.size + 1 + 1 := by rw [hW]; simp
  have k1 := k43 (W.alloc (.cells #[.bool na, .slice ua un uc, .int .i64 ea] 65)) (w.heap.size + 1 + 1) (hBW.alloc hBW.size _) (by rw [← hsz]; exact heap_alloc_new _ _)
  have HX : Hid (Below w.heap.size w W ∧ W.heap.size = w.heap.size + 1 + 1 ∧ W.heap[w.heap.size]? = some (.cells #[.bool na, .slice ua un uc, .int .i64 ea] 65 (0, 0)) ∧ W.heap[w.heap.size + 1]? = some (.cells #[.bool false, .slice none 0 0, .int .i64 0] 65 (0, 0))) := ⟨hBW, hsz, hbA, hbB⟩
  clear hBW hsz hbA hbB k43
  go_enter Tryz.func49, Tryz.ntmps49
  go_wp2_with fail
  rw [← hW]
  clear hW
  refine k1.mono ?_
  rintro r w1 ⟨rfl, hb1⟩
  have HB1 : Hid (Below W.heap.size W w1) := ((Below.refl W.heap.size W).alloc (Nat.le_refl _) _).trans (hb1.mono (by simp))
  have H3 : Hid (w1.heap[w.heap.size]? = some (.cells #[.bool na, .slice ua un uc, .int .i64 ea] 65 (0, 0)) ∧ w1.heap[w.heap.size + 1]? = some (.cells #[.bool false, .slice none 0 0, .int .i64 0] 65 (0, 0)) ∧ w.heap.size + 1 + 1 ≤ w1.heap.size ∧ Below w.heap.size w w1) := ⟨box_later HX.out.2.2.1 HB1.out (by have := HX.out.2.1; omega), box_later HX.out.2.2.2 HB1.out (by have := HX.out.2.1; omega), by have := HB1.out.size; have := HX.out.2.1; omega, HX.out.1.trans (HB1.out.mono HX.out.1.size)⟩
  clear k1 hb1
  obtain ⟨⟨a0, a1, a2⟩, -⟩ := box_cells H3.out.1
  obtain ⟨⟨x1, x2, x3⟩, x4, x5, x6⟩ := box_cells H3.out.2.1
  go_wp2
  refine bodyPost_ret (results_cell_tmp_row rfl _ _ (w.heap.size + 1) 65 #[.bool false, .slice none 0 0, .int .i64 0] (0, 0) _ rfl (store3 _ _ _ H3.out.2.1) Tryz.underlying65 rfl Tryz.info65) rfl ?_
  exact ⟨rfl, below_store3 H3.out.2.2.2 (by omega) _ _ _⟩

set_option maxHeartbeats 4000000 in
set_option maxRecDepth 200000 in
theorem shift_1 (na : Bool) (ua : Option Addr) (uc : Nat) (ea k0 : Int) (w : World) (k43 : ∀ W g, Below w.heap.size w W → W.heap[g]? = some (.cells #[.bool na, .slice ua 0 uc, .int .i64 ea] 65 (0, 0)) → Calls Tryz.prog 71 #[.slice (some ⟨g, 0, none⟩) 1 1] W fun r w' => r = .returned (.bool true) ∧ Below W.heap.size W w') :
    Calls Tryz.prog 49 #[.agg #[.bool na, .slice ua 0 uc, .int .i64 ea], .int .i64 k0] w fun r w' => r = .returned (.tuple #[.agg #[.bool false, .slice none 0 0, .int .i64 0], .int .i64 0]) ∧ Below w.heap.size w w' := by
  obtain ⟨W, hW⟩ : ∃ W, W = (w.alloc (.cells #[.bool na, .slice ua 0 uc, .int .i64 ea] 65)).alloc (.cells #[.bool false, .slice none 0 0, .int .i64 0] 65) := ⟨_, rfl⟩
  have hBW : Below w.heap.size w W := by rw [hW]; exact ((Below.refl _ _).alloc (Nat.le_refl _) _).alloc (by simp) _
  have hbA : W.heap[w.heap.size]? = some (.cells #[.bool na, .slice ua 0 uc, .int .i64 ea] 65 (0, 0)) := by
    rw [hW, Below.heap_alloc _ _ _ (by simp)]; exact heap_alloc_new _ _
  have hbB : W.heap[w.heap.size + 1]? = some (.cells #[.bool false, .slice none 0 0, .int .i64 0] 65 (0, 0)) := by
    have := heap_alloc_new (w.alloc (.cells #[.bool na, .slice ua 0 uc, .int .i64 ea] 65)) (.cells #[.bool false, .slice none 0 0, .int .i64 0] 65)
    rw [hW]; simpa using this
  have hsz : W.heap.size = w.heap.size + 1 + 1 := by rw [hW]; simp
  have k1 := k43 (W.alloc (.cells #[.bool na, .slice ua 0 uc, .int .i64 ea] 65)) (w.heap.size + 1 + 1) (hBW.alloc hBW.size _) (by rw [← hsz]; exact heap_alloc_new _ _)
  have HX : Hid (Below w.heap.size w W ∧ W.heap.size = w.heap.size + 1 + 1 ∧ W.heap[w.heap.size]? = some (.cells #[.bool na, .slice ua 0 uc, .int .i64 ea] 65 (0, 0)) ∧ W.heap[w.heap.size + 1]? = some (.cells #[.bool false, .slice none 0 0, .int .i64 0] 65 (0, 0))) := ⟨hBW, hsz, hbA, hbB⟩
  clear hBW hsz hbA hbB k43
  go_enter Tryz.func49, Tryz.ntmps49
  go_wp2_with fail
  rw [← hW]
  clear hW
  refine k1.mono ?_
  rintro r w1 ⟨rfl, hb1⟩
  have HB1 : Hid (Below W.heap.size W w1) := ((Below.refl W.heap.size W).alloc (Nat.le_refl _) _).trans (hb1.mono (by simp))
  have H3 : Hid (w1.heap[w.heap.size]? = some (.cells #[.bool na, .slice ua 0 uc, .int .i64 ea] 65 (0, 0)) ∧ w1.heap[w.heap.size + 1]? = some (.cells #[.bool false, .slice none 0 0, .int .i64 0] 65 (0, 0)) ∧ w.heap.size + 1 + 1 ≤ w1.heap.size ∧ Below w.heap.size w w1) := ⟨box_later HX.out.2.2.1 HB1.out (by have := HX.out.2.1; omega), box_later HX.out.2.2.2 HB1.out (by have := HX.out.2.1; omega), by have := HB1.out.size; have := HX.out.2.1; omega, HX.out.1.trans (HB1.out.mono HX.out.1.size)⟩
  clear k1 hb1
  obtain ⟨⟨a0, a1, a2⟩, -⟩ := box_cells H3.out.1
  obtain ⟨⟨x1, x2, x3⟩, x4, x5, x6⟩ := box_cells H3.out.2.1
  go_wp2
  refine bodyPost_ret (results_cell_tmp_row rfl _ _ (w.heap.size + 1) 65 #[.bool false, .slice none 0 0, .int .i64 0] (0, 0) _ rfl (store3 _ _ _ H3.out.2.1) Tryz.underlying65 rfl Tryz.info65) rfl ?_
  exact ⟨rfl, below_store3 H3.out.2.2.2 (by omega) _ _ _⟩

set_option maxHeartbeats 4000000 in
set_option maxRecDepth 200000 in
theorem shift_2 (na : Bool) (ua : Option Addr) (un uc : Nat) (ea k0 : Int) (w : World) (hn : un ≤ 35184372088832) (hn0 : ((un : Int) == 0) = false) (he1 : -65536 ≤ ea) (he2 : ea ≤ 65536) (hk : k0 < -65536 - ea ∨ 65536 - ea < k0) (k43 : ∀ W g, Below w.heap.size w W → W.heap[g]? = some (.cells #[.bool na, .slice ua un uc, .int .i64 ea] 65 (0, 0)) → Calls Tryz.prog 71 #[.slice (some ⟨g, 0, none⟩) 1 1] W fun r w' => r = .returned (.bool true) ∧ Below W.heap.size W w') :
    Calls Tryz.prog 49 #[.agg #[.bool na, .slice ua un uc, .int .i64 ea], .int .i64 k0] w fun r w' => r = .returned (.tuple #[.agg #[.bool false, .slice none 0 0, .int .i64 0], .int .i64 2]) ∧ Below w.heap.size w w' := by
  obtain ⟨W, hW⟩ : ∃ W, W = (w.alloc (.cells #[.bool na, .slice ua un uc, .int .i64 ea] 65)).alloc (.cells #[.bool false, .slice none 0 0, .int .i64 0] 65) := ⟨_, rfl⟩
  have hBW : Below w.heap.size w W := by rw [hW]; exact ((Below.refl _ _).alloc (Nat.le_refl _) _).alloc (by simp) _
  have hbA : W.heap[w.heap.size]? = some (.cells #[.bool na, .slice ua un uc, .int .i64 ea] 65 (0, 0)) := by
    rw [hW, Below.heap_alloc _ _ _ (by simp)]; exact heap_alloc_new _ _
  have hbB : W.heap[w.heap.size + 1]? = some (.cells #[.bool false, .slice none 0 0, .int .i64 0] 65 (0, 0)) := by
    have := heap_alloc_new (w.alloc (.cells #[.bool na, .slice ua un uc, .int .i64 ea] 65)) (.cells #[.bool false, .slice none 0 0, .int .i64 0] 65)
    rw [hW]; simpa using this
  have hsz : W.heap.size = w.heap.size + 1 + 1 := by rw [hW]; simp
  have k1 := k43 (W.alloc (.cells #[.bool na, .slice ua un uc, .int .i64 ea] 65)) (w.heap.size + 1 + 1) (hBW.alloc hBW.size _) (by rw [← hsz]; exact heap_alloc_new _ _)
  have HX : Hid (Below w.heap.size w W ∧ W.heap.size = w.heap.size + 1 + 1 ∧ W.heap[w.heap.size]? = some (.cells #[.bool na, .slice ua un uc, .int .i64 ea] 65 (0, 0)) ∧ W.heap[w.heap.size + 1]? = some (.cells #[.bool false, .slice none 0 0, .int .i64 0] 65 (0, 0))) := ⟨hBW, hsz, hbA, hbB⟩
  clear hBW hsz hbA hbB k43
  go_enter Tryz.func49, Tryz.ntmps49
  go_wp2_with fail
  rw [← hW]
  clear hW
  refine k1.mono ?_
  rintro r w1 ⟨rfl, hb1⟩
  have HB1 : Hid (Below W.heap.size W w1) := ((Below.refl W.heap.size W).alloc (Nat.le_refl _) _).trans (hb1.mono (by simp))
  have H3 : Hid (w1.heap[w.heap.size]? = some (.cells #[.bool na, .slice ua un uc, .int .i64 ea] 65 (0, 0)) ∧ w1.heap[w.heap.size + 1]? = some (.cells #[.bool false, .slice none 0 0, .int .i64 0] 65 (0, 0)) ∧ w.heap.size + 1 + 1 ≤ w1.heap.size ∧ Below w.heap.size w w1) := ⟨box_later HX.out.2.2.1 HB1.out (by have := HX.out.2.1; omega), box_later HX.out.2.2.2 HB1.out (by have := HX.out.2.1; omega), by have := HB1.out.size; have := HX.out.2.1; omega, HX.out.1.trans (HB1.out.mono HX.out.1.size)⟩
  clear k1 hb1
  obtain ⟨⟨a0, a1, a2⟩, -⟩ := box_cells H3.out.1
  obtain ⟨⟨x1, x2, x3⟩, x4, x5, x6⟩ := box_cells H3.out.2.1
  by_cases hk1 : k0 < -65536 - ea
  · clear hk
    go_wp2
    refine bodyPost_ret (results_cell_tmp_row rfl _ _ (w.heap.size + 1) 65 #[.bool false, .slice none 0 0, .int .i64 0] (0, 0) _ rfl (store3 _ _ _ H3.out.2.1) Tryz.underlying65 rfl Tryz.info65) rfl ?_
    exact ⟨rfl, below_store3 H3.out.2.2.2 (by omega) _ _ _⟩
  · have hk2 : 65536 - ea < k0 := by omega
    clear hk
    go_wp2
    refine bodyPost_ret (results_cell_tmp_row rfl _ _ (w.heap.size + 1) 65 #[.bool false, .slice none 0 0, .int .i64 0] (0, 0) _ rfl (store3 _ _ _ H3.out.2.1) Tryz.underlying65 rfl Tryz.info65) rfl ?_
    exact ⟨rfl, below_store3 H3.out.2.2.2 (by omega) _ _ _⟩

set_option maxHeartbeats 4000000 in
set_option maxRecDepth 200000 in
theorem shift_3 (na : Bool) (ua : Option Addr) (un uc : Nat) (ea k0 : Int) (w : World) (x : Nat) (h1 : Is w (.slice ua un uc) x) (hx : dlen x ≤ 1000000) (hn : un ≤ 35184372088832) (hn0 : ((un : Int) == 0) = false) (he1 : -65536 ≤ ea) (he2 : ea ≤ 65536) (hk1 : ¬ k0 < -65536 - ea) (hk2 : ¬ 65536 - ea < k0) (k43 : ∀ W g, Below w.heap.size w W → W.heap[g]? = some (.cells #[.bool na, .slice ua un uc, .int .i64 ea] 65 (0, 0)) → Calls Tryz.prog 71 #[.slice (some ⟨g, 0, none⟩) 1 1] W fun r w' => r = .returned (.bool true) ∧ Below W.heap.size W w') :
    Calls Tryz.prog 49 #[.agg #[.bool na, .slice ua un uc, .int .i64 ea], .int .i64 k0] w fun r w' => ∃ v, r = .returned (.tuple #[.agg #[.bool na, v, .int .i64 (ea + k0)], .int .i64 0]) ∧ Own w' w.heap.size v x ∧ Below w.heap.size w w' := by
  obtain ⟨W, hW⟩ : ∃ W, W = (w.alloc (.cells #[.bool na, .slice ua un uc, .int .i64 ea] 65)).alloc (.cells #[.bool false, .slice none 0 0, .int .i64 0] 65) := ⟨_, rfl⟩
  have hBW : Below w.heap.size w W := by rw [hW]; exact ((Below.refl _ _).alloc (Nat.le_refl _) _).alloc (by simp) _
  have hbA : W.heap[w.heap.size]? = some (.cells #[.bool na, .slice ua un uc, .int .i64 ea] 65 (0, 0)) := by
    rw [hW, Below.heap_alloc _ _ _ (by simp)]; exact heap_alloc_new _ _
  have hbB : W.heap[w.heap.size + 1]? = some (.cells #[.bool false, .slice none 0 0, .int .i64 0] 65 (0, 0)) := by
    have := heap_alloc_new (w.alloc (.cells #[.bool na, .slice ua un uc, .int .i64 ea] 65)) (.cells #[.bool false, .slice none 0 0, .int .i64 0] 65)
    rw [hW]; simpa using this
  have hsz : W.heap.size = w.heap.size + 1 + 1 := by rw [hW]; simp
  have k1 := k43 (W.alloc (.cells #[.bool na, .slice ua un uc, .int .i64 ea] 65)) (w.heap.size + 1 + 1) (hBW.alloc hBW.size _) (by rw [← hsz]; exact heap_alloc_new _ _)
  have HX : Hid (Below w.heap.size w W ∧ W.heap.size = w.heap.size + 1 + 1 ∧ W.heap[w.heap.size]? = some (.cells #[.bool na, .slice ua un uc, .int .i64 ea] 65 (0, 0)) ∧ W.heap[w.heap.size + 1]? = some (.cells #[.bool false, .slice none 0 0, .int .i64 0] 65 (0, 0))) := ⟨hBW, hsz, hbA, hbB⟩
  have HI : Hid (Is w (.slice ua un uc) x ∧ dlen x ≤ 1000000) := ⟨h1, hx⟩
  clear h1 hx
  clear hBW hsz hbA hbB k43
  go_enter Tryz.func49, Tryz.ntmps49
  go_wp2_with fail
  rw [← hW]
  clear hW
  refine k1.mono ?_
  rintro r w1 ⟨rfl, hb1⟩
  have HB1 : Hid (Below W.heap.size W w1) := ((Below.refl W.heap.size W).alloc (Nat.le_refl _) _).trans (hb1.mono (by simp))
  have H3 : Hid (w1.heap[w.heap.size]? = some (.cells #[.bool na, .slice ua un uc, .int .i64 ea] 65 (0, 0)) ∧ w1.heap[w.heap.size + 1]? = some (.cells #[.bool false, .slice none 0 0, .int .i64 0] 65 (0, 0)) ∧ w.heap.size + 1 + 1 ≤ w1.heap.size ∧ Below w.heap.size w w1) := ⟨box_later HX.out.2.2.1 HB1.out (by have := HX.out.2.1; omega), box_later HX.out.2.2.2 HB1.out (by have := HX.out.2.1; omega), by have := HB1.out.size; have := HX.out.2.1; omega, HX.out.1.trans (HB1.out.mono HX.out.1.size)⟩
  clear k1 hb1
  obtain ⟨⟨a0, a1, a2⟩, -⟩ := box_cells H3.out.1
  obtain ⟨⟨x1, x2, x3⟩, x4, x5, x6⟩ := box_cells H3.out.2.1
  have HK : Hid (∀ w', Below (w.heap.size + 1) w1 w' → (w'.cell? ⟨w.heap.size, 0, none⟩ = some (.bool na) ∧ w'.cell? ⟨w.heap.size, 1, none⟩ = some (.slice ua un uc) ∧ w'.cell? ⟨w.heap.size, 2, none⟩ = some (.int .i64 ea))) := fun w' hb => (box_cells (box_later H3.out.1 hb (by omega))).1
  have kC : ∀ w4, Below w1.heap.size w1 w4 → Calls Tryz.prog 72 #[.slice ua un uc] w4 fun r w' => ∃ ao n cap, r = .returned (.slice ao n cap) ∧ Own w' w1.heap.size (.slice ao n cap) x ∧ Below w1.heap.size w1 w' := fun w4 hb =>
    (clone_ok ((HI.out.1.later H3.out.2.2.2).later hb) (by have := HI.out.2; omega)).mono fun r w' ⟨v, e1, o1, o2⟩ => by
      obtain ⟨ao, cap, rfl, -, -, -⟩ := o1.is
      exact ⟨_, _, _, e1, o1.mono hb.size, hb.trans (o2.mono hb.size)⟩
  have hBR : Below w1.heap.size w1 w1.drew := (Below.refl _ _).drew
  have hBR1 : Below (w.heap.size + 1) w1 w1.drew := (Below.refl _ _).drew
  have H1 : Hid (w.heap.size + 1 ≤ w1.heap.size) := (by have := H3.out.2.2.1; omega : w.heap.size + 1 ≤ w1.heap.size)
  have HZ : Hid (IntKind.i64.wrap (ea + k0) = ea + k0) := (by rw [IntKind.wrap_i64]; omega : IntKind.i64.wrap (ea + k0) = ea + k0)
  go_upto_region 8 with fail
  clear x1 x2 x3 x4 x5 x6
  go_region_held3 (fun w' => w'.cell? ⟨w.heap.size, 0, none⟩ = some (.bool na) ∧ w'.cell? ⟨w.heap.size, 1, none⟩ = some (.slice ua un uc) ∧ w'.cell? ⟨w.heap.size, 2, none⟩ = some (.int .i64 ea)) (first | (with_reducible assumption) | exact HK.out _ hBR1 | (refine HK.out _ (Below.mono ?_ H1.out); with_reducible assumption) | (refine HK.out _ (below_store3 (Below.mono hb5 H1.out) (Nat.le_refl _) _ _ _)) | go_keep)
    (first | (go_at_call 72; refine (kC _ (by first | (with_reducible assumption) | exact hBR)).mono ?_; rintro r w5 ⟨ao5, n5, cap5, rfl, ho5, hb5⟩; have hblk5 := box_later H3.out.2.1 hb5 (by have := H3.out.2.2.1; omega); obtain ⟨⟨x1, x2, x3⟩, x4, x5, x6⟩ := box_cells hblk5))
  all_goals (have HF : Hid (Below w1.heap.size w1 w5 ∧ Own w5 w1.heap.size (.slice ao5 n5 cap5) x ∧ w5.heap[w.heap.size + 1]? = some (.cells #[.bool false, .slice none 0 0, .int .i64 0] 65 (0, 0))) := ⟨hb5, ho5, hblk5⟩; clear ho5 hb5 hblk5 x1 x2 x3 x4 x5 x6 kC HK hBR hBR1 a0 a1 a2; (try rw [HZ.out]); go_wp2; refine bodyPost_ret (results_cell_tmp_row rfl _ _ (w.heap.size + 1) 65 #[.bool na, .slice ao5 n5 cap5, .int .i64 (ea + k0)] (0, 0) _ rfl (store3 _ _ _ HF.out.2.2) Tryz.underlying65 rfl Tryz.info65) rfl ?_; exact ⟨_, rfl, (own_store3 HF.out.2.1 (by have := H3.out.2.2.1; omega) _ _ _).mono (by have := H3.out.2.2.1; omega), below_store3 (H3.out.2.2.2.trans (HF.out.1.mono H3.out.2.2.2.size)) (by omega) _ _ _⟩)
end Go.Proofs.YtlicjplmcepbnaaGreatDoor
/- The document's and the program's Add, Sub, Mul, Shift, of all numbers. -/
namespace Go.Proofs.YtlicjplmcepbnaaGreatDoor
set_option linter.unusedVariables false
set_option linter.unusedSimpArgs false
open Go.RowKit

end Go.Proofs.YtlicjplmcepbnaaGreatDoor
/- The document's Sgn, Sign, Bits, Top, Neg, Abs. -/
namespace Go.Proofs.YtlicjplmcepbnaaGreatDoor
set_option linter.unusedVariables false
set_option linter.unusedSimpArgs false
open Go.RowKit

end Go.Proofs.YtlicjplmcepbnaaGreatDoor
/- The document's Add and Sub of floats: the walks. -/
namespace Go.Proofs.YtlicjplmcepbnaaGreatDoor
set_option linter.unusedVariables false
set_option linter.unusedSimpArgs false
open Go.RowKit Go.Fl64

end Go.Proofs.YtlicjplmcepbnaaGreatDoor
/- DyadRing: the law's walk. -/
namespace Go.Proofs.YtlicjplmcepbnaaGreatDoor
set_option linter.unusedVariables false
set_option linter.unusedSimpArgs false
open Go.RowKit Go.Fl64

/-- a number's box, and the number in it -/
def Bn (w : World) (g : Nat) (s : Bool) (ao : Option Addr) (n cap : Nat) (e : Int) (t : Bool × Nat × Int) : Prop :=
  w.heap[g]? = some (.cells #[.bool s, .slice ao n cap, .int .i64 e] 65 (0, 0)) ∧ PN w (.agg #[.bool s, .slice ao n cap, .int .i64 e]) t
theorem Bn.later {w w' : World} {g : Nat} {s : Bool} {ao : Option Addr} {n cap : Nat} {e : Int} {t : Bool × Nat × Int} (h : Bn w g s ao n cap e t) (hb : Below w.heap.size w w') : Bn w' g s ao n cap e t :=
  ⟨box_later h.1 hb (Array.getElem?_eq_some_iff.1 h.1).1, h.2.later hb⟩
theorem Bn.new {w : World} {s : Bool} {ao : Option Addr} {n cap : Nat} {e : Int} {t : Bool × Nat × Int} (h : PN w (.agg #[.bool s, .slice ao n cap, .int .i64 e]) t) : Bn (w.alloc (.cells #[.bool s, .slice ao n cap, .int .i64 e] 65)) w.heap.size s ao n cap e t :=
  ⟨heap_alloc_new _ _, h.later ((Below.refl _ _).alloc (Nat.le_refl _) _)⟩
end Go.Proofs.YtlicjplmcepbnaaGreatDoor
/- Several numbers given at once, without their signs: x, y := Abs(give(a)), Abs(give(b)). -/
namespace Go.Proofs.YtlicjplmcepbnaaGreatDoor
set_option linter.unusedVariables false
set_option linter.unusedSimpArgs false
open Go.RowKit

end Go.Proofs.YtlicjplmcepbnaaGreatDoor
/- Root, of numbers that may be and are not below nought. -/
namespace Go.Proofs.YtlicjplmcepbnaaGreatDoor
set_option linter.unusedVariables false
set_option linter.unusedSimpArgs false
open Go.RowKit

end Go.Proofs.YtlicjplmcepbnaaGreatDoor
/- DyadLeast: the law's walk. -/
namespace Go.Proofs.YtlicjplmcepbnaaGreatDoor
set_option linter.unusedVariables false
set_option linter.unusedSimpArgs false
open Go.RowKit Go.Fl64

end Go.Proofs.YtlicjplmcepbnaaGreatDoor
/- DyadSums: the law's walk. -/
namespace Go.Proofs.YtlicjplmcepbnaaGreatDoor
set_option linter.unusedVariables false
set_option linter.unusedSimpArgs false
open Go.RowKit

/-- a box, and what it holds -/
def BB (ty : TypeId) (P : World → Value → Prop) (w : World) (g : Nat) (s : Bool) (ao : Option Addr) (n cap : Nat) (e : Int) : Prop :=
  w.heap[g]? = some (.cells #[.bool s, .slice ao n cap, .int .i64 e] ty (0, 0)) ∧ P w (.agg #[.bool s, .slice ao n cap, .int .i64 e])
def Lasts (P : World → Value → Prop) : Prop := ∀ W W' A, Below W.heap.size W W' → P W A → P W' A
theorem BB.later {ty : TypeId} {P : World → Value → Prop} (hP : Lasts P) {w w' : World} {g : Nat} {s : Bool} {ao : Option Addr} {n cap : Nat} {e : Int} (h : BB ty P w g s ao n cap e) (hb : Below w.heap.size w w') : BB ty P w' g s ao n cap e :=
  ⟨box_later h.1 hb (Array.getElem?_eq_some_iff.1 h.1).1, hP _ _ _ hb h.2⟩
theorem BB.new {ty : TypeId} {P : World → Value → Prop} (hP : Lasts P) {w : World} {s : Bool} {ao : Option Addr} {n cap : Nat} {e : Int} (h : P w (.agg #[.bool s, .slice ao n cap, .int .i64 e])) : BB ty P (w.alloc (.cells #[.bool s, .slice ao n cap, .int .i64 e] ty)) w.heap.size s ao n cap e :=
  ⟨heap_alloc_new _ _, hP _ _ _ ((Below.refl _ _).alloc (Nat.le_refl _) _) h⟩
end Go.Proofs.YtlicjplmcepbnaaGreatDoor
/- The document's down, and whether nothing was lost. -/
namespace Go.Proofs.YtlicjplmcepbnaaGreatDoor
set_option linter.unusedVariables false
set_option linter.unusedSimpArgs false
open Go.RowKit

end Go.Proofs.YtlicjplmcepbnaaGreatDoor
/- The document's long division: how its guesses come to the right digit. -/
namespace Go.Proofs.YtlicjplmcepbnaaGreatDoor
set_option linter.unusedVariables false
set_option linter.unusedSimpArgs false

/-- a guess too high -/
theorem kn_low {R V v1 v2 t r3 d r n : Nat} (hn : 2 ≤ n) (hV : (v1 * B + v2) * B ^ (n - 2) ≤ V) (hR : R < (t * B + r3 + 1) * B ^ (n - 2)) (ht : d * v1 + r = t) (h : r * B + r3 < d * v2) : R < d * V := by
  have h1 : (t * B + r3 + 1) ≤ d * (v1 * B + v2) := by
    have e1 : d * (v1 * B + v2) = (d * v1) * B + d * v2 := by grind
    have e2 : t * B = d * v1 * B + r * B := by rw [← ht, Nat.add_mul]
    omega
  calc R < (t * B + r3 + 1) * B ^ (n - 2) := hR
    _ ≤ d * (v1 * B + v2) * B ^ (n - 2) := Nat.mul_le_mul_right _ h1
    _ = d * ((v1 * B + v2) * B ^ (n - 2)) := Nat.mul_assoc _ _ _
    _ ≤ d * V := Nat.mul_le_mul_left _ hV
/-- a guess that passed is at most one too high -/
theorem kn_high {R V v1 v2 t r3 d r n : Nat} (hn : 2 ≤ n) (hV : V < (v1 * B + v2 + 1) * B ^ (n - 2)) (hR : (t * B + r3) * B ^ (n - 2) ≤ R) (ht : d * v1 + r = t) (hd : d ≤ B) (hv : 1 ≤ v1) (h : d * v2 ≤ r * B + r3) : (d - 1) * V ≤ R := by
  rcases Nat.eq_zero_or_pos d with h0 | h0
  · subst h0; simp
  obtain ⟨c, rfl⟩ : ∃ c, d = c + 1 := ⟨d - 1, by omega⟩
  rw [Nat.add_sub_cancel]
  have hb : c ≤ v1 * B + v2 := by
    have : B ≤ v1 * B := Nat.le_mul_of_pos_left _ hv
    omega
  have h1 : c * (v1 * B + v2 + 1) ≤ t * B + r3 := by
    have e1 : (c + 1) * (v1 * B + v2) = ((c + 1) * v1) * B + (c + 1) * v2 := by grind
    have e2 : t * B = (c + 1) * v1 * B + r * B := by rw [← ht, Nat.add_mul]
    have e3 : (c + 1) * (v1 * B + v2) = c * (v1 * B + v2) + (v1 * B + v2) := by grind
    have e4 : c * (v1 * B + v2 + 1) = c * (v1 * B + v2) + c := by grind
    omega
  calc c * V ≤ c * ((v1 * B + v2 + 1) * B ^ (n - 2)) := Nat.mul_le_mul_left _ (Nat.le_of_lt hV)
    _ = c * (v1 * B + v2 + 1) * B ^ (n - 2) := (Nat.mul_assoc _ _ _).symm
    _ ≤ (t * B + r3) * B ^ (n - 2) := Nat.mul_le_mul_right _ h1
    _ ≤ R := hR
/-- the state of the guess: not below the digit, and the first one no more than two above the base -/
structure Kn (R V v1 t d r : Nat) : Prop where
  sum : d * v1 + r = t
  ge : R < (d + 1) * V
  le : d ≤ B + 1
/-- the first guess -/
theorem kn_start {R V v1 v2 t n : Nat} (hn : 1 ≤ n) (hv : 1 ≤ v1) (hh : B ≤ 2 * v1) (hv2 : v2 < B) (hV1 : v1 * B ^ (n - 1) ≤ V) (hR : R < (t + 1) * B ^ (n - 1)) (ht : t ≤ v1 * B + v2) : Kn R V v1 t (t / v1) (t % v1) := by
  have h0 := Nat.div_add_mod t v1
  have h1 := Nat.mod_lt t (show 0 < v1 by omega)
  refine ⟨by rw [Nat.mul_comm]; exact h0, ?_, ?_⟩
  · have h2 : t + 1 ≤ (t / v1 + 1) * v1 := by rw [Nat.add_mul, Nat.one_mul, Nat.mul_comm]; omega
    calc R < (t + 1) * B ^ (n - 1) := hR
      _ ≤ (t / v1 + 1) * v1 * B ^ (n - 1) := Nat.mul_le_mul_right _ h2
      _ = (t / v1 + 1) * (v1 * B ^ (n - 1)) := Nat.mul_assoc _ _ _
      _ ≤ (t / v1 + 1) * V := Nat.mul_le_mul_left _ hV1
  · refine Nat.le_of_lt_succ ((Nat.div_lt_iff_lt_mul (by omega)).2 ?_)
    have : (B + 1).succ * v1 = v1 * B + 2 * v1 := by rw [Nat.succ_eq_add_one]; grind
    rw [this]; omega
/-- one less -/
theorem Kn.less {R V v1 v2 t d r r3 n : Nat} (h : Kn R V v1 t d r) (hn : 2 ≤ n) (hV : (v1 * B + v2) * B ^ (n - 2) ≤ V) (hR : R < (t * B + r3 + 1) * B ^ (n - 2)) (hq : R < V * B) (hc : B ≤ d ∨ r * B + r3 < d * v2) : Kn R V v1 t (d - 1) (r + v1) ∧ 1 ≤ d := by
  have hd : 1 ≤ d := by
    rcases hc with h | h
    · have := B_pos; omega
    · rcases Nat.eq_zero_or_pos d with h0 | h0
      · rw [h0] at h; omega
      · exact h0
  refine ⟨⟨?_, ?_, ?_⟩, hd⟩
  · have := h.sum
    have e : d * v1 = (d - 1) * v1 + v1 := by
      obtain ⟨c, rfl⟩ : ∃ c, d = c + 1 := ⟨d - 1, by omega⟩
      rw [Nat.add_sub_cancel, Nat.add_mul, Nat.one_mul]
    omega
  · rw [show d - 1 + 1 = d by omega]
    rcases hc with h1 | h1
    · exact Nat.lt_of_lt_of_le hq (by rw [Nat.mul_comm]; exact Nat.mul_le_mul_right _ h1)
    · exact kn_low hn hV hR h.sum h1
  · have := h.le; omega
/-- the guess is done: the digit, or one more -/
theorem Kn.done {R V v1 v2 t d r r3 n : Nat} (h : Kn R V v1 t d r) (hn : 2 ≤ n) (hv : 1 ≤ v1) (hv2 : v2 < B) (hV0 : 0 < V) (hV : V < (v1 * B + v2 + 1) * B ^ (n - 2)) (hR : (t * B + r3) * B ^ (n - 2) ≤ R) (hd : d < B) (hc : d * v2 ≤ r * B + r3 ∨ B ≤ r) : R / V ≤ d ∧ d ≤ R / V + 1 := by
  have hc' : d * v2 ≤ r * B + r3 := by
    rcases hc with h | h
    · exact h
    · have h1 : d * v2 ≤ B * B := Nat.mul_le_mul (Nat.le_of_lt hd) (Nat.le_of_lt hv2)
      have h2 : B * B ≤ r * B := Nat.mul_le_mul_right _ h
      omega
  constructor
  · exact Nat.le_of_lt_succ ((Nat.div_lt_iff_lt_mul hV0).2 h.ge)
  · have h1 := kn_high hn hV hR h.sum (Nat.le_of_lt hd) hv hc'
    have := (Nat.le_div_iff_mul_le hV0).2 h1
    omega
end Go.Proofs.YtlicjplmcepbnaaGreatDoor
/- The document's division by one digit. -/
namespace Go.Proofs.YtlicjplmcepbnaaGreatDoor
set_option linter.unusedVariables false
set_option linter.unusedSimpArgs false
open Go.RowKit

end Go.Proofs.YtlicjplmcepbnaaGreatDoor
/- The document's long division: two rows that are written, and the window. -/
namespace Go.Proofs.YtlicjplmcepbnaaGreatDoor
set_option linter.unusedVariables false
set_option linter.unusedSimpArgs false
open Go.RowKit

/-- of w to wr only blocks g and h have been written: rows of L and M digits -/
structure Two (g h : Nat) (w wr : World) (L M : Nat) (f q : Nat → Nat) : Prop where
  os : wr.os = w.os
  tape : wr.tape = w.tape
  output : wr.output = w.output
  size : wr.heap.size = w.heap.size
  block : ∀ k, k ≠ g → k ≠ h → wr.heap[k]? = w.heap[k]?
  ru : RowGe wr g L (fun i => .int .u32 (f i : Nat))
  rq : RowGe wr h M (fun i => .int .u32 (q i : Nat))
theorem Two.congr {g h : Nat} {w wr : World} {L M : Nat} {f q f' q' : Nat → Nat} (t : Two g h w wr L M f q) (e : ∀ i, i < L → f i = f' i) (e' : ∀ i, i < M → q i = q' i) : Two g h w wr L M f' q' :=
  ⟨t.os, t.tape, t.output, t.size, t.block, t.ru.congr (fun i hi => by rw [e i hi]), t.rq.congr (fun i hi => by rw [e' i hi])⟩
theorem Two.drewN {g h : Nat} {w wr : World} {L M : Nat} {f q : Nat → Nat} (t : Two g h w wr L M f q) (n : Nat) : Two g h w (wr.drewN n) L M f q :=
  ⟨t.os, t.tape, t.output, t.size, t.block, t.ru, t.rq⟩
theorem Two.old {g h : Nat} {w wr : World} {L M : Nat} {f q : Nat → Nat} (t : Two g h w wr L M f q) {p : Addr} {u : Value} (h1 : p.block ≠ g) (h2 : p.block ≠ h) (hc : w.cell? p = some u) : wr.cell? p = some u := (World.cell?_of_block (w := w) (t.block p.block h1 h2)).trans hc
theorem Two.below {g h b : Nat} {w wr : World} {L M : Nat} {f q : Nat → Nat} (t : Two g h w wr L M f q) (h1 : b ≤ g) (h2 : b ≤ h) : Below b w wr := ⟨t.os, t.tape, t.output, by rw [t.size]; exact Nat.le_refl _, fun k hk => t.block k (by omega) (by omega)⟩
/-- what the guess has to know -/
structure Gs (R V v1 v2 t r3 n : Nat) : Prop where
  n2 : 2 ≤ n
  v1p : 1 ≤ v1
  v1h : B ≤ 2 * v1
  v1B : v1 < B
  v2B : v2 < B
  r3B : r3 < B
  V0 : 0 < V
  Vlo : (v1 * B + v2) * B ^ (n - 2) ≤ V
  Vhi : V < (v1 * B + v2 + 1) * B ^ (n - 2)
  Rlo : (t * B + r3) * B ^ (n - 2) ≤ R
  Rhi : R < (t * B + r3 + 1) * B ^ (n - 2)
  V1 : v1 * B ^ (n - 1) ≤ V
  R1 : R < (t + 1) * B ^ (n - 1)
  tle : t ≤ v1 * B + v2
  RV : R < V * B
  tB : t < B * B
theorem Gs.start {R V v1 v2 t r3 n : Nat} (h : Gs R V v1 v2 t r3 n) : Kn R V v1 t (t / v1) (t % v1) := kn_start (by have := h.n2; omega) h.v1p h.v1h h.v2B h.V1 h.R1 h.tle
theorem Gs.less {R V v1 v2 t r3 n d r : Nat} (h : Gs R V v1 v2 t r3 n) (k : Kn R V v1 t d r) (hc : B ≤ d ∨ r * B + r3 < d * v2) : Kn R V v1 t (d - 1) (r + v1) ∧ 1 ≤ d := k.less h.n2 h.Vlo h.Rhi h.RV hc
theorem Gs.done {R V v1 v2 t r3 n d r : Nat} (h : Gs R V v1 v2 t r3 n) (k : Kn R V v1 t d r) (hd : d < B) (hc : d * v2 ≤ r * B + r3 ∨ B ≤ r) : R / V ≤ d ∧ d ≤ R / V + 1 := k.done h.n2 h.v1p h.v2B h.V0 h.Vhi h.Rlo hd hc
end Go.Proofs.YtlicjplmcepbnaaGreatDoor
/- The document's long division: the words of its loops, and what the rows come to. -/
namespace Go.Proofs.YtlicjplmcepbnaaGreatDoor
set_option linter.unusedVariables false
set_option linter.unusedSimpArgs false
open Go.RowKit

end Go.Proofs.YtlicjplmcepbnaaGreatDoor
/- The document's long division: the way to the loop. -/
namespace Go.Proofs.YtlicjplmcepbnaaGreatDoor
set_option linter.unusedVariables false
set_option linter.unusedSimpArgs false
open Go.RowKit

end Go.Proofs.YtlicjplmcepbnaaGreatDoor
/- The document's long division: how far the numbers are shifted. -/
namespace Go.Proofs.YtlicjplmcepbnaaGreatDoor
set_option linter.unusedVariables false
set_option linter.unusedSimpArgs false

end Go.Proofs.YtlicjplmcepbnaaGreatDoor
/- The document's division: the short ways, and all of it. -/
namespace Go.Proofs.YtlicjplmcepbnaaGreatDoor
set_option linter.unusedVariables false
set_option linter.unusedSimpArgs false
open Go.RowKit

end Go.Proofs.YtlicjplmcepbnaaGreatDoor
/- The document's square root of a whole number. -/
namespace Go.Proofs.YtlicjplmcepbnaaGreatDoor
set_option linter.unusedVariables false
set_option linter.unusedSimpArgs false
open Go.RowKit

theorem cmp_eq {x y : Nat} : (cmpI (x : Int) (y : Int) == 0) = decide (x = y) := by
  unfold cmpI
  by_cases h : x = y
  · subst h; simp
  · rw [decide_eq_false h]
    by_cases h2 : (x : Int) < (y : Int)
    · rw [if_pos h2]; rfl
    · rw [if_neg h2, if_pos (by omega)]; rfl
end Go.Proofs.YtlicjplmcepbnaaGreatDoor
/- The document's one and Less. -/
namespace Go.Proofs.YtlicjplmcepbnaaGreatDoor
set_option linter.unusedVariables false
set_option linter.unusedSimpArgs false
open Go.RowKit

theorem cn_odd {s : Bool} {x : Nat} {e : Int} (h : x % 2 = 1) : cn s x e = (s, x, e) := by
  unfold cn
  rw [if_neg (by omega), tz_odd h, Nat.pow_zero, Nat.div_one]
  simp
end Go.Proofs.YtlicjplmcepbnaaGreatDoor
/- The document's Over: the quotient, cut to a place. -/
namespace Go.Proofs.YtlicjplmcepbnaaGreatDoor
set_option linter.unusedVariables false
set_option linter.unusedSimpArgs false
open Go.RowKit

end Go.Proofs.YtlicjplmcepbnaaGreatDoor
/- The document's Over, joined. -/
namespace Go.Proofs.YtlicjplmcepbnaaGreatDoor
set_option linter.unusedVariables false
set_option linter.unusedSimpArgs false
open Go.RowKit

end Go.Proofs.YtlicjplmcepbnaaGreatDoor
/- The document's RootOf: the root, cut to a place. -/
namespace Go.Proofs.YtlicjplmcepbnaaGreatDoor
set_option linter.unusedVariables false
set_option linter.unusedSimpArgs false
open Go.RowKit

/-- nought can be handed on -/
theorem NC.nought (w : World) (base : Nat) (s : Bool) (e : Int) : NC w base (.agg #[.bool false, .slice none 0 0, .int .i64 0]) s 0 e := by
  refine ⟨none, 0, ?_, ?_, fun ad e => by cases e⟩
  · unfold cn; rw [if_pos rfl, dlen_zero]
  · unfold cn; rw [if_pos rfl]
    exact ⟨fun _ => .inr ⟨rfl, rfl⟩, ⟨0, 0, fun h => by rw [dlen_zero] at h; omega, fun i hi => by rw [dlen_zero] at hi; omega⟩, by rw [dlen_zero]; exact Nat.le_refl _, by rw [dlen_zero]; omega⟩
end Go.Proofs.YtlicjplmcepbnaaGreatDoor
/- The document's Cut: a number, cut to a place. -/
namespace Go.Proofs.YtlicjplmcepbnaaGreatDoor
set_option linter.unusedVariables false
set_option linter.unusedSimpArgs false
open Go.RowKit

end Go.Proofs.YtlicjplmcepbnaaGreatDoor
/- The document's Quo. -/
namespace Go.Proofs.YtlicjplmcepbnaaGreatDoor
set_option linter.unusedVariables false
set_option linter.unusedSimpArgs false
open Go.RowKit

end Go.Proofs.YtlicjplmcepbnaaGreatDoor
/- The document's Quo, joined. -/
namespace Go.Proofs.YtlicjplmcepbnaaGreatDoor
set_option linter.unusedVariables false
set_option linter.unusedSimpArgs false
open Go.RowKit

end Go.Proofs.YtlicjplmcepbnaaGreatDoor
/- The document's Floor. -/
namespace Go.Proofs.YtlicjplmcepbnaaGreatDoor
set_option linter.unusedVariables false
set_option linter.unusedSimpArgs false
open Go.RowKit

end Go.Proofs.YtlicjplmcepbnaaGreatDoor
/- The document's Floor, joined. -/
namespace Go.Proofs.YtlicjplmcepbnaaGreatDoor
set_option linter.unusedVariables false
set_option linter.unusedSimpArgs false
open Go.RowKit

end Go.Proofs.YtlicjplmcepbnaaGreatDoor
/- The program's Floor. -/
namespace Go.Proofs.YtlicjplmcepbnaaGreatDoor
set_option linter.unusedVariables false
set_option linter.unusedSimpArgs false
open Go.RowKit

end Go.Proofs.YtlicjplmcepbnaaGreatDoor
/- The document's Root. -/
namespace Go.Proofs.YtlicjplmcepbnaaGreatDoor
set_option linter.unusedVariables false
set_option linter.unusedSimpArgs false
open Go.RowKit

end Go.Proofs.YtlicjplmcepbnaaGreatDoor
/- The document's Root, joined. -/
namespace Go.Proofs.YtlicjplmcepbnaaGreatDoor
set_option linter.unusedVariables false
set_option linter.unusedSimpArgs false
open Go.RowKit

end Go.Proofs.YtlicjplmcepbnaaGreatDoor
/- The program's Floor, Quo, Root, refused. -/
namespace Go.Proofs.YtlicjplmcepbnaaGreatDoor
set_option linter.unusedVariables false
set_option linter.unusedSimpArgs false
open Go.RowKit

end Go.Proofs.YtlicjplmcepbnaaGreatDoor
/- DyadCuts: the law's walk. -/
namespace Go.Proofs.YtlicjplmcepbnaaGreatDoor
set_option linter.unusedVariables false
set_option linter.unusedSimpArgs false
open Go.RowKit

end Go.Proofs.YtlicjplmcepbnaaGreatDoor
/- DyadSums. -/
namespace Go.Proofs.YtlicjplmcepbnaaGreatDoor
set_option linter.unusedVariables false
set_option linter.unusedSimpArgs false
open Go.RowKit

/-- digits that give laid -/
def PI (s : Bool) (n z : Nat) (e : Int) (W : World) (A : Value) : Prop := ∃ v b, A = .agg #[.bool s, v, .int .i64 e] ∧ Dn W b v n z
theorem Ans.len {V : Bool} {t : Bool × Nat × Int} (h : V = true → dlen t.2.1 ≤ 35184372088832) : dlen (Ans V t).2.1 ≤ 35184372088832 := by
  unfold Ans
  cases V
  · rw [if_neg (by simp)]; show dlen 0 ≤ _; rw [dlen_zero]; omega
  · rw [if_pos rfl]; exact h rfl
end Go.Proofs.YtlicjplmcepbnaaGreatDoor
/- DyadCuts. -/
namespace Go.Proofs.YtlicjplmcepbnaaGreatDoor
set_option linter.unusedVariables false
set_option linter.unusedSimpArgs false
open Go.RowKit

end Go.Proofs.YtlicjplmcepbnaaGreatDoor
/- DyadOrder: the law's walk. -/
namespace Go.Proofs.YtlicjplmcepbnaaGreatDoor
set_option linter.unusedVariables false
set_option linter.unusedSimpArgs false
open Go.RowKit

end Go.Proofs.YtlicjplmcepbnaaGreatDoor
/- The program's Sqrt. -/
namespace Go.Proofs.YtlicjplmcepbnaaGreatDoor
set_option linter.unusedVariables false
set_option linter.unusedSimpArgs false
open Go.RowKit

set_option maxHeartbeats 4000000 in
set_option maxRecDepth 200000 in
theorem psqrt_e (ua : Option Addr) (un uc x k0 b : Nat) (ea mode h2 : Int) (w : World) (hT : Tab32 w) (h1 : Is w (.slice ua un uc) x) (hx : dlen x ≤ 3000) (he1 : -65536 ≤ ea) (he2 : ea ≤ 65536) (hm : mode = 1 ∨ mode = 2 ∨ mode = 3) (hb : bl x = b) (hb2 : b ≤ 96000) (hk0 : max 0 (128 - (b : Int)) = (k0 : Int)) (hk1 : k0 ≤ 128) (hod : ((ea - (k0 : Int)).tmod 2 != 0) = false) (hh : (ea - (k0 : Int)).tdiv 2 = h2) (hh1 : -40000 ≤ h2) (hh2 : h2 ≤ 40000)
    (k43 : ∀ W g, Below w.heap.size w W → W.heap[g]? = some (.cells #[.bool false, .slice ua un uc, .int .i64 ea] 65 (0, 0)) → Calls Tryz.prog 71 #[.slice (some ⟨g, 0, none⟩) 1 1] W fun r w' => r = .returned (.bool true) ∧ Below W.heap.size W w') :
    Calls Tryz.prog 53 #[.agg #[.bool false, .slice ua un uc, .int .i64 ea], .int .i64 mode] w fun r w' => ∃ q, (q * q ≤ x * 2 ^ k0 ∧ x * 2 ^ k0 < (q + 1) * (q + 1)) ∧ r = .returned (.tuple #[.float .f64 (tfF false (decide (q * q = x * 2 ^ k0)) q h2 mode), .int .i64 0]) ∧ Below w.heap.size w w' := by
  obtain ⟨W, hW⟩ : ∃ W, W = w.alloc (.cells #[.bool false, .slice ua un uc, .int .i64 ea] 65) := ⟨_, rfl⟩
  have hBW : Below w.heap.size w W := by rw [hW]; exact (Below.refl _ _).alloc (Nat.le_refl _) _
  have hbA : W.heap[w.heap.size]? = some (.cells #[.bool false, .slice ua un uc, .int .i64 ea] 65 (0, 0)) := by rw [hW]; exact heap_alloc_new _ _
  have hsz : W.heap.size = w.heap.size + 1 := by rw [hW]; simp
  have k1 := k43 (W.alloc (.cells #[.bool false, .slice ua un uc, .int .i64 ea] 65)) (w.heap.size + 1) (hBW.alloc hBW.size _) (by rw [← hsz]; exact heap_alloc_new _ _)
  have HX : Hid (Below w.heap.size w W ∧ W.heap.size = w.heap.size + 1 ∧ W.heap[w.heap.size]? = some (.cells #[.bool false, .slice ua un uc, .int .i64 ea] 65 (0, 0))) := ⟨hBW, hsz, hbA⟩
  have HT : Hid (Tab32 w ∧ Is w (.slice ua un uc) x ∧ dlen x ≤ 3000) := ⟨hT, h1, hx⟩
  have k48 := fun W => c48 mode hm W
  clear hBW hsz hbA k43 hT h1 hx
  go_enter Tryz.func53, Tryz.ntmps53
  go_wp2_with fail
  rw [← hW]
  clear hW
  refine k1.mono ?_
  rintro r w1 ⟨rfl, hb1⟩
  have HB1 : Hid (Below W.heap.size W w1) := ((Below.refl W.heap.size W).alloc (Nat.le_refl _) _).trans (hb1.mono (by simp))
  have HW1 : Hid (Below w.heap.size w w1) := HX.out.1.trans (HB1.out.mono HX.out.1.size)
  obtain ⟨⟨a0, a1, a2⟩, -⟩ := box_cells (box_later HX.out.2.2 HB1.out (by have := HX.out.2.1; omega))
  clear k1 hb1
  go_wp2_with fail
  refine (k48 w1).mono ?_
  rintro r w1' ⟨rfl, hw⟩
  replace hw := hw.symm
  subst hw
  clear k48
  have kl := c74 (HT.out.2.1.later HW1.out) (by have := HT.out.2.2; omega)
  rw [hb] at kl
  go_wp2_with fail
  refine kl.mono ?_
  rintro r w1' ⟨rfl, hw⟩
  replace hw := hw.symm
  subst hw
  clear kl
  have ks := c109 (HT.out.2.1.later HW1.out) k0 (by have := HT.out.2.2; omega) (by omega)
  go_wp2_with fail
  refine ks.mono ?_
  rintro r w2 ⟨v2, rfl, ho2, hb2'⟩
  have HB2 : Hid (Below W.heap.size W w2) := HB1.out.trans (hb2'.mono HB1.out.size)
  have hl : dlen (x * 2 ^ k0) ≤ 4000 := by have := shl_len (x := x) (k := k0) rfl; have := HT.out.2.2; omega
  have kr := c112 ho2.is (by omega)
  clear ks ho2 hb2' a0 a1 a2
  go_wp2_with fail
  refine kr.mono ?_
  rintro r w3 ⟨v3, q, rfl, ho3, hq1, hq2, hb3⟩
  have HB3 : Hid (Below W.heap.size W w3) := HB2.out.trans (hb3.mono HB2.out.size)
  have HQ : Hid (q * q ≤ x * 2 ^ k0 ∧ x * 2 ^ k0 < (q + 1) * (q + 1)) := ⟨hq1, hq2⟩
  obtain ⟨⟨a0, a1, a2⟩, -⟩ := box_cells (box_later HX.out.2.2 HB3.out (by have := HX.out.2.1; omega))
  obtain ⟨bx, hbx⟩ : ∃ bx : Bool, bx = decide (q * q = x * 2 ^ k0) := ⟨_, rfl⟩
  have kt := c110 (neg := false) (exact := bx) (e := h2) (mode := mode) (HT.out.1.later (HX.out.1.trans (HB3.out.mono HX.out.1.size))) ho3.is (Nat.le_trans (dlen_mono (Nat.le_trans (Nat.le_mul_self q) hq1)) (by omega)) (by omega) (by omega)
  rw [← hbx]
  have HBX : Hid (bx = decide (q * q = x * 2 ^ k0)) := hbx
  clear kr ho3 hb3 hq1 hq2 hbx hl
  go_wp2_with fail
  refine kt.mono ?_
  rintro r w4 ⟨rfl, hb4⟩
  have HB4 : Hid (Below W.heap.size W w4) := HB3.out.trans (hb4.mono HB3.out.size)
  clear kt hb4
  go_wp2
  refine bodyPost_ret (results_tmp2 rfl _ _ _) rfl ?_
  exact ⟨q, HQ.out, congrArg (fun b => Ending.returned (Value.tuple #[.float .f64 (tfF false b q h2 mode), .int .i64 0])) HBX.out, HX.out.1.trans (HB4.out.mono HX.out.1.size)⟩
set_option maxHeartbeats 4000000 in
set_option maxRecDepth 200000 in
theorem psqrt_o (ua : Option Addr) (un uc x k0 b : Nat) (ea mode h2 : Int) (w : World) (hT : Tab32 w) (h1 : Is w (.slice ua un uc) x) (hx : dlen x ≤ 3000) (he1 : -65536 ≤ ea) (he2 : ea ≤ 65536) (hm : mode = 1 ∨ mode = 2 ∨ mode = 3) (hb : bl x = b) (hb2 : b ≤ 96000) (hk0 : max 0 (128 - (b : Int)) = (k0 : Int)) (hk1 : k0 ≤ 128) (hod : ((ea - (k0 : Int)).tmod 2 != 0) = true) (hh : (ea - ((k0 : Int) + 1)).tdiv 2 = h2) (hh1 : -40000 ≤ h2) (hh2 : h2 ≤ 40000)
    (k43 : ∀ W g, Below w.heap.size w W → W.heap[g]? = some (.cells #[.bool false, .slice ua un uc, .int .i64 ea] 65 (0, 0)) → Calls Tryz.prog 71 #[.slice (some ⟨g, 0, none⟩) 1 1] W fun r w' => r = .returned (.bool true) ∧ Below W.heap.size W w') :
    Calls Tryz.prog 53 #[.agg #[.bool false, .slice ua un uc, .int .i64 ea], .int .i64 mode] w fun r w' => ∃ q, (q * q ≤ x * 2 ^ (k0 + 1) ∧ x * 2 ^ (k0 + 1) < (q + 1) * (q + 1)) ∧ r = .returned (.tuple #[.float .f64 (tfF false (decide (q * q = x * 2 ^ (k0 + 1))) q h2 mode), .int .i64 0]) ∧ Below w.heap.size w w' := by
  obtain ⟨W, hW⟩ : ∃ W, W = w.alloc (.cells #[.bool false, .slice ua un uc, .int .i64 ea] 65) := ⟨_, rfl⟩
  have hBW : Below w.heap.size w W := by rw [hW]; exact (Below.refl _ _).alloc (Nat.le_refl _) _
  have hbA : W.heap[w.heap.size]? = some (.cells #[.bool false, .slice ua un uc, .int .i64 ea] 65 (0, 0)) := by rw [hW]; exact heap_alloc_new _ _
  have hsz : W.heap.size = w.heap.size + 1 := by rw [hW]; simp
  have k1 := k43 (W.alloc (.cells #[.bool false, .slice ua un uc, .int .i64 ea] 65)) (w.heap.size + 1) (hBW.alloc hBW.size _) (by rw [← hsz]; exact heap_alloc_new _ _)
  have HX : Hid (Below w.heap.size w W ∧ W.heap.size = w.heap.size + 1 ∧ W.heap[w.heap.size]? = some (.cells #[.bool false, .slice ua un uc, .int .i64 ea] 65 (0, 0))) := ⟨hBW, hsz, hbA⟩
  have HT : Hid (Tab32 w ∧ Is w (.slice ua un uc) x ∧ dlen x ≤ 3000) := ⟨hT, h1, hx⟩
  have k48 := fun W => c48 mode hm W
  clear hBW hsz hbA k43 hT h1 hx
  go_enter Tryz.func53, Tryz.ntmps53
  go_wp2_with fail
  rw [← hW]
  clear hW
  refine k1.mono ?_
  rintro r w1 ⟨rfl, hb1⟩
  have HB1 : Hid (Below W.heap.size W w1) := ((Below.refl W.heap.size W).alloc (Nat.le_refl _) _).trans (hb1.mono (by simp))
  have HW1 : Hid (Below w.heap.size w w1) := HX.out.1.trans (HB1.out.mono HX.out.1.size)
  obtain ⟨⟨a0, a1, a2⟩, -⟩ := box_cells (box_later HX.out.2.2 HB1.out (by have := HX.out.2.1; omega))
  clear k1 hb1
  go_wp2_with fail
  refine (k48 w1).mono ?_
  rintro r w1' ⟨rfl, hw⟩
  replace hw := hw.symm
  subst hw
  clear k48
  have kl := c74 (HT.out.2.1.later HW1.out) (by have := HT.out.2.2; omega)
  rw [hb] at kl
  go_wp2_with fail
  refine kl.mono ?_
  rintro r w1' ⟨rfl, hw⟩
  replace hw := hw.symm
  subst hw
  clear kl
  have ks := c109 (HT.out.2.1.later HW1.out) (k0 + 1) (by have := HT.out.2.2; omega) (by omega)
  rw [show ((k0 + 1 : Nat) : Int) = (k0 : Int) + 1 by omega] at ks
  go_wp2_with fail
  refine ks.mono ?_
  rintro r w2 ⟨v2, rfl, ho2, hb2'⟩
  have HB2 : Hid (Below W.heap.size W w2) := HB1.out.trans (hb2'.mono HB1.out.size)
  have hl : dlen (x * 2 ^ (k0 + 1)) ≤ 4000 := by have := shl_len (x := x) (k := (k0 + 1)) rfl; have := HT.out.2.2; omega
  have kr := c112 ho2.is (by omega)
  clear ks ho2 hb2' a0 a1 a2
  go_wp2_with fail
  refine kr.mono ?_
  rintro r w3 ⟨v3, q, rfl, ho3, hq1, hq2, hb3⟩
  have HB3 : Hid (Below W.heap.size W w3) := HB2.out.trans (hb3.mono HB2.out.size)
  have HQ : Hid (q * q ≤ x * 2 ^ (k0 + 1) ∧ x * 2 ^ (k0 + 1) < (q + 1) * (q + 1)) := ⟨hq1, hq2⟩
  obtain ⟨⟨a0, a1, a2⟩, -⟩ := box_cells (box_later HX.out.2.2 HB3.out (by have := HX.out.2.1; omega))
  obtain ⟨bx, hbx⟩ : ∃ bx : Bool, bx = decide (q * q = x * 2 ^ (k0 + 1)) := ⟨_, rfl⟩
  have kt := c110 (neg := false) (exact := bx) (e := h2) (mode := mode) (HT.out.1.later (HX.out.1.trans (HB3.out.mono HX.out.1.size))) ho3.is (Nat.le_trans (dlen_mono (Nat.le_trans (Nat.le_mul_self q) hq1)) (by omega)) (by omega) (by omega)
  rw [← hbx]
  have HBX : Hid (bx = decide (q * q = x * 2 ^ (k0 + 1))) := hbx
  clear kr ho3 hb3 hq1 hq2 hbx hl
  go_wp2_with fail
  refine kt.mono ?_
  rintro r w4 ⟨rfl, hb4⟩
  have HB4 : Hid (Below W.heap.size W w4) := HB3.out.trans (hb4.mono HB3.out.size)
  clear kt hb4
  go_wp2
  refine bodyPost_ret (results_tmp2 rfl _ _ _) rfl ?_
  exact ⟨q, HQ.out, congrArg (fun b => Ending.returned (Value.tuple #[.float .f64 (tfF false b q h2 mode), .int .i64 0])) HBX.out, HX.out.1.trans (HB4.out.mono HX.out.1.size)⟩
end Go.Proofs.YtlicjplmcepbnaaGreatDoor
/- The program's Ratio. -/
namespace Go.Proofs.YtlicjplmcepbnaaGreatDoor
set_option linter.unusedVariables false
set_option linter.unusedSimpArgs false
open Go.RowKit

set_option maxHeartbeats 4000000 in
set_option maxRecDepth 200000 in
theorem pratio_1 (na nb : Bool) (ua va : Option Addr) (un uc vn vc x y k bx by' : Nat) (ea eb mode : Int) (sg : Bool) (w : World) (hsg : Hid ((!(na == nb)) = sg)) (hT : Tab32 w) (h1 : Is w (.slice ua un uc) x) (h2 : Is w (.slice va vn vc) y) (hx : dlen x ≤ 3000) (hy : dlen y ≤ 3000) (hy0 : y ≠ 0) (he1 : -65536 ≤ ea) (he2 : ea ≤ 65536) (he3 : -65536 ≤ eb) (he4 : eb ≤ 65536) (hm : mode = 1 ∨ mode = 2 ∨ mode = 3)
    (hbx : bl x = bx) (hby : bl y = by') (hbx2 : bx ≤ 96000) (hby2 : by' ≤ 96000) (hk : max 0 (64 + (by' : Int) - (bx : Int)) = (k : Int)) (hk2 : k ≤ 100000) (hn0 : ((un : Int) == 0) = false) (hn1 : ((vn : Int) == 0) = false)
    (k67 : ∀ W g, Below w.heap.size w W → W.heap[g]? = some (.cells #[.bool na, .slice ua un uc, .int .i64 ea, .bool nb, .slice va vn vc, .int .i64 eb] 65 (0, 0)) → Calls Tryz.prog 71 #[.slice (some ⟨g, 0, none⟩) 2 2] W fun r w' => r = .returned (.bool true) ∧ Below W.heap.size W w') :
    Calls Tryz.prog 52 #[.agg #[.bool na, .slice ua un uc, .int .i64 ea], .agg #[.bool nb, .slice va vn vc, .int .i64 eb], .int .i64 mode] w fun r w' => r = .returned (.tuple #[.float .f64 (tfF sg (decide (x * 2 ^ k % y = 0)) (x * 2 ^ k / y) (ea - eb - k) mode), .int .i64 0]) ∧ Below w.heap.size w w' := by
  obtain ⟨W, hW⟩ : ∃ W, W = (w.alloc (.cells #[.bool na, .slice ua un uc, .int .i64 ea] 65)).alloc (.cells #[.bool nb, .slice va vn vc, .int .i64 eb] 65) := ⟨_, rfl⟩
  have hBW : Below w.heap.size w W := by rw [hW]; exact ((Below.refl _ _).alloc (Nat.le_refl _) _).alloc (by simp) _
  have hbA : W.heap[w.heap.size]? = some (.cells #[.bool na, .slice ua un uc, .int .i64 ea] 65 (0, 0)) := by
    rw [hW, Below.heap_alloc _ _ _ (by simp)]; exact heap_alloc_new _ _
  have hbB : W.heap[w.heap.size + 1]? = some (.cells #[.bool nb, .slice va vn vc, .int .i64 eb] 65 (0, 0)) := by
    have := heap_alloc_new (w.alloc (.cells #[.bool na, .slice ua un uc, .int .i64 ea] 65)) (.cells #[.bool nb, .slice va vn vc, .int .i64 eb] 65)
    rw [hW]; simpa using this
  have hsz : W.heap.size = w.heap.size + 1 + 1 := by rw [hW]; simp
  have k1 := k67 (W.alloc (.cells #[.bool na, .slice ua un uc, .int .i64 ea, .bool nb, .slice va vn vc, .int .i64 eb] 65)) (w.heap.size + 1 + 1) (hBW.alloc hBW.size _) (by rw [← hsz]; exact heap_alloc_new _ _)
  have HX : Hid (Below w.heap.size w W ∧ W.heap.size = w.heap.size + 1 + 1 ∧ W.heap[w.heap.size]? = some (.cells #[.bool na, .slice ua un uc, .int .i64 ea] 65 (0, 0)) ∧ W.heap[w.heap.size + 1]? = some (.cells #[.bool nb, .slice va vn vc, .int .i64 eb] 65 (0, 0))) := ⟨hBW, hsz, hbA, hbB⟩
  have HT : Hid (Tab32 w ∧ Is w (.slice ua un uc) x ∧ dlen x ≤ 3000 ∧ Is w (.slice va vn vc) y ∧ dlen y ≤ 3000 ∧ y ≠ 0) := ⟨hT, h1, hx, h2, hy, hy0⟩
  have k48 := fun W => c48 mode hm W
  clear hBW hsz hbA hbB k67 hT h1 hx h2 hy hy0
  go_enter Tryz.func52, Tryz.ntmps52
  go_wp2_with fail
  rw [← hW]
  clear hW
  refine k1.mono ?_
  rintro r w1 ⟨rfl, hb1⟩
  have HB1 : Hid (Below W.heap.size W w1) := ((Below.refl W.heap.size W).alloc (Nat.le_refl _) _).trans (hb1.mono (by simp))
  have HW1 : Hid (Below w.heap.size w w1) := HX.out.1.trans (HB1.out.mono HX.out.1.size)
  obtain ⟨⟨a0, a1, a2⟩, -⟩ := box_cells (box_later HX.out.2.2.1 HB1.out (by have := HX.out.2.1; omega))
  obtain ⟨⟨b0, b1, b2⟩, -⟩ := box_cells (box_later HX.out.2.2.2 HB1.out (by have := HX.out.2.1; omega))
  clear k1 hb1
  go_wp2_with fail
  refine (k48 w1).mono ?_
  rintro r w1' ⟨rfl, hw⟩
  replace hw := hw.symm
  subst hw
  clear k48
  have kla : ∀ d, Calls Tryz.prog 77 #[.slice ua un uc] (w1.drewN d) fun e w' => e = .returned (.int .i64 (bx : Nat)) ∧ w' = w1.drewN d := fun d => by
    have := c74 (w := w1.drewN d) (HT.out.2.1.later (HW1.out.trans ⟨rfl, rfl, rfl, Nat.le_refl _, fun _ _ => rfl⟩)) (by have := HT.out.2.2; omega)
    rw [hbx] at this; exact this
  have klb : ∀ d, Calls Tryz.prog 77 #[.slice va vn vc] (w1.drewN d) fun e w' => e = .returned (.int .i64 (by' : Nat)) ∧ w' = w1.drewN d := fun d => by
    have := c74 (w := w1.drewN d) (HT.out.2.2.2.1.later (HW1.out.trans ⟨rfl, rfl, rfl, Nat.le_refl _, fun _ _ => rfl⟩)) (by have := HT.out.2.2; omega)
    rw [hby] at this; exact this
  go_wp2
  go_quiet (first | (go_at_call 77; first | (with_reducible refine Calls.quiet_of_same (klb _)) | (with_reducible refine Calls.quiet_of_same (kla _))))
  have HB2 : Hid (Below W.heap.size W (w1.drewN nq)) := HB1.out.trans ⟨rfl, rfl, rfl, Nat.le_refl _, fun _ _ => rfl⟩
  obtain ⟨w2, hw2⟩ : ∃ w2, w2 = w1.drewN nq := ⟨_, rfl⟩
  rw [← hw2] at HB2 ⊢
  clear hw2 kla klb a0 a1 a2 b0 b1 b2
  have HK : Hid (∀ w', Below w2.heap.size w2 w' → ((w'.cell? ⟨w.heap.size, 0, none⟩ = some (.bool na) ∧ w'.cell? ⟨w.heap.size, 1, none⟩ = some (.slice ua un uc) ∧ w'.cell? ⟨w.heap.size, 2, none⟩ = some (.int .i64 ea)) ∧ (w'.cell? ⟨w.heap.size + 1, 0, none⟩ = some (.bool nb) ∧ w'.cell? ⟨w.heap.size + 1, 1, none⟩ = some (.slice va vn vc) ∧ w'.cell? ⟨w.heap.size + 1, 2, none⟩ = some (.int .i64 eb)))) := fun w' hb => ⟨(box_cells (box_later HX.out.2.2.1 (HB2.out.trans (hb.mono HB2.out.size)) (by have := HX.out.2.1; omega))).1, (box_cells (box_later HX.out.2.2.2 (HB2.out.trans (hb.mono HB2.out.size)) (by have := HX.out.2.1; omega))).1⟩
  obtain ⟨⟨a0, a1, a2⟩, b0, b1, b2⟩ := HK.out w2 (Below.refl _ _)
  have hBR : Below w2.heap.size w2 w2.drew := (Below.refl _ _).drew
  have hl : dlen (x * 2 ^ k) ≤ 7000 := by have := shl_len (x := x) (k := k) rfl; have := HT.out.2.2; omega
  have HL : Hid (dlen (x * 2 ^ k) ≤ 7000) := hl
  have kS : ∀ w', Below w2.heap.size w2 w' → Calls Tryz.prog 79 #[.slice ua un uc, .int .i64 (k : Int)] w' fun e w'' => ∃ v, e = .returned v ∧ Hid (Is w'' v (x * 2 ^ k)) ∧ Below w2.heap.size w2 w'' := fun w' hb => (c109 (HT.out.2.1.later (HX.out.1.trans ((HB2.out.trans (hb.mono HB2.out.size)).mono HX.out.1.size))) k (by have := HT.out.2.2; omega) (by omega)).mono fun r w'' ⟨v, e1, e2, e3⟩ => ⟨v, e1, e2.is, hb.trans (e3.mono hb.size)⟩
  have kD : ∀ v w', Hid (Is w' v (x * 2 ^ k)) → Below w2.heap.size w2 w' → Calls Tryz.prog 78 #[v, .slice va vn vc] w' fun e w'' => ∃ q, e = .returned (.tuple #[q, .bool (decide (x * 2 ^ k % y = 0))]) ∧ Hid (Is w'' q (x * 2 ^ k / y)) ∧ Below w2.heap.size w2 w'' := fun v w' hI hb => (c100 hI.out (HT.out.2.2.2.1.later (HX.out.1.trans ((HB2.out.trans (hb.mono HB2.out.size)).mono HX.out.1.size))) (by have := HL.out; omega) (by have := HT.out.2.2.2.2; omega) HT.out.2.2.2.2.2).mono fun r w'' ⟨q, e1, e2, e3⟩ => ⟨q, e1, e2.is, hb.trans (e3.mono hb.size)⟩
  obtain ⟨xb, hxb⟩ : ∃ xb : Bool, xb = decide (x * 2 ^ k % y = 0) := ⟨_, rfl⟩
  rw [← hxb] at kD
  have HXB : Hid (xb = decide (x * 2 ^ k % y = 0)) := hxb
  clear hxb hl
  go_upto_region 8 with fail
  go_cut [9, 10] from 42 to 50 (fun q b wx => b = .bool xb ∧ Hid (Is wx q (x * 2 ^ k / y)) ∧ Hid (Below w2.heap.size w2 wx))
  case first =>
    go_region_held3 (fun w' => ((w'.cell? ⟨w.heap.size, 0, none⟩ = some (.bool na) ∧ w'.cell? ⟨w.heap.size, 1, none⟩ = some (.slice ua un uc) ∧ w'.cell? ⟨w.heap.size, 2, none⟩ = some (.int .i64 ea)) ∧ (w'.cell? ⟨w.heap.size + 1, 0, none⟩ = some (.bool nb) ∧ w'.cell? ⟨w.heap.size + 1, 1, none⟩ = some (.slice va vn vc) ∧ w'.cell? ⟨w.heap.size + 1, 2, none⟩ = some (.int .i64 eb)))) (first | (with_reducible assumption) | exact ⟨⟨a0, a1, a2⟩, b0, b1, b2⟩ | (refine HK.out _ ?_; with_reducible assumption) | go_keep)
      (first | (go_at_call 79; refine (kS _ (by first | (with_reducible assumption) | exact hBR)).mono ?_; rintro r w5 ⟨v5, rfl, hI5, hb5⟩) | (go_at_call 78; refine (kD _ _ hI5 (by with_reducible assumption)).mono ?_; rintro r w6 ⟨v6, rfl, hI6, hb6⟩))
    all_goals go_wp2_with fail
    all_goals go_meet
    all_goals exact ⟨rfl, hI6, hb6⟩
  case rest =>
    obtain ⟨rfl, hI, hB⟩ := hcut
    obtain ⟨w3, rfl⟩ : ∃ w3 : World, w3 = wc := ⟨_, rfl⟩
    have HB3 : Hid (Below W.heap.size W w3) := HB2.out.trans (hB.out.mono HB2.out.size)
    clear a0 a1 a2 b0 b1 b2 kS kD hBR
    obtain ⟨⟨a0, a1, a2⟩, b0, b1, b2⟩ := HK.out w3 hB.out
    have kt := c110 (neg := sg) (exact := xb) (e := ea - eb - k) (mode := mode) (HT.out.1.later (HX.out.1.trans (HB3.out.mono HX.out.1.size))) hI.out (Nat.le_trans (dlen_mono (Nat.div_le_self _ _)) (by have := HL.out; omega)) (by omega) (by omega)
    go_wp2_with fail
    rw [hsg.out]
    refine kt.mono ?_
    rintro r w4 ⟨rfl, hb4⟩
    have HB4 : Hid (Below W.heap.size W w4) := HB3.out.trans (hb4.mono HB3.out.size)
    clear kt hb4
    go_wp2
    refine bodyPost_ret (results_tmp2 rfl _ _ _) rfl ?_
    exact ⟨congrArg (fun b => Ending.returned (Value.tuple #[.float .f64 (tfF sg b (x * 2 ^ k / y) (ea - eb - k) mode), .int .i64 0])) HXB.out, HX.out.1.trans (HB4.out.mono HX.out.1.size)⟩
end Go.Proofs.YtlicjplmcepbnaaGreatDoor
/- The values of floats by their bodies, and how values are rounded: plain facts. -/
namespace Go.Proofs.YtlicjplmcepbnaaGreatDoor
set_option linter.unusedVariables false
set_option linter.unusedSimpArgs false

/-- the value of a float's body (its bits without the sign), in units of 2^-1074 -/
def bv (b : Nat) : Nat := if b < 4503599627370496 then b else (4503599627370496 + b % 4503599627370496) * 2 ^ (b / 4503599627370496 - 1)
theorem bv_at {j q : Nat} (h : (j = 0 ∧ q ≤ 9007199254740992) ∨ (4503599627370496 ≤ q ∧ q ≤ 9007199254740992)) : bv (j * 4503599627370496 + q) = q * 2 ^ j := by
  unfold bv
  by_cases h1 : j * 4503599627370496 + q < 4503599627370496
  · have hj : j = 0 := by omega
    subst hj
    rw [if_pos h1]; simp
  · rw [if_neg h1]
    by_cases h2 : q = 9007199254740992
    · subst h2
      rw [show (j * 4503599627370496 + 9007199254740992) % 4503599627370496 = 0 by omega, show (j * 4503599627370496 + 9007199254740992) / 4503599627370496 - 1 = j + 1 by omega, Nat.pow_succ]
      omega
    · have h3 : 4503599627370496 ≤ q := by omega
      rw [show (j * 4503599627370496 + q) % 4503599627370496 = q - 4503599627370496 by omega, show (j * 4503599627370496 + q) / 4503599627370496 - 1 = j by omega]
      rw [show 4503599627370496 + (q - 4503599627370496) = q by omega]
theorem bv_form (b : Nat) : ∃ j q, b = j * 4503599627370496 + q ∧ bv b = q * 2 ^ j ∧ bv (b + 1) = (q + 1) * 2 ^ j := by
  by_cases h : b < 4503599627370496
  · refine ⟨0, b, by omega, ?_, ?_⟩
    · have := bv_at (j := 0) (q := b) (.inl ⟨rfl, by omega⟩); simpa using this
    · have := bv_at (j := 0) (q := b + 1) (.inl ⟨rfl, by omega⟩); simpa using this
  · have e : b = (b / 4503599627370496 - 1) * 4503599627370496 + (4503599627370496 + b % 4503599627370496) := by omega
    refine ⟨_, _, e, ?_, ?_⟩
    · have := bv_at (j := b / 4503599627370496 - 1) (q := 4503599627370496 + b % 4503599627370496) (.inr ⟨by omega, by omega⟩)
      rw [← e] at this; exact this
    · have := bv_at (j := b / 4503599627370496 - 1) (q := 4503599627370496 + b % 4503599627370496 + 1) (.inr ⟨by omega, by omega⟩)
      rw [← Nat.add_assoc, ← e] at this; exact this
theorem bv_succ (b : Nat) : bv b < bv (b + 1) := by
  obtain ⟨j, q, -, h1, h2⟩ := bv_form b
  rw [h1, h2]
  exact Nat.mul_lt_mul_of_pos_right (by omega) (Nat.two_pow_pos j)
theorem bv_lt {a b : Nat} (h : a < b) : bv a < bv b := by
  induction b with
  | zero => omega
  | succ b ih =>
    by_cases h1 : a < b
    · exact Nat.lt_trans (ih h1) (bv_succ b)
    · obtain rfl : a = b := by omega
      exact bv_succ a
theorem bv_le {a b : Nat} (h : a ≤ b) : bv a ≤ bv b := by
  by_cases h1 : a = b
  · rw [h1]; exact Nat.le_refl _
  · exact Nat.le_of_lt (bv_lt (by omega))
theorem bv_inj_lt {a b : Nat} (h : bv a < bv b) : a < b := by
  apply Decidable.byContradiction
  intro h1
  have := bv_le (a := b) (b := a) (by omega)
  omega

/-- the number x·2^e (x' / 2^k units of the body's rung j) -/
structure IsR (x : Nat) (e : Int) (j X k : Nat) : Prop where
  eq : ∀ K : Nat, 0 ≤ e + K → 0 ≤ (j : Int) - 1074 - k + K → X * 2 ^ ((j : Int) - 1074 - k + K).toNat = x * 2 ^ (e + K).toNat
  lt : X / 2 ^ k < 9007199254740992
  ge : j = 0 ∨ 4503599627370496 ≤ X / 2 ^ k

/-- how a value A (in units u of 2^-1074) lies at the bodies b and b + 1, by what is left over -/
structure Lies (A u b : Nat) (r m : Nat) : Prop where
  lo : bv b * u ≤ A
  hi : A < bv (b + 1) * u
  ex : r = 0 ↔ A = bv b * u
  half_lt : 2 * r < m ↔ 2 * A < (bv b + bv (b + 1)) * u
  half_eq : 2 * r = m ↔ 2 * A = (bv b + bv (b + 1)) * u
theorem IsR.lies {x : Nat} {e : Int} {j X k : Nat} (h : IsR x e j X k) {K : Nat} (hK : 1074 ≤ K) (h1 : 0 ≤ e + K) (h2 : 0 ≤ (j : Int) - 1074 - k + K) :
    Lies (x * 2 ^ (e + K).toNat) (2 ^ (K - 1074)) (j * 4503599627370496 + X / 2 ^ k) (X % 2 ^ k) (2 ^ k) := by
  have eq := h.eq K h1 h2
  have hl := h.lt
  have hg := h.ge
  have b0 : bv (j * 4503599627370496 + X / 2 ^ k) = X / 2 ^ k * 2 ^ j := bv_at (j := j) (q := X / 2 ^ k) (by
    generalize X / 2 ^ k = q at *
    rcases hg with g | g
    · exact .inl ⟨g, by omega⟩
    · exact .inr ⟨g, by omega⟩)
  have b1 : bv (j * 4503599627370496 + X / 2 ^ k + 1) = (X / 2 ^ k + 1) * 2 ^ j := by
    have := bv_at (j := j) (q := X / 2 ^ k + 1) (by
      generalize X / 2 ^ k = q at *
      rcases hg with g | g
      · exact .inl ⟨g, by omega⟩
      · exact .inr ⟨by omega, by omega⟩)
    rw [← Nat.add_assoc] at this
    exact this
  have hu : 2 ^ j * 2 ^ (K - 1074) = 2 ^ k * 2 ^ ((j : Int) - 1074 - k + K).toNat := by
    rw [← Nat.pow_add, ← Nat.pow_add, show j + (K - 1074) = k + ((j : Int) - 1074 - k + K).toNat by omega]
  have hX : X = 2 ^ k * (X / 2 ^ k) + X % 2 ^ k := (Nat.div_add_mod X (2 ^ k)).symm
  have hr : X % 2 ^ k < 2 ^ k := Nat.mod_lt _ (Nat.two_pow_pos k)
  have hU : 0 < 2 ^ ((j : Int) - 1074 - k + K).toNat := Nat.two_pow_pos _
  rw [← eq]
  generalize 2 ^ ((j : Int) - 1074 - k + K).toNat = U at *
  generalize X / 2 ^ k = q at *
  generalize X % 2 ^ k = r at *
  generalize 2 ^ k = M at *
  generalize 2 ^ j = J at *
  generalize 2 ^ (K - 1074) = u at *
  have e0 : bv (j * 4503599627370496 + q) * u = q * (M * U) := by rw [b0, Nat.mul_assoc, hu]
  have e1 : bv (j * 4503599627370496 + q + 1) * u = (q + 1) * (M * U) := by rw [b1, Nat.mul_assoc, hu]
  have eA : X * U = q * (M * U) + r * U := by rw [hX, Nat.add_mul]; congr 1; rw [← Nat.mul_assoc, Nat.mul_comm q M]
  have e1' : (q + 1) * (M * U) = q * (M * U) + M * U := by rw [Nat.add_mul, Nat.one_mul]
  have hrU : r * U < M * U := Nat.mul_lt_mul_of_pos_right hr hU
  have hr0 : r = 0 ↔ r * U = 0 := by
    constructor
    · rintro rfl; simp
    · intro h; rcases Nat.mul_eq_zero.1 h with h | h
      · exact h
      · omega
  have hh1 : 2 * r < M ↔ 2 * (r * U) < M * U := by
    rw [← Nat.mul_assoc]
    exact (Nat.mul_lt_mul_right hU).symm
  have hh2 : 2 * r = M ↔ 2 * (r * U) = M * U := by
    rw [← Nat.mul_assoc]
    exact (Nat.mul_left_inj (by omega)).symm
  refine ⟨?_, ?_, ?_, ?_, ?_⟩
  · rw [e0, eA]; omega
  · rw [e1, eA, e1']; omega
  · rw [hr0, e0, eA]; omega
  · rw [hh1, Nat.add_mul, e0, e1, eA, e1']; omega
  · rw [hh2, Nat.add_mul, e0, e1, eA, e1']; omega

/-- a value rounded by a way: 0 inward, 1 to the nearest, 2 outward; no greatest one -/
structure Rounds (A u b way : Nat) : Prop where
  fl : ∃ b0, (bv b0 * u ≤ A ∧ A < bv (b0 + 1) * u) ∧ (way = 0 → b = b0) ∧ (way = 2 → b = if A = bv b0 * u then b0 else b0 + 1) ∧ (way = 1 → b = if 2 * A < (bv b0 + bv (b0 + 1)) * u then b0 else if 2 * A = (bv b0 + bv (b0 + 1)) * u then b0 + b0 % 2 else b0 + 1)
theorem floor_mono {A A' u b b' : Nat} (h : A ≤ A') (h1 : bv b * u ≤ A) (h2 : A' < bv (b' + 1) * u) : b ≤ b' := by
  have h3 : bv b * u < bv (b' + 1) * u := by omega
  have h4 : bv b < bv (b' + 1) := Nat.lt_of_mul_lt_mul_right h3
  have := bv_inj_lt h4
  omega
theorem Rounds.mono {A A' u b b' way : Nat} (hw : way = 0 ∨ way = 1 ∨ way = 2) (h : Rounds A u b way) (h' : Rounds A' u b' way) (hle : A ≤ A') : b ≤ b' := by
  obtain ⟨b0, ⟨l, g⟩, w0, w2, w1⟩ := h.fl
  obtain ⟨b1, ⟨l', g'⟩, w0', w2', w1'⟩ := h'.fl
  have hb := floor_mono hle l g'
  rcases hw with hw | hw | hw
  · rw [w0 hw, w0' hw]; exact hb
  · rw [w1 hw, w1' hw]
    by_cases he : b0 = b1
    · subst he
      split
      · split
        · exact Nat.le_refl _
        · split <;> omega
      · split
        · split
          · omega
          · split
            · exact Nat.le_refl _
            · have : b0 % 2 < 2 := Nat.mod_lt _ (by omega)
              omega
        · rw [if_neg (by omega), if_neg (by omega)]; exact Nat.le_refl _
    · have hlt : b0 < b1 := by omega
      have h1 : (if 2 * A < (bv b0 + bv (b0 + 1)) * u then b0 else if 2 * A = (bv b0 + bv (b0 + 1)) * u then b0 + b0 % 2 else b0 + 1) ≤ b0 + 1 := by
        split
        · omega
        · split <;> omega
      have h2 : b1 ≤ (if 2 * A' < (bv b1 + bv (b1 + 1)) * u then b1 else if 2 * A' = (bv b1 + bv (b1 + 1)) * u then b1 + b1 % 2 else b1 + 1) := by
        split
        · omega
        · split <;> omega
      omega
  · rw [w2 hw, w2' hw]
    by_cases he : b0 = b1
    · subst he
      split
      · split <;> omega
      · rw [if_neg (by omega)]; exact Nat.le_refl _
    · split
      · split <;> omega
      · split <;> omega
/-- inward is not above nearest, nor that above outward; inward and outward hold the value -/
theorem Rounds.order {A u b0 b1 b2 : Nat} (h0 : Rounds A u b0 0) (h1 : Rounds A u b1 1) (h2 : Rounds A u b2 2) : b0 ≤ b1 ∧ b1 ≤ b2 ∧ bv b0 * u ≤ A ∧ A ≤ bv b2 * u ∧ (b0 = b2 → A = bv b0 * u) := by
  obtain ⟨c0, ⟨l0, g0⟩, w0, -, -⟩ := h0.fl
  obtain ⟨c1, ⟨l1, g1⟩, -, -, w1⟩ := h1.fl
  obtain ⟨c2, ⟨l2, g2⟩, -, w2, -⟩ := h2.fl
  have e1 : c1 = c0 := by
    have := floor_mono (Nat.le_refl A) l1 g0
    have := floor_mono (Nat.le_refl A) l0 g1
    omega
  have e2 : c2 = c0 := by
    have := floor_mono (Nat.le_refl A) l2 g0
    have := floor_mono (Nat.le_refl A) l0 g2
    omega
  subst e1; subst e2
  have r0 := w0 rfl
  have r1 := w1 rfl
  have r2 := w2 rfl
  subst r0
  have hu : 0 < u := by
    apply Decidable.byContradiction
    intro h
    have : u = 0 := by omega
    subst this
    simp at g0
  have hs : bv b0 * u < bv (b0 + 1) * u := Nat.mul_lt_mul_of_pos_right (bv_succ b0) hu
  have hm : (bv b0 + bv (b0 + 1)) * u = bv b0 * u + bv (b0 + 1) * u := Nat.add_mul ..
  have hp : b0 % 2 < 2 := Nat.mod_lt _ (by omega)
  refine ⟨?_, ?_, l0, ?_, ?_⟩
  · rw [r1]
    split
    · omega
    · split <;> omega
  · rw [r1, r2]
    by_cases he : A = bv b0 * u
    · rw [if_pos he, if_pos (by omega)]; exact Nat.le_refl _
    · rw [if_neg he]
      split
      · omega
      · split <;> omega
  · rw [r2]
    split
    · omega
    · omega
  · intro h
    rw [r2] at h
    split at h
    · assumption
    · omega
end Go.Proofs.YtlicjplmcepbnaaGreatDoor
/- The program's rounding rounds: the body that Make makes of toFloat's digits. -/
namespace Go.Proofs.YtlicjplmcepbnaaGreatDoor
set_option linter.unusedVariables false
set_option linter.unusedSimpArgs false
open Go.RowKit Go.Fl64
open Ie

theorem or_one_half (y : Nat) : (y ||| 1) / 2 = y / 2 := by rw [Nat.or_div_two]; simp
theorem or_one_odd (y : Nat) : (y ||| 1) % 2 = 1 := Nat.or_mod_two_eq_one.2 (.inr rfl)
theorem or_one_eq (y : Nat) : y ||| 1 = 2 * (y / 2) + 1 := by
  have h1 := or_one_half y
  have h2 := or_one_odd y
  omega
/-- what was left out, told by an odd last digit, is rounded as it is -/
theorem rnd_sticky {x D k y m : Nat} {way : Int} (hk : 2 ≤ k) (hy : y = x / 2 ^ D) (hm : (x % 2 ^ D = 0 ∧ m = y) ∨ (x % 2 ^ D ≠ 0 ∧ m = 2 * (y / 2) + 1)) : rnd m k way = rnd x (D + k) way := by
  obtain ⟨h, rfl⟩ : ∃ h, k = h + 2 := ⟨k - 2, by omega⟩
  have e2 : (2 : Nat) ^ (h + 2) = 2 * (2 * 2 ^ h) := by rw [Nat.pow_succ, Nat.pow_succ]; omega
  have eD : (2 : Nat) ^ (D + (h + 2)) = 2 ^ D * 2 ^ (h + 2) := Nat.pow_add ..
  have hq : m / 2 ^ (h + 2) = x / 2 ^ (D + (h + 2)) := by
    rw [eD, ← Nat.div_div_eq_div_mul, ← hy]
    rcases hm with ⟨-, hm⟩ | ⟨-, hm⟩
    · rw [hm]
    · have hd : ∀ z, z / (2 * (2 * 2 ^ h)) = z / 2 / (2 * 2 ^ h) := fun z => (Nat.div_div_eq_div_mul ..).symm
      rw [e2, hd, hd, hm, show (2 * (y / 2) + 1) / 2 = y / 2 by omega]
  have hR : x % 2 ^ (D + (h + 2)) = (y % 2 ^ (h + 2)) * 2 ^ D + x % 2 ^ D := by
    rw [eD, Nat.mod_mul, hy, Nat.mul_comm]; omega
  have hM : (x % 2 ^ D = 0 ∧ m % 2 ^ (h + 2) = y % 2 ^ (h + 2)) ∨ (x % 2 ^ D ≠ 0 ∧ m % 2 ^ (h + 2) = 2 * (y % 2 ^ (h + 2) / 2) + 1) := by
    rcases hm with ⟨h1, hm⟩ | ⟨h1, hm⟩
    · exact .inl ⟨h1, by rw [hm]⟩
    · refine .inr ⟨h1, ?_⟩
      rw [hm, e2]
      generalize 2 ^ h = H
      rw [Nat.mod_mul, Nat.mod_mul (x := y), show (2 * (y / 2) + 1) % 2 = 1 by omega, show (2 * (y / 2) + 1) / 2 = y / 2 by omega]
      generalize y / 2 % (2 * H) = t
      omega
  have hrx : x % 2 ^ D < 2 ^ D := Nat.mod_lt _ (Nat.two_pow_pos D)
  have hp : 0 < 2 ^ D := Nat.two_pow_pos D
  have i0 : m % 2 ^ (h + 2) = 0 ↔ x % 2 ^ (D + (h + 2)) = 0 := by
    rw [hR]
    rcases hM with ⟨h1, h2⟩ | ⟨h1, h2⟩
    · rw [h1, h2, Nat.add_zero]
      constructor
      · intro e; rw [e, Nat.zero_mul]
      · intro e; rcases Nat.mul_eq_zero.1 e with e | e
        · exact e
        · omega
    · rw [h2]; omega
  have key : ∀ c : Nat, c = 2 * 2 ^ h → (2 ^ (h + 2) < 2 * (m % 2 ^ (h + 2)) ↔ 2 ^ (D + (h + 2)) < 2 * (x % 2 ^ (D + (h + 2)))) ∧ (2 * (m % 2 ^ (h + 2)) = 2 ^ (h + 2) ↔ 2 * (x % 2 ^ (D + (h + 2))) = 2 ^ (D + (h + 2))) := by
    intro c hc
    rw [hR, eD]
    have e3 : (2 : Nat) ^ (h + 2) = 2 * c := by rw [e2, hc]
    rw [e3] at hM ⊢
    have hc2 : c % 2 = 0 := by omega
    generalize y % (2 * c) = ry at *
    generalize m % (2 * c) = rm at *
    generalize x % 2 ^ D = rx at *
    generalize 2 ^ D = T at *
    have a1 : T * (2 * c) = 2 * (c * T) := by rw [Nat.mul_comm T, Nat.mul_assoc]
    rw [a1]
    rcases hM with ⟨h1, h2⟩ | ⟨h1, h2⟩
    · subst h1
      rw [h2, Nat.add_zero]
      constructor
      · constructor
        · intro g; have := Nat.mul_lt_mul_of_pos_right (show c < ry by omega) hp; omega
        · intro g; have : c * T < ry * T := by omega
          have := Nat.lt_of_mul_lt_mul_right this; omega
      · constructor
        · intro g; rw [show ry = c by omega]
        · intro g; have := Nat.eq_of_mul_eq_mul_right hp (show ry * T = c * T by omega); omega
    · have hlt : ry < c → ry * T + rx < c * T := by
        intro g
        have := Nat.mul_le_mul_right T (show ry + 1 ≤ c by omega)
        rw [Nat.add_mul, Nat.one_mul] at this
        omega
      have hge : c ≤ ry → c * T < ry * T + rx := by
        intro g
        have := Nat.mul_le_mul_right T g
        omega
      by_cases g : ry < c
      · have a2 := hlt g
        have a3 : rm < c := by omega
        clear hlt hge
        refine ⟨⟨fun g2 => ?_, fun g2 => ?_⟩, ⟨fun g2 => ?_, fun g2 => ?_⟩⟩
        · omega
        · omega
        · omega
        · omega
      · have a2 := hge (by omega)
        have a3 : c < rm := by omega
        clear hlt hge
        refine ⟨⟨fun g2 => ?_, fun g2 => ?_⟩, ⟨fun g2 => ?_, fun g2 => ?_⟩⟩
        · omega
        · omega
        · omega
        · omega
  have k1 := key _ rfl
  unfold rnd
  have hrup : Ie.rup m (h + 2) way = Ie.rup x (D + (h + 2)) way := by
    unfold Ie.rup
    rw [hq]
    simp only [k1.1, k1.2, ne_eq, i0]
  rw [hrup, hq]
theorem tz_iff {x n : Nat} (h0 : x ≠ 0) : tz x < n ↔ x % 2 ^ n ≠ 0 := by
  obtain ⟨h1, h2⟩ := tz_spec x x (Nat.le_refl _) h0
  constructor
  · intro hlt he
    have hd : 2 ^ (tz x + 1) ∣ x := Nat.dvd_trans (Nat.pow_dvd_pow 2 (by omega)) (Nat.dvd_of_mod_eq_zero he)
    obtain ⟨c, hc⟩ := hd
    have h3 : x / 2 ^ tz x = 2 * c := by
      rw [Nat.pow_succ, Nat.mul_assoc] at hc
      exact Nat.div_eq_of_eq_mul_right (Nat.two_pow_pos _) hc
    omega
  · intro hne
    apply Decidable.byContradiction
    intro hge
    apply hne
    have : 2 ^ n ∣ x := by rw [← h1]; exact Nat.dvd_trans (Nat.pow_dvd_pow 2 (by omega)) (Nat.dvd_mul_right _ _)
    exact Nat.mod_eq_zero_of_dvd this
theorem raw_of {x : Nat} {e : Int} {X m j k k1 : Nat} {s P : Int} {e' : Int} (hs : s = e' - (nz m : Int)) (hP : P = pl m e') (hk1 : (k1 : Int) = P - s) (hj : (j : Int) = P + 1074) (hr : ∀ way, rnd (tp m) k1 way = rnd X k way) (way : Int) : raw m e' way = ((j * 4503599627370496 + rnd X k way : Nat) : Int) := by
  unfold raw
  rw [← hP, ← hs, show (P - s).toNat = k1 by omega, hr]
  omega
/-- Make's body of a number is what its value is rounded to -/
theorem raw_is {x : Nat} {e : Int} (h0 : x ≠ 0) : ∃ j X k, IsR x e j X k ∧ (∀ way, raw (tfM true x) (e + (tfD x : Int)) way = ((j * 4503599627370496 + rnd X k way : Nat) : Int)) ∧ (k : Int) ≤ j + 1074 + (if e < 0 then -e else 0) + 64 ∧ -64 + min e (-1074) ≤ (j : Int) - 1074 - k := by
  by_cases hD : bl x ≤ 64
  · have eD : tfD x = 0 := by unfold tfD; omega
    have eM : tfM true x = x := by unfold tfM; rw [eD]; simp
    rw [eM, eD]
    have hx64 : x < 18446744073709551616 := (bl_le x 64).1 hD
    obtain ⟨n1, n2, n3⟩ := nz_facts x hx64 h0
    obtain ⟨P, hP⟩ : ∃ P, P = pl x (e + ((0 : Nat) : Int)) := ⟨_, rfl⟩
    have hPl := hP
    unfold pl at hPl
    have hPc : (P = -1074 ∧ e - nz x + 11 < -1074) ∨ (P = e - nz x + 11 ∧ -1074 ≤ P) := by
      split at hPl
      · exact .inl ⟨hPl, by omega⟩
      · exact .inr ⟨by omega, by omega⟩
    refine ⟨(P + 1074).toNat, tp x, (P - (e - nz x)).toNat, ⟨?_, ?_, ?_⟩, fun way => raw_of (x := x) (e := e) (m := x) (s := e - nz x) (P := P) (k1 := (P - (e - nz x)).toNat) (by omega) hP (by omega) (by omega) (fun _ => rfl) way, ?_, ?_⟩
    · intro K hK1 hK2
      unfold tp
      rw [Nat.mul_assoc, ← Nat.pow_add]
      congr 2
      omega
    · have : 2 ^ 11 ≤ 2 ^ (P - (e - nz x)).toNat := Nat.pow_le_pow_right (by omega) (by omega)
      refine Nat.div_lt_of_lt_mul ?_
      have : 2 ^ 11 * 9007199254740992 ≤ 2 ^ (P - (e - nz x)).toNat * 9007199254740992 := Nat.mul_le_mul_right _ this
      omega
    · rcases hPc with h | h
      · exact .inl (by omega)
      · refine .inr ?_
        rw [show (P - (e - nz x)).toNat = 11 by omega]
        omega
    · split <;> omega
    · omega
  · have eD : bl x = tfD x + 64 := by unfold tfD; omega
    obtain ⟨D, hDD⟩ : ∃ D, D = tfD x := ⟨_, rfl⟩
    rw [← hDD] at eD ⊢
    have hx1 : x < 2 ^ (D + 64) := by rw [← eD]; exact lt_bl x
    have hx2 : 2 ^ (D + 63) ≤ x := by have := le_bl h0; rw [eD] at this; exact this
    have hp : 0 < 2 ^ D := Nat.two_pow_pos D
    obtain ⟨y, hy⟩ : ∃ y, y = x / 2 ^ D := ⟨_, rfl⟩
    have hy1 : y < 18446744073709551616 := by rw [hy]; refine Nat.div_lt_of_lt_mul ?_; rw [Nat.pow_add] at hx1; exact hx1
    have hy2 : 9223372036854775808 ≤ y := by rw [hy, Nat.le_div_iff_mul_le hp, Nat.mul_comm]; rw [Nat.pow_add] at hx2; exact hx2
    have hm : (x % 2 ^ D = 0 ∧ tfM true x = y) ∨ (x % 2 ^ D ≠ 0 ∧ tfM true x = 2 * (y / 2) + 1) := by
      unfold tfM
      rw [← hDD, ← hy]
      by_cases hz : tz x < D
      · exact .inr ⟨(tz_iff h0).1 hz, by rw [decide_eq_true hz]; exact or_one_eq y⟩
      · refine .inl ⟨?_, by rw [decide_eq_false hz]; rfl⟩
        apply Decidable.byContradiction
        intro h
        exact hz ((tz_iff h0).2 h)
    obtain ⟨m, hmm⟩ : ∃ m, m = tfM true x := ⟨_, rfl⟩
    rw [← hmm] at hm ⊢
    have hm1 : m < 18446744073709551616 := by rcases hm with h | h <;> omega
    have hm2 : 9223372036854775808 ≤ m := by rcases hm with h | h <;> omega
    have hbm : bl m = 64 := bl_eq (n := 64) hm1 (.inr hm2)
    have hnz : nz m = 0 := by unfold nz; rw [← bl_bitLen, hbm]
    have htp : tp m = m := by unfold tp; rw [hnz]; simp
    obtain ⟨P, hP⟩ : ∃ P, P = pl m (e + (D : Int)) := ⟨_, rfl⟩
    have hPl := hP
    unfold pl at hPl
    rw [hnz] at hPl
    have hPc : (P = -1074 ∧ e + D + 11 < -1074) ∨ (P = e + D + 11 ∧ -1074 ≤ P) := by
      split at hPl
      · exact .inl ⟨hPl, by omega⟩
      · exact .inr ⟨by omega, by omega⟩
    have hq : ∀ k1, 11 ≤ k1 → x / 2 ^ (D + k1) = y / 2 ^ k1 := fun k1 _ => by rw [Nat.pow_add, ← Nat.div_div_eq_div_mul, hy]
    refine ⟨(P + 1074).toNat, x, D + (P - (e + D)).toNat, ⟨?_, ?_, ?_⟩, fun way => raw_of (x := x) (e := e) (m := m) (s := e + D) (P := P) (k1 := (P - (e + D)).toNat) (by rw [hnz]; omega) hP (by omega) (by omega) (fun way => by rw [htp]; exact rnd_sticky (by omega) hy hm) way, ?_, ?_⟩
    · intro K hK1 hK2
      congr 2
      omega
    · rw [hq _ (by omega)]
      have : 2 ^ 11 ≤ 2 ^ (P - (e + D)).toNat := Nat.pow_le_pow_right (by omega) (by omega)
      refine Nat.div_lt_of_lt_mul ?_
      have : 2 ^ 11 * 9007199254740992 ≤ 2 ^ (P - (e + D)).toNat * 9007199254740992 := Nat.mul_le_mul_right _ this
      omega
    · rcases hPc with h | h
      · exact .inl (by omega)
      · refine .inr ?_
        rw [hq _ (by omega), show (P - (e + D)).toNat = 11 by omega]
        omega
    · split <;> omega
    · omega
end Go.Proofs.YtlicjplmcepbnaaGreatDoor
/- A float is made anew of its odd part and its exponent, whatever the way of rounding. -/
namespace Go.Proofs.YtlicjplmcepbnaaGreatDoor.Ie
set_option linter.unusedVariables false
set_option linter.unusedSimpArgs false
open Go.RowKit Go.Fl64

end Go.Proofs.YtlicjplmcepbnaaGreatDoor.Ie
/- DyadFloats: the law's walk. -/
namespace Go.Proofs.YtlicjplmcepbnaaGreatDoor
set_option linter.unusedVariables false
set_option linter.unusedSimpArgs false
open Go.RowKit Go.Fl64

end Go.Proofs.YtlicjplmcepbnaaGreatDoor
/- DyadFloats answers true, whatever the two floats are. -/
namespace Go.Proofs.YtlicjplmcepbnaaGreatDoor
set_option linter.unusedVariables false
set_option linter.unusedSimpArgs false
open Go.RowKit Go.Fl64

/-- the parts of a finite float's number -/
def nN (a : Nat) : Bool := if mag a = 0 then false else neg a
def nM (a : Nat) : Nat := (Ie.sM a).toNat

theorem val_mant (a : Nat) (hf : mag a < 9218868437227405312) : val (mag a) = Ie.mant a * 2 ^ (Ie.lp a + 1074).toNat ∧ -1074 ≤ Ie.lp a ∧ Ie.lp a ≤ 972 := by
  unfold val Ie.mant Ie.lp
  by_cases h : mag a < 4503599627370496
  · rw [if_pos h, if_pos h]
    have : (-1075 + max 1 ((mag a / 4503599627370496 : Nat) : Int) + 1074).toNat = 0 := by omega
    rw [this, Nat.pow_zero, Nat.mul_one]
    exact ⟨rfl, by omega, by omega⟩
  · rw [if_neg h, if_neg h]
    have : (-1075 + max 1 ((mag a / 4503599627370496 : Nat) : Int) + 1074).toNat = mag a / 4503599627370496 - 1 := by omega
    rw [this]
    exact ⟨rfl, by omega, by omega⟩

theorem num_zero {a : Nat} (h0 : mag a = 0) : nM a = 0 ∧ Ie.sE a = 0 := by
  constructor
  · unfold nM Ie.sM
    rw [if_neg (by omega), if_pos h0]
    rfl
  · unfold Ie.sE
    rw [if_neg (by omega), if_pos h0]
theorem num_parts {a : Nat} (hf : mag a < 9218868437227405312) (h0 : mag a ≠ 0) :
    nM a % 2 = 1 ∧ nM a < 9007199254740992 ∧ -1074 ≤ Ie.sE a ∧ Ie.sE a ≤ 1100 ∧ nM a * 2 ^ (Ie.sE a + 1074).toNat = val (mag a) := by
  obtain ⟨v1, v2, v3⟩ := val_mant a hf
  have hb := Ie.mant_bound a
  have hne := Ie.mant_ne h0
  have hct : Lib.ctz 64 (Ie.mant a) = tz (Ie.mant a) := tz_ctz hne (by omega)
  obtain ⟨h1, h2⟩ := tz_spec _ (Ie.mant a) (Nat.le_refl _) hne
  have e1 : nM a = Ie.mant a / 2 ^ tz (Ie.mant a) := by
    unfold nM Ie.sM
    rw [if_neg (by omega), if_neg h0, hct]
    have : (Ie.mant a : Int) / 2 ^ tz (Ie.mant a) = ((Ie.mant a / 2 ^ tz (Ie.mant a) : Nat) : Int) := by simp
    rw [this, Int.toNat_natCast]
  have e2 : Ie.sE a = Ie.lp a + (tz (Ie.mant a) : Int) := by
    unfold Ie.sE
    rw [if_neg (by omega), if_neg h0, hct]
  rw [v1]
  generalize Ie.mant a = M at *
  generalize tz M = t at *
  generalize Ie.lp a = p at *
  have hq : M / 2 ^ t ≤ M := Nat.div_le_self ..
  have ht : t ≤ 53 := by
    apply Nat.le_of_not_lt
    intro h
    have h3 : 1 ≤ M / 2 ^ t := Nat.pos_of_ne_zero fun e0 => by rw [e0] at h2; simp at h2
    have h4 := Nat.mul_le_mul_left (2 ^ t) h3
    have h5 : 2 ^ 53 ≤ 2 ^ t := Nat.pow_le_pow_right (by omega) (by omega)
    have h6 : (2 : Nat) ^ 53 = 9007199254740992 := by decide
    omega
  refine ⟨by rw [e1]; exact h2, by rw [e1]; omega, by omega, by omega, ?_⟩
  rw [e1, e2, show (p + (t : Int) + 1074).toNat = t + (p + 1074).toNat by omega, Nat.pow_add, ← Nat.mul_assoc, Nat.mul_comm (M / 2 ^ t), h1]

theorem cmp_scale {X Y : Nat} (k : Nat) {p q : Nat} (h1 : X * 2 ^ k = p) (h2 : Y * 2 ^ k = q) : cmpI X Y = cmpI p q := by
  have hp := Nat.two_pow_pos k
  rcases cmpI_cases (X : Int) (Y : Int) with h | h | h
  · have : X * 2 ^ k < Y * 2 ^ k := Nat.mul_lt_mul_of_pos_right (by omega) hp
    rw [h.2]; unfold cmpI; rw [if_pos (by omega)]
  · have : Y * 2 ^ k < X * 2 ^ k := Nat.mul_lt_mul_of_pos_right (by omega) hp
    rw [h.2]; unfold cmpI; rw [if_neg (by omega), if_pos (by omega)]
  · have e : X = Y := by omega
    subst e
    rw [h.2]; unfold cmpI; rw [if_neg (by omega), if_neg (by omega)]

theorem ord_num {a b : Nat} (ha : mag a < 9218868437227405312) (hb : mag b < 9218868437227405312) : ordN (nN a) (nM a) (Ie.sE a) (nN b) (nM b) (Ie.sE b) = cmpI (stp a) (stp b) := by
  have sa := sgn_mag a
  have sb := sgn_mag b
  unfold ordN nN
  by_cases a0 : mag a = 0
  · obtain ⟨a1, a2⟩ := num_zero a0
    have ea : stp a = 0 := by omega
    rw [if_pos a0, a1, a2, dlen_zero, sgI_zero, ea]
    by_cases b0 : mag b = 0
    · obtain ⟨b1, b2⟩ := num_zero b0
      have eb : stp b = 0 := by omega
      rw [if_pos b0, b1, dlen_zero, sgI_zero, if_pos rfl, eb, Int.zero_mul]
      decide
    · obtain ⟨b1, -⟩ := num_parts hb b0
      have hd : dlen (nM b) ≠ 0 := fun e => by rw [dlen_eq_zero.1 e] at b1; simp at b1
      rw [if_neg b0, sgI_pos hd]
      rcases sb with ⟨s1, s2⟩ | ⟨s1, s2⟩
      · rw [s2, s1]
        simp only [Bool.false_eq_true, if_false]
        unfold cmpI
        rw [if_neg (by omega), if_pos (by omega), if_pos (by omega)]
      · rw [s2, s1]
        simp only [if_true]
        unfold cmpI
        rw [if_neg (by omega), if_neg (by omega), if_pos (by omega), if_neg (by omega), if_pos (by omega)]
  · obtain ⟨a1, a2, a3, a4, a5⟩ := num_parts ha a0
    have hda : dlen (nM a) ≠ 0 := fun e => by rw [dlen_eq_zero.1 e] at a1; simp at a1
    rw [if_neg a0, sgI_pos hda]
    by_cases b0 : mag b = 0
    · obtain ⟨b1, b2⟩ := num_zero b0
      have eb : stp b = 0 := by omega
      rw [if_pos b0, b1, dlen_zero, sgI_zero, eb]
      rcases sa with ⟨s1, s2⟩ | ⟨s1, s2⟩
      · rw [s2, s1]
        simp only [Bool.false_eq_true, if_false]
        unfold cmpI
        rw [if_neg (by omega), if_neg (by omega), if_pos (by omega), if_neg (by omega), if_pos (by omega)]
      · rw [s2, s1]
        simp only [if_true]
        unfold cmpI
        rw [if_neg (by omega), if_pos (by omega), if_pos (by omega)]
    · obtain ⟨b1, b2, b3, b4, b5⟩ := num_parts hb b0
      have hdb : dlen (nM b) ≠ 0 := fun e => by rw [dlen_eq_zero.1 e] at b1; simp at b1
      rw [if_neg b0, sgI_pos hdb]
      have key : cmpI (nM a * 2 ^ (Ie.sE a - min (Ie.sE a) (Ie.sE b)).toNat : Nat) (nM b * 2 ^ (Ie.sE b - min (Ie.sE a) (Ie.sE b)).toNat : Nat) = cmpI (mag a) (mag b) := by
        have k1 := cmp_scale (X := nM a * 2 ^ (Ie.sE a - min (Ie.sE a) (Ie.sE b)).toNat) (Y := nM b * 2 ^ (Ie.sE b - min (Ie.sE a) (Ie.sE b)).toNat) (min (Ie.sE a) (Ie.sE b) + 1074).toNat (p := val (mag a)) (q := val (mag b))
          (by rw [Nat.mul_assoc, ← Nat.pow_add, ← a5]; congr 2; omega) (by rw [Nat.mul_assoc, ← Nat.pow_add, ← b5]; congr 2; omega)
        rw [k1]
        have g1 := val_lt (mag a) (mag b)
        have g2 := val_lt (mag b) (mag a)
        rcases cmpI_cases (mag a : Int) (mag b : Int) with h | h | h
        · rw [h.2]; unfold cmpI; rw [if_pos (by omega)]
        · rw [h.2]; unfold cmpI; rw [if_neg (by omega), if_pos (by omega)]
        · rw [h.2]; unfold cmpI; rw [if_neg (by omega), if_neg (by omega)]
      rw [key]
      rcases sa with ⟨s1, s2⟩ | ⟨s1, s2⟩ <;> rcases sb with ⟨t1, t2⟩ | ⟨t1, t2⟩ <;> rw [s1, s2, t1, t2]
      · simp only [Bool.false_eq_true, if_false, if_true]
        omega
      · simp only [Bool.false_eq_true, if_false, if_true]
        rw [if_neg (by omega)]
        unfold cmpI
        rw [if_neg (by omega), if_pos (by omega), if_neg (by omega), if_pos (by omega)]
      · simp only [Bool.false_eq_true, if_false, if_true]
        rw [if_neg (by omega)]
        unfold cmpI
        rw [if_pos (by omega), if_pos (by omega)]
      · simp only [if_true]
        rcases cmpI_cases (mag a : Int) (mag b : Int) with h | h | h
        · rw [h.2]; unfold cmpI; rw [if_neg (by omega), if_pos (by omega)]; rfl
        · rw [h.2]; unfold cmpI; rw [if_pos (by omega)]; rfl
        · rw [h.2]; unfold cmpI; rw [if_neg (by omega), if_neg (by omega)]; rfl

end Go.Proofs.YtlicjplmcepbnaaGreatDoor
