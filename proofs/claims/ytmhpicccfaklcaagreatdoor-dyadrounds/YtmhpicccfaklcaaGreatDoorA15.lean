/- Own work: contracts of the program's functions, part 15: W50 L16 L10 L17. -/
import Derived.Test.YtmhpicccfaklcaaGreatDoorA14
import Derived.Test.YtmhpicccfaklcaaGreatDoorA10
import Derived.Test.YtmhpicccfaklcaaGreatDoorA13
import Derived.Test.YtmhpicccfaklcaaGreatDoorA7

/- The program's Floor, Quo, Root, refused. -/
namespace Go.Proofs.YtmhpicccfaklcaaGreatDoor
set_option linter.unusedVariables false
set_option linter.unusedSimpArgs false
open Go.RowKit

theorem pPlace (place : Int) (w : World) : Calls Tryz.prog 75 #[.int .i64 place] w fun r w' => r = .returned (.bool (decide (-65536 ≤ place) && decide (place ≤ 65536))) ∧ w' = w := by
  by_cases h1 : -65536 ≤ place
  · have hd : decide (-65536 ≤ place) = true := decide_eq_true h1
    go_enter Tryz.func75, Tryz.ntmps75
    go_wp2
    go_ret
    exact ⟨by first | rfl | (rw [hd]; rfl), rfl⟩
  · have hd : decide (-65536 ≤ place) = false := decide_eq_false h1
    go_enter Tryz.func75, Tryz.ntmps75
    go_wp2
    go_ret
    exact ⟨by first | rfl | (rw [hd]; rfl), rfl⟩
set_option maxHeartbeats 4000000 in
set_option maxRecDepth 200000 in
theorem pFloor_no1 (na : Bool) (ua : Option Addr) (un uc : Nat) (ea place : Int) (w : World)
    (k43 : ∀ W g, Below w.heap.size w W → W.heap[g]? = some (.cells #[.bool na, .slice ua un uc, .int .i64 ea] 25 (0, 0)) → Calls Tryz.prog 47 #[.slice (some ⟨g, 0, none⟩) 1 1] W fun r w' => r = .returned (.bool false) ∧ Below W.heap.size W w') :
    Calls Tryz.prog 30 #[.agg #[.bool na, .slice ua un uc, .int .i64 ea], .int .i64 place] w fun r w' => r = .returned (.tuple #[.agg #[.bool false, .slice none 0 0, .int .i64 0], .bool false, .int .i64 1]) ∧ Below w.heap.size w w' := by
  obtain ⟨W, hW⟩ : ∃ W, W = (w.alloc (.cells #[.bool na, .slice ua un uc, .int .i64 ea] 25)).alloc (.cells #[.bool false, .slice none 0 0, .int .i64 0] 25) := ⟨_, rfl⟩
  have hBW : Below w.heap.size w W := by rw [hW]; exact ((Below.refl _ _).alloc (Nat.le_refl _) _).alloc (by simp) _
  have hbA : W.heap[w.heap.size]? = some (.cells #[.bool na, .slice ua un uc, .int .i64 ea] 25 (0, 0)) := by
    rw [hW, Below.heap_alloc _ _ _ (by simp)]; exact heap_alloc_new _ _
  have hbB : W.heap[w.heap.size + 1]? = some (.cells #[.bool false, .slice none 0 0, .int .i64 0] 25 (0, 0)) := by
    have := heap_alloc_new (w.alloc (.cells #[.bool na, .slice ua un uc, .int .i64 ea] 25)) (.cells #[.bool false, .slice none 0 0, .int .i64 0] 25)
    rw [hW]; simpa using this
  have hsz : W.heap.size = w.heap.size + 1 + 1 := by rw [hW]; simp
  have k1 := k43 (W.alloc (.cells #[.bool na, .slice ua un uc, .int .i64 ea] 25)) (w.heap.size + 1 + 1) (hBW.alloc hBW.size _) (by rw [← hsz]; exact heap_alloc_new _ _)
  have HX : Hid (Below w.heap.size w W ∧ W.heap.size = w.heap.size + 1 + 1 ∧ W.heap[w.heap.size]? = some (.cells #[.bool na, .slice ua un uc, .int .i64 ea] 25 (0, 0)) ∧ W.heap[w.heap.size + 1]? = some (.cells #[.bool false, .slice none 0 0, .int .i64 0] 25 (0, 0))) := ⟨hBW, hsz, hbA, hbB⟩
  clear hBW hsz hbA hbB k43
  go_enter Tryz.func30, Tryz.ntmps30
  go_wp2_with fail
  rw [← hW]
  clear hW
  refine k1.mono ?_
  rintro r w1 ⟨rfl, hb1⟩
  have HB1 : Hid (Below W.heap.size W w1) := ((Below.refl W.heap.size W).alloc (Nat.le_refl _) _).trans (hb1.mono (by simp))
  obtain ⟨⟨a0, a1, a2⟩, -⟩ := box_cells (box_later HX.out.2.2.1 HB1.out (by have := HX.out.2.1; omega))
  have HC : Hid (w1.heap[w.heap.size + 1]? = some (.cells #[.bool false, .slice none 0 0, .int .i64 0] 25 (0, 0))) := box_later HX.out.2.2.2 HB1.out (by have := HX.out.2.1; omega)
  obtain ⟨⟨x1, x2, x3⟩, x4, x5, x6⟩ := box_cells HC.out
  clear k1 hb1
  go_wp2
  refine bodyPost_ret (results_cell_tmp2_row rfl _ _ (w.heap.size + 1) 25 #[.bool false, .slice none 0 0, .int .i64 0] (0, 0) _ rfl (store3 _ _ _ HC.out) Tryz.underlying25 rfl Tryz.info25) rfl ?_
  exact ⟨rfl, below_store3 (HX.out.1.trans (HB1.out.mono HX.out.1.size)) (by omega) _ _ _⟩
set_option maxHeartbeats 4000000 in
set_option maxRecDepth 200000 in
theorem pFloor_no2 (na : Bool) (ua : Option Addr) (un uc : Nat) (ea place : Int) (w : World) (hp : (decide (-65536 ≤ place) && decide (place ≤ 65536)) = false)
    (k43 : ∀ W g, Below w.heap.size w W → W.heap[g]? = some (.cells #[.bool na, .slice ua un uc, .int .i64 ea] 25 (0, 0)) → Calls Tryz.prog 47 #[.slice (some ⟨g, 0, none⟩) 1 1] W fun r w' => r = .returned (.bool true) ∧ Below W.heap.size W w') :
    Calls Tryz.prog 30 #[.agg #[.bool na, .slice ua un uc, .int .i64 ea], .int .i64 place] w fun r w' => r = .returned (.tuple #[.agg #[.bool false, .slice none 0 0, .int .i64 0], .bool false, .int .i64 1]) ∧ Below w.heap.size w w' := by
  obtain ⟨W, hW⟩ : ∃ W, W = (w.alloc (.cells #[.bool na, .slice ua un uc, .int .i64 ea] 25)).alloc (.cells #[.bool false, .slice none 0 0, .int .i64 0] 25) := ⟨_, rfl⟩
  have hBW : Below w.heap.size w W := by rw [hW]; exact ((Below.refl _ _).alloc (Nat.le_refl _) _).alloc (by simp) _
  have hbA : W.heap[w.heap.size]? = some (.cells #[.bool na, .slice ua un uc, .int .i64 ea] 25 (0, 0)) := by
    rw [hW, Below.heap_alloc _ _ _ (by simp)]; exact heap_alloc_new _ _
  have hbB : W.heap[w.heap.size + 1]? = some (.cells #[.bool false, .slice none 0 0, .int .i64 0] 25 (0, 0)) := by
    have := heap_alloc_new (w.alloc (.cells #[.bool na, .slice ua un uc, .int .i64 ea] 25)) (.cells #[.bool false, .slice none 0 0, .int .i64 0] 25)
    rw [hW]; simpa using this
  have hsz : W.heap.size = w.heap.size + 1 + 1 := by rw [hW]; simp
  have k1 := k43 (W.alloc (.cells #[.bool na, .slice ua un uc, .int .i64 ea] 25)) (w.heap.size + 1 + 1) (hBW.alloc hBW.size _) (by rw [← hsz]; exact heap_alloc_new _ _)
  have HX : Hid (Below w.heap.size w W ∧ W.heap.size = w.heap.size + 1 + 1 ∧ W.heap[w.heap.size]? = some (.cells #[.bool na, .slice ua un uc, .int .i64 ea] 25 (0, 0)) ∧ W.heap[w.heap.size + 1]? = some (.cells #[.bool false, .slice none 0 0, .int .i64 0] 25 (0, 0))) := ⟨hBW, hsz, hbA, hbB⟩
  clear hBW hsz hbA hbB k43
  go_enter Tryz.func30, Tryz.ntmps30
  go_wp2_with fail
  rw [← hW]
  clear hW
  refine k1.mono ?_
  rintro r w1 ⟨rfl, hb1⟩
  have HB1 : Hid (Below W.heap.size W w1) := ((Below.refl W.heap.size W).alloc (Nat.le_refl _) _).trans (hb1.mono (by simp))
  obtain ⟨⟨a0, a1, a2⟩, -⟩ := box_cells (box_later HX.out.2.2.1 HB1.out (by have := HX.out.2.1; omega))
  have HC : Hid (w1.heap[w.heap.size + 1]? = some (.cells #[.bool false, .slice none 0 0, .int .i64 0] 25 (0, 0))) := box_later HX.out.2.2.2 HB1.out (by have := HX.out.2.1; omega)
  obtain ⟨⟨x1, x2, x3⟩, x4, x5, x6⟩ := box_cells HC.out
  clear k1 hb1
  have kP : Calls Tryz.prog 75 #[.int .i64 place] w1 fun r w' => r = .returned (.bool false) ∧ w' = w1 := (pPlace place w1).mono fun r w' ⟨e1, e2⟩ => ⟨by rw [e1, hp], e2⟩
  go_wp2_with fail
  refine kP.mono ?_
  rintro r w2 ⟨rfl, hw⟩
  replace hw := hw.symm
  subst hw
  clear kP
  go_wp2
  refine bodyPost_ret (results_cell_tmp2_row rfl _ _ (w.heap.size + 1) 25 #[.bool false, .slice none 0 0, .int .i64 0] (0, 0) _ rfl (store3 _ _ _ HC.out) Tryz.underlying25 rfl Tryz.info25) rfl ?_
  exact ⟨rfl, below_store3 (HX.out.1.trans (HB1.out.mono HX.out.1.size)) (by omega) _ _ _⟩
set_option maxHeartbeats 4000000 in
set_option maxRecDepth 200000 in
theorem pRoot_no1 (na : Bool) (ua : Option Addr) (un uc : Nat) (ea place : Int) (w : World)
    (k43 : ∀ W g, Below w.heap.size w W → W.heap[g]? = some (.cells #[.bool na, .slice ua un uc, .int .i64 ea] 25 (0, 0)) → Calls Tryz.prog 47 #[.slice (some ⟨g, 0, none⟩) 1 1] W fun r w' => r = .returned (.bool false) ∧ Below W.heap.size W w') :
    Calls Tryz.prog 34 #[.agg #[.bool na, .slice ua un uc, .int .i64 ea], .int .i64 place] w fun r w' => r = .returned (.tuple #[.agg #[.bool false, .slice none 0 0, .int .i64 0], .bool false, .int .i64 1]) ∧ Below w.heap.size w w' := by
  obtain ⟨W, hW⟩ : ∃ W, W = (w.alloc (.cells #[.bool na, .slice ua un uc, .int .i64 ea] 25)).alloc (.cells #[.bool false, .slice none 0 0, .int .i64 0] 25) := ⟨_, rfl⟩
  have hBW : Below w.heap.size w W := by rw [hW]; exact ((Below.refl _ _).alloc (Nat.le_refl _) _).alloc (by simp) _
  have hbA : W.heap[w.heap.size]? = some (.cells #[.bool na, .slice ua un uc, .int .i64 ea] 25 (0, 0)) := by
    rw [hW, Below.heap_alloc _ _ _ (by simp)]; exact heap_alloc_new _ _
  have hbB : W.heap[w.heap.size + 1]? = some (.cells #[.bool false, .slice none 0 0, .int .i64 0] 25 (0, 0)) := by
    have := heap_alloc_new (w.alloc (.cells #[.bool na, .slice ua un uc, .int .i64 ea] 25)) (.cells #[.bool false, .slice none 0 0, .int .i64 0] 25)
    rw [hW]; simpa using this
  have hsz : W.heap.size = w.heap.size + 1 + 1 := by rw [hW]; simp
  have k1 := k43 (W.alloc (.cells #[.bool na, .slice ua un uc, .int .i64 ea] 25)) (w.heap.size + 1 + 1) (hBW.alloc hBW.size _) (by rw [← hsz]; exact heap_alloc_new _ _)
  have HX : Hid (Below w.heap.size w W ∧ W.heap.size = w.heap.size + 1 + 1 ∧ W.heap[w.heap.size]? = some (.cells #[.bool na, .slice ua un uc, .int .i64 ea] 25 (0, 0)) ∧ W.heap[w.heap.size + 1]? = some (.cells #[.bool false, .slice none 0 0, .int .i64 0] 25 (0, 0))) := ⟨hBW, hsz, hbA, hbB⟩
  clear hBW hsz hbA hbB k43
  go_enter Tryz.func34, Tryz.ntmps34
  go_wp2_with fail
  rw [← hW]
  clear hW
  refine k1.mono ?_
  rintro r w1 ⟨rfl, hb1⟩
  have HB1 : Hid (Below W.heap.size W w1) := ((Below.refl W.heap.size W).alloc (Nat.le_refl _) _).trans (hb1.mono (by simp))
  obtain ⟨⟨a0, a1, a2⟩, -⟩ := box_cells (box_later HX.out.2.2.1 HB1.out (by have := HX.out.2.1; omega))
  have HC : Hid (w1.heap[w.heap.size + 1]? = some (.cells #[.bool false, .slice none 0 0, .int .i64 0] 25 (0, 0))) := box_later HX.out.2.2.2 HB1.out (by have := HX.out.2.1; omega)
  obtain ⟨⟨x1, x2, x3⟩, x4, x5, x6⟩ := box_cells HC.out
  clear k1 hb1
  go_wp2
  refine bodyPost_ret (results_cell_tmp2_row rfl _ _ (w.heap.size + 1) 25 #[.bool false, .slice none 0 0, .int .i64 0] (0, 0) _ rfl (store3 _ _ _ HC.out) Tryz.underlying25 rfl Tryz.info25) rfl ?_
  exact ⟨rfl, below_store3 (HX.out.1.trans (HB1.out.mono HX.out.1.size)) (by omega) _ _ _⟩
set_option maxHeartbeats 4000000 in
set_option maxRecDepth 200000 in
theorem pRoot_no2 (na : Bool) (ua : Option Addr) (un uc : Nat) (ea place : Int) (w : World) (hp : (decide (-65536 ≤ place) && decide (place ≤ 65536)) = false)
    (k43 : ∀ W g, Below w.heap.size w W → W.heap[g]? = some (.cells #[.bool na, .slice ua un uc, .int .i64 ea] 25 (0, 0)) → Calls Tryz.prog 47 #[.slice (some ⟨g, 0, none⟩) 1 1] W fun r w' => r = .returned (.bool true) ∧ Below W.heap.size W w') :
    Calls Tryz.prog 34 #[.agg #[.bool na, .slice ua un uc, .int .i64 ea], .int .i64 place] w fun r w' => r = .returned (.tuple #[.agg #[.bool false, .slice none 0 0, .int .i64 0], .bool false, .int .i64 1]) ∧ Below w.heap.size w w' := by
  obtain ⟨W, hW⟩ : ∃ W, W = (w.alloc (.cells #[.bool na, .slice ua un uc, .int .i64 ea] 25)).alloc (.cells #[.bool false, .slice none 0 0, .int .i64 0] 25) := ⟨_, rfl⟩
  have hBW : Below w.heap.size w W := by rw [hW]; exact ((Below.refl _ _).alloc (Nat.le_refl _) _).alloc (by simp) _
  have hbA : W.heap[w.heap.size]? = some (.cells #[.bool na, .slice ua un uc, .int .i64 ea] 25 (0, 0)) := by
    rw [hW, Below.heap_alloc _ _ _ (by simp)]; exact heap_alloc_new _ _
  have hbB : W.heap[w.heap.size + 1]? = some (.cells #[.bool false, .slice none 0 0, .int .i64 0] 25 (0, 0)) := by
    have := heap_alloc_new (w.alloc (.cells #[.bool na, .slice ua un uc, .int .i64 ea] 25)) (.cells #[.bool false, .slice none 0 0, .int .i64 0] 25)
    rw [hW]; simpa using this
  have hsz : W.heap.size = w.heap.size + 1 + 1 := by rw [hW]; simp
  have k1 := k43 (W.alloc (.cells #[.bool na, .slice ua un uc, .int .i64 ea] 25)) (w.heap.size + 1 + 1) (hBW.alloc hBW.size _) (by rw [← hsz]; exact heap_alloc_new _ _)
  have HX : Hid (Below w.heap.size w W ∧ W.heap.size = w.heap.size + 1 + 1 ∧ W.heap[w.heap.size]? = some (.cells #[.bool na, .slice ua un uc, .int .i64 ea] 25 (0, 0)) ∧ W.heap[w.heap.size + 1]? = some (.cells #[.bool false, .slice none 0 0, .int .i64 0] 25 (0, 0))) := ⟨hBW, hsz, hbA, hbB⟩
  clear hBW hsz hbA hbB k43
  go_enter Tryz.func34, Tryz.ntmps34
  go_wp2_with fail
  rw [← hW]
  clear hW
  refine k1.mono ?_
  rintro r w1 ⟨rfl, hb1⟩
  have HB1 : Hid (Below W.heap.size W w1) := ((Below.refl W.heap.size W).alloc (Nat.le_refl _) _).trans (hb1.mono (by simp))
  obtain ⟨⟨a0, a1, a2⟩, -⟩ := box_cells (box_later HX.out.2.2.1 HB1.out (by have := HX.out.2.1; omega))
  have HC : Hid (w1.heap[w.heap.size + 1]? = some (.cells #[.bool false, .slice none 0 0, .int .i64 0] 25 (0, 0))) := box_later HX.out.2.2.2 HB1.out (by have := HX.out.2.1; omega)
  obtain ⟨⟨x1, x2, x3⟩, x4, x5, x6⟩ := box_cells HC.out
  clear k1 hb1
  have kP : Calls Tryz.prog 75 #[.int .i64 place] w1 fun r w' => r = .returned (.bool false) ∧ w' = w1 := (pPlace place w1).mono fun r w' ⟨e1, e2⟩ => ⟨by rw [e1, hp], e2⟩
  go_wp2_with fail
  refine kP.mono ?_
  rintro r w2 ⟨rfl, hw⟩
  replace hw := hw.symm
  subst hw
  clear kP
  go_wp2
  refine bodyPost_ret (results_cell_tmp2_row rfl _ _ (w.heap.size + 1) 25 #[.bool false, .slice none 0 0, .int .i64 0] (0, 0) _ rfl (store3 _ _ _ HC.out) Tryz.underlying25 rfl Tryz.info25) rfl ?_
  exact ⟨rfl, below_store3 (HX.out.1.trans (HB1.out.mono HX.out.1.size)) (by omega) _ _ _⟩
set_option maxHeartbeats 4000000 in
set_option maxRecDepth 200000 in
theorem pRoot_nod (na : Bool) (ua : Option Addr) (un uc : Nat) (ea place : Int) (w : World) (hp : (decide (-65536 ≤ place) && decide (place ≤ 65536)) = true)
    (k43 : ∀ W g, Below w.heap.size w W → W.heap[g]? = some (.cells #[.bool true, .slice ua un uc, .int .i64 ea] 25 (0, 0)) → Calls Tryz.prog 47 #[.slice (some ⟨g, 0, none⟩) 1 1] W fun r w' => r = .returned (.bool true) ∧ Below W.heap.size W w') :
    Calls Tryz.prog 34 #[.agg #[.bool true, .slice ua un uc, .int .i64 ea], .int .i64 place] w fun r w' => r = .returned (.tuple #[.agg #[.bool false, .slice none 0 0, .int .i64 0], .bool false, .int .i64 7]) ∧ Below w.heap.size w w' := by
  obtain ⟨W, hW⟩ : ∃ W, W = (w.alloc (.cells #[.bool true, .slice ua un uc, .int .i64 ea] 25)).alloc (.cells #[.bool false, .slice none 0 0, .int .i64 0] 25) := ⟨_, rfl⟩
  have hBW : Below w.heap.size w W := by rw [hW]; exact ((Below.refl _ _).alloc (Nat.le_refl _) _).alloc (by simp) _
  have hbA : W.heap[w.heap.size]? = some (.cells #[.bool true, .slice ua un uc, .int .i64 ea] 25 (0, 0)) := by
    rw [hW, Below.heap_alloc _ _ _ (by simp)]; exact heap_alloc_new _ _
  have hbB : W.heap[w.heap.size + 1]? = some (.cells #[.bool false, .slice none 0 0, .int .i64 0] 25 (0, 0)) := by
    have := heap_alloc_new (w.alloc (.cells #[.bool true, .slice ua un uc, .int .i64 ea] 25)) (.cells #[.bool false, .slice none 0 0, .int .i64 0] 25)
    rw [hW]; simpa using this
  have hsz : W.heap.size = w.heap.size + 1 + 1 := by rw [hW]; simp
  have k1 := k43 (W.alloc (.cells #[.bool true, .slice ua un uc, .int .i64 ea] 25)) (w.heap.size + 1 + 1) (hBW.alloc hBW.size _) (by rw [← hsz]; exact heap_alloc_new _ _)
  have HX : Hid (Below w.heap.size w W ∧ W.heap.size = w.heap.size + 1 + 1 ∧ W.heap[w.heap.size]? = some (.cells #[.bool true, .slice ua un uc, .int .i64 ea] 25 (0, 0)) ∧ W.heap[w.heap.size + 1]? = some (.cells #[.bool false, .slice none 0 0, .int .i64 0] 25 (0, 0))) := ⟨hBW, hsz, hbA, hbB⟩
  clear hBW hsz hbA hbB k43
  go_enter Tryz.func34, Tryz.ntmps34
  go_wp2_with fail
  rw [← hW]
  clear hW
  refine k1.mono ?_
  rintro r w1 ⟨rfl, hb1⟩
  have HB1 : Hid (Below W.heap.size W w1) := ((Below.refl W.heap.size W).alloc (Nat.le_refl _) _).trans (hb1.mono (by simp))
  obtain ⟨⟨a0, a1, a2⟩, -⟩ := box_cells (box_later HX.out.2.2.1 HB1.out (by have := HX.out.2.1; omega))
  have HC : Hid (w1.heap[w.heap.size + 1]? = some (.cells #[.bool false, .slice none 0 0, .int .i64 0] 25 (0, 0))) := box_later HX.out.2.2.2 HB1.out (by have := HX.out.2.1; omega)
  obtain ⟨⟨x1, x2, x3⟩, x4, x5, x6⟩ := box_cells HC.out
  clear k1 hb1
  have kP : Calls Tryz.prog 75 #[.int .i64 place] w1 fun r w' => r = .returned (.bool true) ∧ w' = w1 := (pPlace place w1).mono fun r w' ⟨e1, e2⟩ => ⟨by rw [e1, hp], e2⟩
  go_wp2_with fail
  refine kP.mono ?_
  rintro r w2 ⟨rfl, hw⟩
  replace hw := hw.symm
  subst hw
  clear kP
  go_wp2
  refine bodyPost_ret (results_cell_tmp2_row rfl _ _ (w.heap.size + 1) 25 #[.bool false, .slice none 0 0, .int .i64 0] (0, 0) _ rfl (store3 _ _ _ HC.out) Tryz.underlying25 rfl Tryz.info25) rfl ?_
  exact ⟨rfl, below_store3 (HX.out.1.trans (HB1.out.mono HX.out.1.size)) (by omega) _ _ _⟩
set_option maxHeartbeats 4000000 in
set_option maxRecDepth 200000 in
theorem pQuo_no1 (na nb : Bool) (ua va : Option Addr) (un uc vn vc : Nat) (ea eb place : Int) (w : World)
    (k67 : ∀ W g, Below w.heap.size w W → W.heap[g]? = some (.cells #[.bool na, .slice ua un uc, .int .i64 ea, .bool nb, .slice va vn vc, .int .i64 eb] 25 (0, 0)) → Calls Tryz.prog 47 #[.slice (some ⟨g, 0, none⟩) 2 2] W fun r w' => r = .returned (.bool false) ∧ Below W.heap.size W w') :
    Calls Tryz.prog 32 #[.agg #[.bool na, .slice ua un uc, .int .i64 ea], .agg #[.bool nb, .slice va vn vc, .int .i64 eb], .int .i64 place] w fun r w' => r = .returned (.tuple #[.agg #[.bool false, .slice none 0 0, .int .i64 0], .bool false, .int .i64 1]) ∧ Below w.heap.size w w' := by
  obtain ⟨W, hW⟩ : ∃ W, W = ((w.alloc (.cells #[.bool na, .slice ua un uc, .int .i64 ea] 25)).alloc (.cells #[.bool nb, .slice va vn vc, .int .i64 eb] 25)).alloc (.cells #[.bool false, .slice none 0 0, .int .i64 0] 25) := ⟨_, rfl⟩
  obtain ⟨hA, hBb, hC, hsz, hBW⟩ := boxes3 _ _ _ hW
  have hB4 : Below w.heap.size w (W.alloc (.cells #[.bool na, .slice ua un uc, .int .i64 ea, .bool nb, .slice va vn vc, .int .i64 eb] 25)) := hBW.alloc hBW.size _
  have k1 := k67 (W.alloc (.cells #[.bool na, .slice ua un uc, .int .i64 ea, .bool nb, .slice va vn vc, .int .i64 eb] 25)) (w.heap.size + 1 + 1 + 1) hB4 (by rw [← hsz]; exact heap_alloc_new _ _)
  have HH : Hid ((W.heap[w.heap.size]? = some (.cells #[.bool na, .slice ua un uc, .int .i64 ea] 25 (0, 0)) ∧ W.heap[w.heap.size + 1]? = some (.cells #[.bool nb, .slice va vn vc, .int .i64 eb] 25 (0, 0)) ∧ W.heap[w.heap.size + 1 + 1]? = some (.cells #[.bool false, .slice none 0 0, .int .i64 0] 25 (0, 0))) ∧ W.heap.size = w.heap.size + 1 + 1 + 1 ∧ Below w.heap.size w W ∧ Below W.heap.size W (W.alloc (.cells #[.bool na, .slice ua un uc, .int .i64 ea, .bool nb, .slice va vn vc, .int .i64 eb] 25))) := ⟨⟨hA, hBb, hC⟩, hsz, hBW, (Below.refl _ _).alloc (Nat.le_refl _) _⟩
  clear hA hBb hC hsz hBW hB4 k67
  go_enter Tryz.func32, Tryz.ntmps32
  go_wp2_with fail
  rw [← hW]
  clear hW
  refine k1.mono ?_
  rintro r w1 ⟨rfl, hB1⟩
  clear k1
  have HB1 : Hid (Below W.heap.size W w1) := HH.out.2.2.2.trans (hB1.mono HH.out.2.2.2.size)
  obtain ⟨⟨a0, a1, a2⟩, -⟩ := box_cells (box_later HH.out.1.1 HB1.out (by have := HH.out.2.1; omega))
  obtain ⟨⟨b0, b1, b2⟩, -⟩ := box_cells (box_later HH.out.1.2.1 HB1.out (by have := HH.out.2.1; omega))
  have HC : Hid (w1.heap[w.heap.size + 1 + 1]? = some (.cells #[.bool false, .slice none 0 0, .int .i64 0] 25 (0, 0))) := box_later HH.out.1.2.2 HB1.out (by have := HH.out.2.1; omega)
  obtain ⟨⟨x1, x2, x3⟩, x4, x5, x6⟩ := box_cells HC.out
  clear hB1
  go_wp2
  refine bodyPost_ret (results_cell_tmp2_row rfl _ _ (w.heap.size + 1 + 1) 25 #[.bool false, .slice none 0 0, .int .i64 0] (0, 0) _ rfl (store3 _ _ _ HC.out) Tryz.underlying25 rfl Tryz.info25) rfl ?_
  exact ⟨rfl, below_store3 (HH.out.2.2.1.trans (HB1.out.mono HH.out.2.2.1.size)) (by omega) _ _ _⟩
set_option maxHeartbeats 4000000 in
set_option maxRecDepth 200000 in
theorem pQuo_no2 (na nb : Bool) (ua va : Option Addr) (un uc vn vc : Nat) (ea eb place : Int) (w : World) (hp : (decide (-65536 ≤ place) && decide (place ≤ 65536)) = false)
    (k67 : ∀ W g, Below w.heap.size w W → W.heap[g]? = some (.cells #[.bool na, .slice ua un uc, .int .i64 ea, .bool nb, .slice va vn vc, .int .i64 eb] 25 (0, 0)) → Calls Tryz.prog 47 #[.slice (some ⟨g, 0, none⟩) 2 2] W fun r w' => r = .returned (.bool true) ∧ Below W.heap.size W w') :
    Calls Tryz.prog 32 #[.agg #[.bool na, .slice ua un uc, .int .i64 ea], .agg #[.bool nb, .slice va vn vc, .int .i64 eb], .int .i64 place] w fun r w' => r = .returned (.tuple #[.agg #[.bool false, .slice none 0 0, .int .i64 0], .bool false, .int .i64 1]) ∧ Below w.heap.size w w' := by
  obtain ⟨W, hW⟩ : ∃ W, W = ((w.alloc (.cells #[.bool na, .slice ua un uc, .int .i64 ea] 25)).alloc (.cells #[.bool nb, .slice va vn vc, .int .i64 eb] 25)).alloc (.cells #[.bool false, .slice none 0 0, .int .i64 0] 25) := ⟨_, rfl⟩
  obtain ⟨hA, hBb, hC, hsz, hBW⟩ := boxes3 _ _ _ hW
  have hB4 : Below w.heap.size w (W.alloc (.cells #[.bool na, .slice ua un uc, .int .i64 ea, .bool nb, .slice va vn vc, .int .i64 eb] 25)) := hBW.alloc hBW.size _
  have k1 := k67 (W.alloc (.cells #[.bool na, .slice ua un uc, .int .i64 ea, .bool nb, .slice va vn vc, .int .i64 eb] 25)) (w.heap.size + 1 + 1 + 1) hB4 (by rw [← hsz]; exact heap_alloc_new _ _)
  have HH : Hid ((W.heap[w.heap.size]? = some (.cells #[.bool na, .slice ua un uc, .int .i64 ea] 25 (0, 0)) ∧ W.heap[w.heap.size + 1]? = some (.cells #[.bool nb, .slice va vn vc, .int .i64 eb] 25 (0, 0)) ∧ W.heap[w.heap.size + 1 + 1]? = some (.cells #[.bool false, .slice none 0 0, .int .i64 0] 25 (0, 0))) ∧ W.heap.size = w.heap.size + 1 + 1 + 1 ∧ Below w.heap.size w W ∧ Below W.heap.size W (W.alloc (.cells #[.bool na, .slice ua un uc, .int .i64 ea, .bool nb, .slice va vn vc, .int .i64 eb] 25))) := ⟨⟨hA, hBb, hC⟩, hsz, hBW, (Below.refl _ _).alloc (Nat.le_refl _) _⟩
  clear hA hBb hC hsz hBW hB4 k67
  go_enter Tryz.func32, Tryz.ntmps32
  go_wp2_with fail
  rw [← hW]
  clear hW
  refine k1.mono ?_
  rintro r w1 ⟨rfl, hB1⟩
  clear k1
  have HB1 : Hid (Below W.heap.size W w1) := HH.out.2.2.2.trans (hB1.mono HH.out.2.2.2.size)
  obtain ⟨⟨a0, a1, a2⟩, -⟩ := box_cells (box_later HH.out.1.1 HB1.out (by have := HH.out.2.1; omega))
  obtain ⟨⟨b0, b1, b2⟩, -⟩ := box_cells (box_later HH.out.1.2.1 HB1.out (by have := HH.out.2.1; omega))
  have HC : Hid (w1.heap[w.heap.size + 1 + 1]? = some (.cells #[.bool false, .slice none 0 0, .int .i64 0] 25 (0, 0))) := box_later HH.out.1.2.2 HB1.out (by have := HH.out.2.1; omega)
  obtain ⟨⟨x1, x2, x3⟩, x4, x5, x6⟩ := box_cells HC.out
  clear hB1
  have kP : Calls Tryz.prog 75 #[.int .i64 place] w1 fun r w' => r = .returned (.bool false) ∧ w' = w1 := (pPlace place w1).mono fun r w' ⟨e1, e2⟩ => ⟨by rw [e1, hp], e2⟩
  go_wp2_with fail
  refine kP.mono ?_
  rintro r w2 ⟨rfl, hw⟩
  replace hw := hw.symm
  subst hw
  clear kP
  go_wp2
  refine bodyPost_ret (results_cell_tmp2_row rfl _ _ (w.heap.size + 1 + 1) 25 #[.bool false, .slice none 0 0, .int .i64 0] (0, 0) _ rfl (store3 _ _ _ HC.out) Tryz.underlying25 rfl Tryz.info25) rfl ?_
  exact ⟨rfl, below_store3 (HH.out.2.2.1.trans (HB1.out.mono HH.out.2.2.1.size)) (by omega) _ _ _⟩
set_option maxHeartbeats 4000000 in
set_option maxRecDepth 200000 in
theorem pQuo_noz (na nb : Bool) (ua va : Option Addr) (un uc vn vc : Nat) (ea eb place : Int) (w : World) (hp : (decide (-65536 ≤ place) && decide (place ≤ 65536)) = true)
    (k67 : ∀ W g, Below w.heap.size w W → W.heap[g]? = some (.cells #[.bool na, .slice ua un uc, .int .i64 ea, .bool nb, .slice va 0 vc, .int .i64 eb] 25 (0, 0)) → Calls Tryz.prog 47 #[.slice (some ⟨g, 0, none⟩) 2 2] W fun r w' => r = .returned (.bool true) ∧ Below W.heap.size W w') :
    Calls Tryz.prog 32 #[.agg #[.bool na, .slice ua un uc, .int .i64 ea], .agg #[.bool nb, .slice va 0 vc, .int .i64 eb], .int .i64 place] w fun r w' => r = .returned (.tuple #[.agg #[.bool false, .slice none 0 0, .int .i64 0], .bool false, .int .i64 6]) ∧ Below w.heap.size w w' := by
  obtain ⟨W, hW⟩ : ∃ W, W = ((w.alloc (.cells #[.bool na, .slice ua un uc, .int .i64 ea] 25)).alloc (.cells #[.bool nb, .slice va 0 vc, .int .i64 eb] 25)).alloc (.cells #[.bool false, .slice none 0 0, .int .i64 0] 25) := ⟨_, rfl⟩
  obtain ⟨hA, hBb, hC, hsz, hBW⟩ := boxes3 _ _ _ hW
  have hB4 : Below w.heap.size w (W.alloc (.cells #[.bool na, .slice ua un uc, .int .i64 ea, .bool nb, .slice va 0 vc, .int .i64 eb] 25)) := hBW.alloc hBW.size _
  have k1 := k67 (W.alloc (.cells #[.bool na, .slice ua un uc, .int .i64 ea, .bool nb, .slice va 0 vc, .int .i64 eb] 25)) (w.heap.size + 1 + 1 + 1) hB4 (by rw [← hsz]; exact heap_alloc_new _ _)
  have HH : Hid ((W.heap[w.heap.size]? = some (.cells #[.bool na, .slice ua un uc, .int .i64 ea] 25 (0, 0)) ∧ W.heap[w.heap.size + 1]? = some (.cells #[.bool nb, .slice va 0 vc, .int .i64 eb] 25 (0, 0)) ∧ W.heap[w.heap.size + 1 + 1]? = some (.cells #[.bool false, .slice none 0 0, .int .i64 0] 25 (0, 0))) ∧ W.heap.size = w.heap.size + 1 + 1 + 1 ∧ Below w.heap.size w W ∧ Below W.heap.size W (W.alloc (.cells #[.bool na, .slice ua un uc, .int .i64 ea, .bool nb, .slice va 0 vc, .int .i64 eb] 25))) := ⟨⟨hA, hBb, hC⟩, hsz, hBW, (Below.refl _ _).alloc (Nat.le_refl _) _⟩
  clear hA hBb hC hsz hBW hB4 k67
  go_enter Tryz.func32, Tryz.ntmps32
  go_wp2_with fail
  rw [← hW]
  clear hW
  refine k1.mono ?_
  rintro r w1 ⟨rfl, hB1⟩
  clear k1
  have HB1 : Hid (Below W.heap.size W w1) := HH.out.2.2.2.trans (hB1.mono HH.out.2.2.2.size)
  obtain ⟨⟨a0, a1, a2⟩, -⟩ := box_cells (box_later HH.out.1.1 HB1.out (by have := HH.out.2.1; omega))
  obtain ⟨⟨b0, b1, b2⟩, -⟩ := box_cells (box_later HH.out.1.2.1 HB1.out (by have := HH.out.2.1; omega))
  have HC : Hid (w1.heap[w.heap.size + 1 + 1]? = some (.cells #[.bool false, .slice none 0 0, .int .i64 0] 25 (0, 0))) := box_later HH.out.1.2.2 HB1.out (by have := HH.out.2.1; omega)
  obtain ⟨⟨x1, x2, x3⟩, x4, x5, x6⟩ := box_cells HC.out
  clear hB1
  have kP : Calls Tryz.prog 75 #[.int .i64 place] w1 fun r w' => r = .returned (.bool true) ∧ w' = w1 := (pPlace place w1).mono fun r w' ⟨e1, e2⟩ => ⟨by rw [e1, hp], e2⟩
  go_wp2_with fail
  refine kP.mono ?_
  rintro r w2 ⟨rfl, hw⟩
  replace hw := hw.symm
  subst hw
  clear kP
  go_wp2
  refine bodyPost_ret (results_cell_tmp2_row rfl _ _ (w.heap.size + 1 + 1) 25 #[.bool false, .slice none 0 0, .int .i64 0] (0, 0) _ rfl (store3 _ _ _ HC.out) Tryz.underlying25 rfl Tryz.info25) rfl ?_
  exact ⟨rfl, below_store3 (HH.out.2.2.1.trans (HB1.out.mono HH.out.2.2.1.size)) (by omega) _ _ _⟩
end Go.Proofs.YtmhpicccfaklcaaGreatDoor

/- DyadCuts: the law's walk. -/
namespace Go.Proofs.YtmhpicccfaklcaaGreatDoor
set_option linter.unusedVariables false
set_option linter.unusedSimpArgs false
open Go.RowKit

/-- an answer: a number that keeps P, a word whether it is exact, and an error -/
def Out3 (W : World) (P : World → Value → Prop) (B : Bool) (E : Int) (r : Ending) (w' : World) : Prop := ∃ s ao n cap e, r = .returned (.tuple #[.agg #[.bool s, .slice ao n cap, .int .i64 e], .bool B, .int .i64 E]) ∧ P w' (.agg #[.bool s, .slice ao n cap, .int .i64 e]) ∧ Below W.heap.size W w'

structure CutsK (w : World) (A0 A1 : Value) (NG0 NG1 : Bool) (LN0 Z0 LN1 Z1 : Nat) (E0 E01 : Int) (k0 : Int) (PX PY P1 P2 P3 R1 R2 R3 : World → Value → Prop) (B1 B2 B3 : Bool) (E1 E2 E3 : Int) : Prop where
  lPX : Lasts PX
  lPY : Lasts PY
  lP1 : Lasts P1
  lP2 : Lasts P2
  lP3 : Lasts P3
  lR1 : Lasts R1
  lR2 : Lasts R2
  lR3 : Lasts R3
  k1 : ∀ W X, Below w.heap.size w W → PX W X → Calls Tryz.prog 30 #[X, .int .i64 k0] W fun r w' => Out3 W P1 B1 E1 r w'
  q1 : ∀ W, Below w.heap.size w W → Calls Tryz.prog 31 #[A0, .int .i64 k0] W fun r w' => Out3 W R1 B1 E1 r w'
  s1 : ∀ W A C, P1 W A → R1 W C → Calls Tryz.prog 12 #[A, C] W fun r w' => r = .returned (.bool true) ∧ Below W.heap.size W w'
  k2 : ∀ W X Y, Below w.heap.size w W → PX W X → PY W Y → Calls Tryz.prog 32 #[X, Y, .int .i64 k0] W fun r w' => Out3 W P2 B2 E2 r w'
  q2 : ∀ W, Below w.heap.size w W → Calls Tryz.prog 33 #[A0, A1, .int .i64 k0] W fun r w' => Out3 W R2 B2 E2 r w'
  s2 : ∀ W A C, P2 W A → R2 W C → Calls Tryz.prog 12 #[A, C] W fun r w' => r = .returned (.bool true) ∧ Below W.heap.size W w'
  k3 : ∀ W X, Below w.heap.size w W → PX W X → Calls Tryz.prog 34 #[X, .int .i64 k0] W fun r w' => Out3 W P3 B3 E3 r w'
  q3 : ∀ W, Below w.heap.size w W → Calls Tryz.prog 35 #[A0, .int .i64 k0] W fun r w' => Out3 W R3 B3 E3 r w'
  s3 : ∀ W A C, P3 W A → R3 W C → Calls Tryz.prog 12 #[A, C] W fun r w' => r = .returned (.bool true) ∧ Below W.heap.size W w'
  gx : ∀ W v, Below w.heap.size w W → (∃ b, Dn W b v (LN0) (Z0)) → PX W (.agg #[.bool NG0, v, .int .i64 E0])
  gy : ∀ W v, Below w.heap.size w W → (∃ b, Dn W b v (LN1) (Z1)) → PY W (.agg #[.bool NG1, v, .int .i64 E01])
  works : ∀ W, Below w.heap.size w W → Calls Tryz.prog 27 #[] W fun r w' => r = .returned (.bool true) ∧ Below W.heap.size W w'

set_option maxHeartbeats 8000000 in
set_option maxRecDepth 200000 in
theorem law8_1 (ng : Nat → Bool) (ao : Nat → Option Addr) (ln cp z : Nat → Nat) (e : Nat → Int) (k0 : Int) (w : World) (hA : ∀ i, i < 2 → Arg w (ao i) (ln i) (cp i) (z i))
    {PX PY P1 P2 P3 R1 R2 R3 : World → Value → Prop} {B1 B2 B3 : Bool} {E1 E2 E3 : Int} (K : CutsK w (.agg #[.bool (ng 0), .slice (ao 0) (ln 0) (cp 0), .int .i64 (e 0)]) (.agg #[.bool (ng 1), .slice (ao 1) (ln 1) (cp 1), .int .i64 (e 1)]) (ng 0) (ng 1) (ln 0) (z 0) (ln 1) (z 1) (e 0) (e 1) k0 PX PY P1 P2 P3 R1 R2 R3 B1 B2 B3 E1 E2 E3) :
    Calls Tryz.prog 5 #[.agg #[.bool (ng 0), .slice (ao 0) (ln 0) (cp 0), .int .i64 (e 0)], .agg #[.bool (ng 1), .slice (ao 1) (ln 1) (cp 1), .int .i64 (e 1)], .int .i64 k0] w fun r w' => r = .returned (.bool true) ∧ Below w.heap.size w w' := by
  obtain ⟨W, hW⟩ : ∃ W, W = (w.alloc (.cells #[.bool (ng 0), .slice (ao 0) (ln 0) (cp 0), .int .i64 (e 0)] 24)).alloc (.cells #[.bool (ng 1), .slice (ao 1) (ln 1) (cp 1), .int .i64 (e 1)] 24) := ⟨_, rfl⟩
  obtain ⟨hs0, hs1, hsz, hBW⟩ := two29 _ _ hW
  have HBW : Hid (Below w.heap.size w W) := hBW
  have HA3 : ∀ i, i < 2 → Arg W (ao i) (ln i) (cp i) (z i) := fun i hi => (hA i hi).later hBW
  clear hBW hA hsz
  go_enter Tryz.func5, Tryz.ntmps5
  go_upto_region 1 with fail
  rw [← hW]
  clear hW
  go_cut [7, 8] from 27 to 30 (fun p q wx => ∃ (g : Nat → Nat) (v : Nat → Value), p = .pointer (some ⟨g 0, 0, none⟩) ∧ q = .pointer (some ⟨g 1, 0, none⟩) ∧ Hid (Given W wx 2 ng ln z e g v))
  case first =>
    refine give_region 2 (fun k => 3 + k) (fun k => 27 + 2 * k) (fun k => 28 + 2 * k) (fun k => 7 + k) (fun k => w.heap.size + k) ng ao ln cp z e W _ rfl (ord_of (by kernel_rfl)) ?_ ?_ ?_ ?_ ?_ ?_ ?_ ?_ ?_ ?_ ?_ ?_
    · intro k hk
      rcases lt2 hk with rfl | rfl
      · exact ⟨rfl, hs0, HA3 0 hk⟩
      · exact ⟨rfl, hs1, HA3 1 hk⟩
    · intro k hk
      rcases lt2 hk with rfl | rfl <;> decide
    · intro k hk
      rcases lt2 hk with rfl | rfl <;> exact ⟨_, rfl, rfl, rfl, rfl⟩
    · intro k hk
      rcases lt2 hk with rfl | rfl <;> exact ⟨_, rfl, rfl, ⟨_, rfl⟩, rfl, ⟨_, .data⟩, by simp, rfl, rfl⟩
    · intro k hk
      rcases lt2 hk with rfl | rfl <;> exact ⟨_, rfl, rfl, rfl, rfl⟩
    · intro k hk
      rcases lt2 hk with rfl | rfl <;> exact ⟨_, rfl, rfl, rfl, rfl, ⟨⟨_, .data⟩, by simp, rfl, rfl⟩, ⟨_, .data⟩, by simp, rfl, rfl⟩
    · show ∀ j, j < 2 * 2 → gslot (fun k => 27 + 2 * k) (fun k => 28 + 2 * k) j < 121
      decide
    · show ∀ k, k < 2 → 7 + k < 121
      decide
    · decide
    · decide
    · decide
    · intro u v g wx hb hk
      simp only [putL, gslot, show List.range (2 * 2) = [0, 1, 2, 3] from rfl, show List.range 2 = [0, 1] from rfl, List.map_cons, List.map_nil, List.cons_append, List.nil_append, List.foldl_cons, List.foldl_nil, Nat.reduceMod, Nat.reduceDiv, Nat.reduceMul, Nat.reduceAdd, reduceIte, Nat.one_ne_zero, Act.put, List.setIfInBounds_toArray, List.set_cons_zero, List.set_cons_succ]
      go_wp2_with fail
      go_meet
      exact ⟨g, v, rfl, rfl, hb, hk⟩
  case rest =>
    obtain ⟨w8, hw8⟩ : ∃ w8 : World, w8 = wc := ⟨_, rfl⟩
    subst hw8
    obtain ⟨g, v, rfl, rfl, HG⟩ := hcut
    have hB8 : Below w.heap.size w w8 := HBW.out.trans (HG.out.1.mono HBW.out.size)
    have b0 : ∃ ak ck, BB 25 PX w8 (g 0) (ng 0) ak (ln 0) ck (e 0) := by
      obtain ⟨h1, h2, h3⟩ := HG.out.2 0 (by omega)
      have hp := K.gx w8 _ hB8 ⟨_, h1⟩
      obtain ⟨ak, ck, hv, -, -⟩ := h1.at
      rw [hv] at hp h3
      exact ⟨ak, ck, h3, hp⟩
    have b1 : ∃ ak ck, BB 25 PY w8 (g 1) (ng 1) ak (ln 1) ck (e 1) := by
      obtain ⟨h1, h2, h3⟩ := HG.out.2 1 (by omega)
      have hp := K.gy w8 _ hB8 ⟨_, h1⟩
      obtain ⟨ak, ck, hv, -, -⟩ := h1.at
      rw [hv] at hp h3
      exact ⟨ak, ck, h3, hp⟩
    obtain ⟨xa, xc, X0⟩ := b0
    obtain ⟨ya, yc, X1⟩ := b1
    replace X0 : Hid (BB 25 PX w8 (g 0) (ng 0) xa (ln 0) xc (e 0)) := X0
    replace X1 : Hid (BB 25 PY w8 (g 1) (ng 1) ya (ln 1) yc (e 1)) := X1
    have X2 : Hid (BB 24 Any w8 (w.heap.size) (ng 0) (ao 0) (ln 0) (cp 0) (e 0)) := ⟨box_later hs0 HG.out.1 (Array.getElem?_eq_some_iff.1 hs0).1, trivial⟩
    have X3 : Hid (BB 24 Any w8 (w.heap.size + 1) (ng 1) (ao 1) (ln 1) (cp 1) (e 1)) := ⟨box_later hs1 HG.out.1 (Array.getElem?_eq_some_iff.1 hs1).1, trivial⟩
    have HB8 : Hid (Below w.heap.size w w8) := hB8
    clear HG hs0 hs1 HA3 hB8
    obtain ⟨⟨p0, p1, p2⟩, -⟩ := box_cells X0.out.1
    have kc := K.k1 w8 _ HB8.out X0.out.2
    go_wp2_with fail
    refine kc.mono ?_
    rintro r v9 ⟨s9, a9, n9, c9, e9, rfl, hp, hb⟩
    obtain ⟨w9, hW9⟩ : ∃ w9, w9 = v9.alloc (.cells #[.bool s9, .slice a9 n9 c9, .int .i64 e9] 25) := ⟨_, rfl⟩
    have hb' : Below w8.heap.size w8 w9 := by rw [hW9]; exact hb.alloc hb.size _
    have X4 : Hid (BB 25 P1 w9 (v9.heap.size) (s9) a9 (n9) c9 (e9)) := (by rw [hW9]; exact BB.new K.lP1 hp : BB 25 P1 w9 (v9.heap.size) (s9) a9 (n9) c9 (e9))
    replace X0 : Hid (BB 25 PX w9 (g 0) (ng 0) xa (ln 0) xc (e 0)) := X0.out.later K.lPX hb'
    replace X1 : Hid (BB 25 PY w9 (g 1) (ng 1) ya (ln 1) yc (e 1)) := X1.out.later K.lPY hb'
    replace X2 : Hid (BB 24 Any w9 (w.heap.size) (ng 0) (ao 0) (ln 0) (cp 0) (e 0)) := X2.out.later Any.lasts hb'
    replace X3 : Hid (BB 24 Any w9 (w.heap.size + 1) (ng 1) (ao 1) (ln 1) (cp 1) (e 1)) := X3.out.later Any.lasts hb'
    have HB9 : Hid (Below w.heap.size w w9) := HB8.out.trans (hb'.mono HB8.out.size)
    clear kc hb hb' hp p0 p1 p2 HB8
    obtain ⟨⟨p0, p1, p2⟩, -⟩ := box_cells29 X2.out.1
    have kc := K.q1 w9 HB9.out
    rw [hW9] at p0 p1 p2
    go_wp2_with fail
    rw [← hW9]
    clear hW9
    refine kc.mono ?_
    rintro r v10 ⟨s10, a10, n10, c10, e10, rfl, hp, hb⟩
    obtain ⟨w10, hW10⟩ : ∃ w10, w10 = v10.alloc (.cells #[.bool s10, .slice a10 n10 c10, .int .i64 e10] 24) := ⟨_, rfl⟩
    have hb' : Below w9.heap.size w9 w10 := by rw [hW10]; exact hb.alloc hb.size _
    have X5 : Hid (BB 24 R1 w10 (v10.heap.size) (s10) a10 (n10) c10 (e10)) := (by rw [hW10]; exact BB.new K.lR1 hp : BB 24 R1 w10 (v10.heap.size) (s10) a10 (n10) c10 (e10))
    replace X0 : Hid (BB 25 PX w10 (g 0) (ng 0) xa (ln 0) xc (e 0)) := X0.out.later K.lPX hb'
    replace X1 : Hid (BB 25 PY w10 (g 1) (ng 1) ya (ln 1) yc (e 1)) := X1.out.later K.lPY hb'
    replace X2 : Hid (BB 24 Any w10 (w.heap.size) (ng 0) (ao 0) (ln 0) (cp 0) (e 0)) := X2.out.later Any.lasts hb'
    replace X3 : Hid (BB 24 Any w10 (w.heap.size + 1) (ng 1) (ao 1) (ln 1) (cp 1) (e 1)) := X3.out.later Any.lasts hb'
    replace X4 : Hid (BB 25 P1 w10 (v9.heap.size) (s9) a9 (n9) c9 (e9)) := X4.out.later K.lP1 hb'
    have HB10 : Hid (Below w.heap.size w w10) := HB9.out.trans (hb'.mono HB9.out.size)
    clear kc hb hb' hp p0 p1 p2 HB9
    obtain ⟨⟨p0, p1, p2⟩, -⟩ := box_cells X0.out.1
    obtain ⟨⟨q0, q1, q2⟩, -⟩ := box_cells X1.out.1
    have kc := K.k2 w10 _ _ HB10.out X0.out.2 X1.out.2
    rw [hW10] at p0 p1 p2 q0 q1 q2
    go_wp2_with fail
    rw [← hW10]
    clear hW10
    refine kc.mono ?_
    rintro r v11 ⟨s11, a11, n11, c11, e11, rfl, hp, hb⟩
    obtain ⟨w11, hW11⟩ : ∃ w11, w11 = v11.alloc (.cells #[.bool s11, .slice a11 n11 c11, .int .i64 e11] 25) := ⟨_, rfl⟩
    have hb' : Below w10.heap.size w10 w11 := by rw [hW11]; exact hb.alloc hb.size _
    have X6 : Hid (BB 25 P2 w11 (v11.heap.size) (s11) a11 (n11) c11 (e11)) := (by rw [hW11]; exact BB.new K.lP2 hp : BB 25 P2 w11 (v11.heap.size) (s11) a11 (n11) c11 (e11))
    replace X0 : Hid (BB 25 PX w11 (g 0) (ng 0) xa (ln 0) xc (e 0)) := X0.out.later K.lPX hb'
    replace X1 : Hid (BB 25 PY w11 (g 1) (ng 1) ya (ln 1) yc (e 1)) := X1.out.later K.lPY hb'
    replace X2 : Hid (BB 24 Any w11 (w.heap.size) (ng 0) (ao 0) (ln 0) (cp 0) (e 0)) := X2.out.later Any.lasts hb'
    replace X3 : Hid (BB 24 Any w11 (w.heap.size + 1) (ng 1) (ao 1) (ln 1) (cp 1) (e 1)) := X3.out.later Any.lasts hb'
    replace X4 : Hid (BB 25 P1 w11 (v9.heap.size) (s9) a9 (n9) c9 (e9)) := X4.out.later K.lP1 hb'
    replace X5 : Hid (BB 24 R1 w11 (v10.heap.size) (s10) a10 (n10) c10 (e10)) := X5.out.later K.lR1 hb'
    have HB11 : Hid (Below w.heap.size w w11) := HB10.out.trans (hb'.mono HB10.out.size)
    clear kc hb hb' hp p0 p1 p2 q0 q1 q2 HB10
    obtain ⟨⟨p0, p1, p2⟩, -⟩ := box_cells29 X2.out.1
    obtain ⟨⟨q0, q1, q2⟩, -⟩ := box_cells29 X3.out.1
    have kc := K.q2 w11 HB11.out
    rw [hW11] at p0 p1 p2 q0 q1 q2
    go_wp2_with fail
    rw [← hW11]
    clear hW11
    refine kc.mono ?_
    rintro r v12 ⟨s12, a12, n12, c12, e12, rfl, hp, hb⟩
    obtain ⟨w12, hW12⟩ : ∃ w12, w12 = v12.alloc (.cells #[.bool s12, .slice a12 n12 c12, .int .i64 e12] 24) := ⟨_, rfl⟩
    have hb' : Below w11.heap.size w11 w12 := by rw [hW12]; exact hb.alloc hb.size _
    have X7 : Hid (BB 24 R2 w12 (v12.heap.size) (s12) a12 (n12) c12 (e12)) := (by rw [hW12]; exact BB.new K.lR2 hp : BB 24 R2 w12 (v12.heap.size) (s12) a12 (n12) c12 (e12))
    replace X0 : Hid (BB 25 PX w12 (g 0) (ng 0) xa (ln 0) xc (e 0)) := X0.out.later K.lPX hb'
    replace X1 : Hid (BB 25 PY w12 (g 1) (ng 1) ya (ln 1) yc (e 1)) := X1.out.later K.lPY hb'
    replace X2 : Hid (BB 24 Any w12 (w.heap.size) (ng 0) (ao 0) (ln 0) (cp 0) (e 0)) := X2.out.later Any.lasts hb'
    replace X3 : Hid (BB 24 Any w12 (w.heap.size + 1) (ng 1) (ao 1) (ln 1) (cp 1) (e 1)) := X3.out.later Any.lasts hb'
    replace X4 : Hid (BB 25 P1 w12 (v9.heap.size) (s9) a9 (n9) c9 (e9)) := X4.out.later K.lP1 hb'
    replace X5 : Hid (BB 24 R1 w12 (v10.heap.size) (s10) a10 (n10) c10 (e10)) := X5.out.later K.lR1 hb'
    replace X6 : Hid (BB 25 P2 w12 (v11.heap.size) (s11) a11 (n11) c11 (e11)) := X6.out.later K.lP2 hb'
    have HB12 : Hid (Below w.heap.size w w12) := HB11.out.trans (hb'.mono HB11.out.size)
    clear kc hb hb' hp p0 p1 p2 q0 q1 q2 HB11
    obtain ⟨⟨p0, p1, p2⟩, -⟩ := box_cells X0.out.1
    have kc := K.k3 w12 _ HB12.out X0.out.2
    rw [hW12] at p0 p1 p2
    go_wp2_with fail
    rw [← hW12]
    clear hW12
    refine kc.mono ?_
    rintro r v13 ⟨s13, a13, n13, c13, e13, rfl, hp, hb⟩
    obtain ⟨w13, hW13⟩ : ∃ w13, w13 = v13.alloc (.cells #[.bool s13, .slice a13 n13 c13, .int .i64 e13] 25) := ⟨_, rfl⟩
    have hb' : Below w12.heap.size w12 w13 := by rw [hW13]; exact hb.alloc hb.size _
    have X8 : Hid (BB 25 P3 w13 (v13.heap.size) (s13) a13 (n13) c13 (e13)) := (by rw [hW13]; exact BB.new K.lP3 hp : BB 25 P3 w13 (v13.heap.size) (s13) a13 (n13) c13 (e13))
    replace X0 : Hid (BB 25 PX w13 (g 0) (ng 0) xa (ln 0) xc (e 0)) := X0.out.later K.lPX hb'
    replace X1 : Hid (BB 25 PY w13 (g 1) (ng 1) ya (ln 1) yc (e 1)) := X1.out.later K.lPY hb'
    replace X2 : Hid (BB 24 Any w13 (w.heap.size) (ng 0) (ao 0) (ln 0) (cp 0) (e 0)) := X2.out.later Any.lasts hb'
    replace X3 : Hid (BB 24 Any w13 (w.heap.size + 1) (ng 1) (ao 1) (ln 1) (cp 1) (e 1)) := X3.out.later Any.lasts hb'
    replace X4 : Hid (BB 25 P1 w13 (v9.heap.size) (s9) a9 (n9) c9 (e9)) := X4.out.later K.lP1 hb'
    replace X5 : Hid (BB 24 R1 w13 (v10.heap.size) (s10) a10 (n10) c10 (e10)) := X5.out.later K.lR1 hb'
    replace X6 : Hid (BB 25 P2 w13 (v11.heap.size) (s11) a11 (n11) c11 (e11)) := X6.out.later K.lP2 hb'
    replace X7 : Hid (BB 24 R2 w13 (v12.heap.size) (s12) a12 (n12) c12 (e12)) := X7.out.later K.lR2 hb'
    have HB13 : Hid (Below w.heap.size w w13) := HB12.out.trans (hb'.mono HB12.out.size)
    clear kc hb hb' hp p0 p1 p2 HB12
    obtain ⟨⟨p0, p1, p2⟩, -⟩ := box_cells29 X2.out.1
    have kc := K.q3 w13 HB13.out
    rw [hW13] at p0 p1 p2
    go_wp2_with fail
    rw [← hW13]
    clear hW13
    refine kc.mono ?_
    rintro r v14 ⟨s14, a14, n14, c14, e14, rfl, hp, hb⟩
    obtain ⟨w14, hW14⟩ : ∃ w14, w14 = v14.alloc (.cells #[.bool s14, .slice a14 n14 c14, .int .i64 e14] 24) := ⟨_, rfl⟩
    have hb' : Below w13.heap.size w13 w14 := by rw [hW14]; exact hb.alloc hb.size _
    have X9 : Hid (BB 24 R3 w14 (v14.heap.size) (s14) a14 (n14) c14 (e14)) := (by rw [hW14]; exact BB.new K.lR3 hp : BB 24 R3 w14 (v14.heap.size) (s14) a14 (n14) c14 (e14))
    replace X0 : Hid (BB 25 PX w14 (g 0) (ng 0) xa (ln 0) xc (e 0)) := X0.out.later K.lPX hb'
    replace X1 : Hid (BB 25 PY w14 (g 1) (ng 1) ya (ln 1) yc (e 1)) := X1.out.later K.lPY hb'
    replace X2 : Hid (BB 24 Any w14 (w.heap.size) (ng 0) (ao 0) (ln 0) (cp 0) (e 0)) := X2.out.later Any.lasts hb'
    replace X3 : Hid (BB 24 Any w14 (w.heap.size + 1) (ng 1) (ao 1) (ln 1) (cp 1) (e 1)) := X3.out.later Any.lasts hb'
    replace X4 : Hid (BB 25 P1 w14 (v9.heap.size) (s9) a9 (n9) c9 (e9)) := X4.out.later K.lP1 hb'
    replace X5 : Hid (BB 24 R1 w14 (v10.heap.size) (s10) a10 (n10) c10 (e10)) := X5.out.later K.lR1 hb'
    replace X6 : Hid (BB 25 P2 w14 (v11.heap.size) (s11) a11 (n11) c11 (e11)) := X6.out.later K.lP2 hb'
    replace X7 : Hid (BB 24 R2 w14 (v12.heap.size) (s12) a12 (n12) c12 (e12)) := X7.out.later K.lR2 hb'
    replace X8 : Hid (BB 25 P3 w14 (v13.heap.size) (s13) a13 (n13) c13 (e13)) := X8.out.later K.lP3 hb'
    have HB14 : Hid (Below w.heap.size w w14) := HB13.out.trans (hb'.mono HB13.out.size)
    clear kc hb hb' hp p0 p1 p2 HB13
    obtain ⟨⟨p0, p1, p2⟩, -⟩ := box_cells X4.out.1
    obtain ⟨⟨q0, q1, q2⟩, -⟩ := box_cells29 X5.out.1
    have kc := K.s1 w14 _ _ X4.out.2 X5.out.2
    rw [hW14] at p0 p1 p2 q0 q1 q2
    go_wp2_with fail
    rw [← hW14]
    clear hW14
    refine kc.mono ?_
    rintro r w20 ⟨rfl, hb'⟩
    replace X0 : Hid (BB 25 PX w20 (g 0) (ng 0) xa (ln 0) xc (e 0)) := X0.out.later K.lPX hb'
    replace X1 : Hid (BB 25 PY w20 (g 1) (ng 1) ya (ln 1) yc (e 1)) := X1.out.later K.lPY hb'
    replace X2 : Hid (BB 24 Any w20 (w.heap.size) (ng 0) (ao 0) (ln 0) (cp 0) (e 0)) := X2.out.later Any.lasts hb'
    replace X3 : Hid (BB 24 Any w20 (w.heap.size + 1) (ng 1) (ao 1) (ln 1) (cp 1) (e 1)) := X3.out.later Any.lasts hb'
    replace X4 : Hid (BB 25 P1 w20 (v9.heap.size) (s9) a9 (n9) c9 (e9)) := X4.out.later K.lP1 hb'
    replace X5 : Hid (BB 24 R1 w20 (v10.heap.size) (s10) a10 (n10) c10 (e10)) := X5.out.later K.lR1 hb'
    replace X6 : Hid (BB 25 P2 w20 (v11.heap.size) (s11) a11 (n11) c11 (e11)) := X6.out.later K.lP2 hb'
    replace X7 : Hid (BB 24 R2 w20 (v12.heap.size) (s12) a12 (n12) c12 (e12)) := X7.out.later K.lR2 hb'
    replace X8 : Hid (BB 25 P3 w20 (v13.heap.size) (s13) a13 (n13) c13 (e13)) := X8.out.later K.lP3 hb'
    replace X9 : Hid (BB 24 R3 w20 (v14.heap.size) (s14) a14 (n14) c14 (e14)) := X9.out.later K.lR3 hb'
    have HB20 : Hid (Below w.heap.size w w20) := HB14.out.trans (hb'.mono HB14.out.size)
    clear kc hb' p0 p1 p2 q0 q1 q2 HB14
    obtain ⟨⟨p0, p1, p2⟩, -⟩ := box_cells X6.out.1
    obtain ⟨⟨q0, q1, q2⟩, -⟩ := box_cells29 X7.out.1
    have kc := K.s2 w20 _ _ X6.out.2 X7.out.2
    go_wp2_with fail
    refine kc.mono ?_
    rintro r w21 ⟨rfl, hb'⟩
    replace X0 : Hid (BB 25 PX w21 (g 0) (ng 0) xa (ln 0) xc (e 0)) := X0.out.later K.lPX hb'
    replace X1 : Hid (BB 25 PY w21 (g 1) (ng 1) ya (ln 1) yc (e 1)) := X1.out.later K.lPY hb'
    replace X2 : Hid (BB 24 Any w21 (w.heap.size) (ng 0) (ao 0) (ln 0) (cp 0) (e 0)) := X2.out.later Any.lasts hb'
    replace X3 : Hid (BB 24 Any w21 (w.heap.size + 1) (ng 1) (ao 1) (ln 1) (cp 1) (e 1)) := X3.out.later Any.lasts hb'
    replace X4 : Hid (BB 25 P1 w21 (v9.heap.size) (s9) a9 (n9) c9 (e9)) := X4.out.later K.lP1 hb'
    replace X5 : Hid (BB 24 R1 w21 (v10.heap.size) (s10) a10 (n10) c10 (e10)) := X5.out.later K.lR1 hb'
    replace X6 : Hid (BB 25 P2 w21 (v11.heap.size) (s11) a11 (n11) c11 (e11)) := X6.out.later K.lP2 hb'
    replace X7 : Hid (BB 24 R2 w21 (v12.heap.size) (s12) a12 (n12) c12 (e12)) := X7.out.later K.lR2 hb'
    replace X8 : Hid (BB 25 P3 w21 (v13.heap.size) (s13) a13 (n13) c13 (e13)) := X8.out.later K.lP3 hb'
    replace X9 : Hid (BB 24 R3 w21 (v14.heap.size) (s14) a14 (n14) c14 (e14)) := X9.out.later K.lR3 hb'
    have HB21 : Hid (Below w.heap.size w w21) := HB20.out.trans (hb'.mono HB20.out.size)
    clear kc hb' p0 p1 p2 q0 q1 q2 HB20
    obtain ⟨⟨p0, p1, p2⟩, -⟩ := box_cells X8.out.1
    obtain ⟨⟨q0, q1, q2⟩, -⟩ := box_cells29 X9.out.1
    have kc := K.s3 w21 _ _ X8.out.2 X9.out.2
    go_wp2_with fail
    refine kc.mono ?_
    rintro r w22 ⟨rfl, hb'⟩
    replace X0 : Hid (BB 25 PX w22 (g 0) (ng 0) xa (ln 0) xc (e 0)) := X0.out.later K.lPX hb'
    replace X1 : Hid (BB 25 PY w22 (g 1) (ng 1) ya (ln 1) yc (e 1)) := X1.out.later K.lPY hb'
    replace X2 : Hid (BB 24 Any w22 (w.heap.size) (ng 0) (ao 0) (ln 0) (cp 0) (e 0)) := X2.out.later Any.lasts hb'
    replace X3 : Hid (BB 24 Any w22 (w.heap.size + 1) (ng 1) (ao 1) (ln 1) (cp 1) (e 1)) := X3.out.later Any.lasts hb'
    replace X4 : Hid (BB 25 P1 w22 (v9.heap.size) (s9) a9 (n9) c9 (e9)) := X4.out.later K.lP1 hb'
    replace X5 : Hid (BB 24 R1 w22 (v10.heap.size) (s10) a10 (n10) c10 (e10)) := X5.out.later K.lR1 hb'
    replace X6 : Hid (BB 25 P2 w22 (v11.heap.size) (s11) a11 (n11) c11 (e11)) := X6.out.later K.lP2 hb'
    replace X7 : Hid (BB 24 R2 w22 (v12.heap.size) (s12) a12 (n12) c12 (e12)) := X7.out.later K.lR2 hb'
    replace X8 : Hid (BB 25 P3 w22 (v13.heap.size) (s13) a13 (n13) c13 (e13)) := X8.out.later K.lP3 hb'
    replace X9 : Hid (BB 24 R3 w22 (v14.heap.size) (s14) a14 (n14) c14 (e14)) := X9.out.later K.lR3 hb'
    have HB22 : Hid (Below w.heap.size w w22) := HB21.out.trans (hb'.mono HB21.out.size)
    clear kc hb' p0 p1 p2 q0 q1 q2 HB21
    have kc := K.works w22 HB22.out
    go_wp2_with fail
    refine kc.mono ?_
    rintro r w23 ⟨rfl, hb'⟩
    have HB23 : Hid (Below w.heap.size w w23) := HB22.out.trans (hb'.mono HB22.out.size)
    clear kc hb'
    go_wp2_with fail
    go_ret
    exact ⟨rfl, HB23.out⟩
end Go.Proofs.YtmhpicccfaklcaaGreatDoor

/- DyadSums. -/
namespace Go.Proofs.YtmhpicccfaklcaaGreatDoor
set_option linter.unusedVariables false
set_option linter.unusedSimpArgs false
open Go.RowKit

/-- mayBe of two numbers, that may be or not -/
theorem maybe2_at {na nb : Bool} {ua va : Option Addr} {un uc vn vc x y g : Nat} {ea eb : Int} {W : World} (hg : W.heap[g]? = some (.cells #[.bool na, .slice ua un uc, .int .i64 ea, .bool nb, .slice va vn vc, .int .i64 eb] 25 (0, 0)))
    (h1 : At W ua un x) (h2 : At W va vn y) (hx : un ≤ 35184372088832) (hy : vn ≤ 35184372088832) :
    Calls Tryz.prog 47 #[.slice (some ⟨g, 0, none⟩) 2 2] W fun r w' => r = .returned (.bool (okN na un x ea && okN nb vn y eb)) ∧ Below W.heap.size W w' := by
  have k := c67 g 2 (fun i => if i = 0 then na else nb) (fun i => if i = 0 then ua else va) (fun i => if i = 0 then un else vn) (fun i => if i = 0 then uc else vc) (fun i => if i = 0 then x else y) (fun i => if i = 0 then ea else eb) W (by omega)
    (fun i hi => by rcases (show i = 0 ∨ i = 1 by omega) with rfl | rfl <;> simp [World.cell?, hg])
    (fun i hi => by rcases (show i = 0 ∨ i = 1 by omega) with rfl | rfl <;> simp [World.cell?, hg])
    (fun i hi => by rcases (show i = 0 ∨ i = 1 by omega) with rfl | rfl <;> simp [World.cell?, hg])
    (fun i hi => by rcases (show i = 0 ∨ i = 1 by omega) with rfl | rfl <;> simp <;> assumption)
    (fun i hi => by rcases (show i = 0 ∨ i = 1 by omega) with rfl | rfl <;> simp <;> omega)
  refine k.mono ?_
  rintro r w' ⟨rfl, hb⟩
  refine ⟨congrArg Ending.returned (congrArg Value.bool ?_), hb⟩
  rw [Bool.eq_iff_iff]
  simp only [decide_eq_true_eq, Bool.and_eq_true]
  constructor
  · intro h
    have h0 := h 0 (by omega)
    have h1 := h 1 (by omega)
    simp at h0 h1
    exact ⟨h0, h1⟩
  · rintro ⟨h0, h1⟩ i hi
    rcases (show i = 0 ∨ i = 1 by omega) with rfl | rfl
    · simpa using h0
    · simpa using h1
theorem maybe1_at {na : Bool} {ua : Option Addr} {un uc x g : Nat} {ea : Int} {W : World} (hg : W.heap[g]? = some (.cells #[.bool na, .slice ua un uc, .int .i64 ea] 25 (0, 0)))
    (h1 : At W ua un x) (hx : un ≤ 35184372088832) :
    Calls Tryz.prog 47 #[.slice (some ⟨g, 0, none⟩) 1 1] W fun r w' => r = .returned (.bool (okN na un x ea)) ∧ Below W.heap.size W w' := by
  have k := c67 g 1 (fun _ => na) (fun _ => ua) (fun _ => un) (fun _ => uc) (fun _ => x) (fun _ => ea) W (by omega)
    (fun i hi => by obtain rfl : i = 0 := by omega
                    simp [World.cell?, hg])
    (fun i hi => by obtain rfl : i = 0 := by omega
                    simp [World.cell?, hg])
    (fun i hi => by obtain rfl : i = 0 := by omega
                    simp [World.cell?, hg])
    (fun i hi => h1) (fun i hi => hx)
  refine k.mono ?_
  rintro r w' ⟨rfl, hb⟩
  refine ⟨congrArg Ending.returned (congrArg Value.bool ?_), hb⟩
  rw [Bool.eq_iff_iff]
  simp only [decide_eq_true_eq]
  exact ⟨fun h => h 0 (by omega), fun h i _ => h⟩

/-- digits that give laid -/
def PI (s : Bool) (n z : Nat) (e : Int) (W : World) (A : Value) : Prop := ∃ v b, A = .agg #[.bool s, v, .int .i64 e] ∧ Dn W b v n z
theorem PI.lasts (s : Bool) (n z : Nat) (e : Int) : Lasts (PI s n z e) := fun W W' A hb ⟨v, b, h1, h2⟩ => ⟨v, b, h1, h2.later hb⟩
theorem PN.lasts (t : Bool × Nat × Int) : Lasts (fun W A => PN W A t) := fun W W' A hb h => h.later hb
theorem RN.lasts (t : Bool × Nat × Int) : Lasts (fun W A => ∃ b, RN W b A t) := fun W W' A hb ⟨b, h⟩ => ⟨b, h.later hb⟩
theorem pn_nil (w : World) : PN w (.agg #[.bool false, .slice none 0 0, .int .i64 0]) (false, 0, 0) := ⟨none, 0, by rw [dlen_zero], by rw [dlen_zero]; exact is_nil w⟩

theorem held_out {w : World} {s : Bool} {z : Nat} {e : Int} {r : Ending} {w' : World} (h : Held w s z e r w') : Out w (fun W A => PN W A (Ans (okR s z e) (cn s z e))) (if okR s z e then 0 else 2) r w' := by
  obtain ⟨A, rfl, hN, hb⟩ := h
  have hp := hN.pn
  cases hV : okR s z e
  · exact ⟨_, _, _, _, _, rfl, pn_nil w', hb⟩
  · obtain ⟨s', ao, n, cap, e', rfl⟩ := hp.shape
    exact ⟨s', ao, n, cap, e', rfl, hp, hb⟩
theorem ansR_out {w : World} {V : Bool} {t : Bool × Nat × Int} {r : Ending} {w' : World} (h : AnsR w V t r w') : Out w (fun W A => ∃ b, RN W b A (Ans V t)) (if V then 0 else 2) r w' := by
  obtain ⟨A, rfl, hN, hb⟩ := h
  obtain ⟨s', ao, n, cap, e', rfl⟩ := hN.shape
  exact ⟨s', ao, n, cap, e', rfl, ⟨_, hN⟩, hb⟩
theorem Ans.len {V : Bool} {t : Bool × Nat × Int} (h : V = true → dlen t.2.1 ≤ 35184372088832) : dlen (Ans V t).2.1 ≤ 35184372088832 := by
  unfold Ans
  cases V
  · rw [if_neg (by simp)]; show dlen 0 ≤ _; rw [dlen_zero]; omega
  · rw [if_pos rfl]; exact h rfl
theorem ok_len {s : Bool} {z : Nat} {e : Int} (h : okR s z e = true) : dlen (cn s z e).2.1 ≤ 35184372088832 := by
  have := (ok_cn h).facts.1
  omega

theorem same_pr {W : World} {A C : Value} {t : Bool × Nat × Int} (hl : dlen t.2.1 ≤ 35184372088832) (h1 : PN W A t) (h2 : ∃ b, RN W b C t) :
    Calls Tryz.prog 12 #[A, C] W fun r w' => r = .returned (.bool true) ∧ Below W.heap.size W w' := by
  obtain ⟨ua, uc, rfl, i1⟩ := h1
  obtain ⟨b, va, vc, rfl, -, i2⟩ := h2
  obtain ⟨ao, cap, e1, -, -, at1⟩ := i1
  simp only [Value.slice.injEq] at e1
  obtain ⟨rfl, -, rfl⟩ := e1
  exact same_1 t.1 t.2.2 ua va _ uc vc t.2.1 W at1 i2 hl
theorem same_in {W : World} {X : Value} {s : Bool} {ua : Option Addr} {n uc z : Nat} {e : Int} (h1 : PI s n z e W X) (h2 : Arg W ua n uc z) :
    Calls Tryz.prog 12 #[X, .agg #[.bool s, .slice ua n uc, .int .i64 e]] W fun r w' => r = .returned (.bool true) ∧ Below W.heap.size W w' := by
  obtain ⟨v, b, rfl, d1⟩ := h1
  obtain ⟨pa, pc, rfl, p1, p2⟩ := d1.at
  exact same_1 s e pa ua n pc uc z W p2 h2.at_ h2.small

end Go.Proofs.YtmhpicccfaklcaaGreatDoor

/- DyadCuts. -/
namespace Go.Proofs.YtmhpicccfaklcaaGreatDoor
set_option linter.unusedVariables false
set_option linter.unusedSimpArgs false
open Go.RowKit

theorem held3_out {w : World} {s : Bool} {z : Nat} {e : Int} {x : Bool} {r : Ending} {w' : World} (h : Held3 w s z e x r w') : Out3 w (fun W A => PN W A (Ans (okR s z e) (cn s z e))) (x && okR s z e) (if okR s z e then 0 else 2) r w' := by
  obtain ⟨A, rfl, hN, hb⟩ := h
  have hp := hN.pn
  cases hV : okR s z e
  · exact ⟨_, _, _, _, _, rfl, pn_nil w', hb⟩
  · obtain ⟨s', ao, n, cap, e', rfl⟩ := hp.shape
    exact ⟨s', ao, n, cap, e', rfl, hp, hb⟩
theorem ans3_out {w : World} {V : Bool} {t : Bool × Nat × Int} {x : Bool} {r : Ending} {w' : World} (h : Ans3 w V t x r w') : Out3 w (fun W A => ∃ b, RN W b A (Ans V t)) (x && V) (if V then 0 else 2) r w' := by
  obtain ⟨A, rfl, hN, hb⟩ := h
  obtain ⟨s', ao, n, cap, e', rfl⟩ := hN.shape
  exact ⟨s', ao, n, cap, e', rfl, ⟨_, hN⟩, hb⟩
theorem root_ex (a : Nat) : ∃ s, s * s ≤ a ∧ a < (s + 1) * (s + 1) := by
  induction a with
  | zero => exact ⟨0, by omega, by omega⟩
  | succ n ih =>
    obtain ⟨s, h1, h2⟩ := ih
    by_cases h : n + 1 < (s + 1) * (s + 1)
    · exact ⟨s, by omega, h⟩
    · refine ⟨s + 1, by omega, ?_⟩
      have : (s + 1 + 1) * (s + 1 + 1) = (s + 1) * (s + 1) + 2 * (s + 1) + 1 := by grind
      omega
theorem place_eq {place : Int} {b : Bool} (h : (decide (-65536 ≤ place) && decide (place ≤ 65536)) = true) : -65536 ≤ place ∧ place ≤ 65536 := by
  simpa using h

theorem join_Floor {na : Bool} {ua : Option Addr} {un uc x : Nat} {ea k0 : Int} {w : World} (hT : Tab32 w) (h1 : Arg w ua un uc x) (hx : dlen x ≤ un) :
    ∃ t B E, dlen t.2.1 ≤ 35184372088832 ∧
      (∀ W X, Below w.heap.size w W → PI na un x ea W X → Calls Tryz.prog 30 #[X, .int .i64 k0] W fun r w' => Out3 W (fun W A => PN W A t) B E r w') ∧
      (∀ W, Below w.heap.size w W → Calls Tryz.prog 31 #[.agg #[.bool na, .slice ua un uc, .int .i64 ea], .int .i64 k0] W fun r w' => Out3 W (fun W A => ∃ b, RN W b A t) B E r w') := by
  have kV : ∀ V, okN na un x ea = V → ∀ W, Below w.heap.size w W → ∀ W', Below W.heap.size W W' → Calls Tryz.prog 11 #[.agg #[.bool na, .slice ua un uc, .int .i64 ea]] W' fun r w' => r = .returned (.bool V) ∧ Below W'.heap.size W' w' := fun V hV W hW W' hW' => by
    have := rvalid (s := na) (e := ea) ((h1.later hW).later hW')
    rw [hV] at this
    exact this
  have hsm := h1.small
  have kM : ∀ V, okN na un x ea = V → ∀ W pa pc, At W pa un x → ∀ W' g, Below W.heap.size W W' → W'.heap[g]? = some (.cells #[.bool na, .slice pa un pc, .int .i64 ea] 25 (0, 0)) → Calls Tryz.prog 47 #[.slice (some ⟨g, 0, none⟩) 1 1] W' fun r w' => r = .returned (.bool V) ∧ Below W'.heap.size W' w' := fun V hV W pa pc p2 W' g hW' hg => by
    have := maybe1_at hg (p2.later hW') hsm
    rw [hV] at this
    exact this
  cases hok : okN na un x ea
  · refine ⟨(false, 0, 0), false, 1, by rw [dlen_zero]; omega, fun W X hW hX => ?_, fun W hW => ?_⟩
    · obtain ⟨v, b, rfl, d1⟩ := hX
      obtain ⟨pa, pc, rfl, p1, p2⟩ := d1.at
      refine (pFloor_no1 na pa un pc ea k0 W (kM _ hok W pa pc p2)).mono ?_
      rintro r w' ⟨rfl, hb⟩
      exact ⟨_, _, _, _, _, rfl, pn_nil w', hb⟩
    · refine (rfloor_no1 na ua un uc ea k0 W (kV _ hok W hW)).mono ?_
      rintro r w' ⟨rfl, hb⟩
      exact ⟨_, _, _, _, _, rfl, ⟨0, rn_nil w' 0⟩, hb⟩
  · cases hp : (decide (-65536 ≤ k0) && decide (k0 ≤ 65536))
    · refine ⟨(false, 0, 0), false, 1, by rw [dlen_zero]; omega, fun W X hW hX => ?_, fun W hW => ?_⟩
      · obtain ⟨v, b, rfl, d1⟩ := hX
        obtain ⟨pa, pc, rfl, p1, p2⟩ := d1.at
        refine (pFloor_no2 na pa un pc ea k0 W hp (kM _ hok W pa pc p2)).mono ?_
        rintro r w' ⟨rfl, hb⟩
        exact ⟨_, _, _, _, _, rfl, pn_nil w', hb⟩
      · refine (rfloor_no2 na ua un uc ea k0 W hp (kV _ hok W hW)).mono ?_
        rintro r w' ⟨rfl, hb⟩
        exact ⟨_, _, _, _, _, rfl, ⟨0, rn_nil w' 0⟩, hb⟩
    · have hp' := place_eq (b := true) hp
      obtain rfl := okN_len hx hok
      have ok1 : Ok (na, x, ea) := hok
      have f1 := ok1.facts
      simp only at f1
      refine ⟨Ans (okR na (flZ na x ea k0) (-k0)) (cn na (flZ na x ea k0) (-k0)), (flE x ea k0 && okR na (flZ na x ea k0) (-k0)), if okR na (flZ na x ea k0) (-k0) then 0 else 2, Ans.len ok_len, fun W X hW hX => ?_, fun W hW => ?_⟩
      · obtain ⟨v, b, rfl, d1⟩ := hX
        obtain ⟨pa, pc, e1, i1⟩ := dn_pn (s := na) (e := ea) d1
        simp only at e1 i1
        rw [e1]
        exact (floor_ok i1 (hT.later hW) (by omega) hok ⟨f1.2.1, f1.2.2.1⟩ hp').mono fun r w' h => held3_out h
      · exact (rfloor_good (h1.later hW) ok1 hok hp').mono fun r w' h => ans3_out h

theorem join_Root {na : Bool} {ua : Option Addr} {un uc x : Nat} {ea k0 : Int} {w : World} (hT : Tab32 w) (h1 : Arg w ua un uc x) (hx : dlen x ≤ un) :
    ∃ t B E, dlen t.2.1 ≤ 35184372088832 ∧
      (∀ W X, Below w.heap.size w W → PI na un x ea W X → Calls Tryz.prog 34 #[X, .int .i64 k0] W fun r w' => Out3 W (fun W A => PN W A t) B E r w') ∧
      (∀ W, Below w.heap.size w W → Calls Tryz.prog 35 #[.agg #[.bool na, .slice ua un uc, .int .i64 ea], .int .i64 k0] W fun r w' => Out3 W (fun W A => ∃ b, RN W b A t) B E r w') := by
  have kV : ∀ V, okN na un x ea = V → ∀ W, Below w.heap.size w W → ∀ W', Below W.heap.size W W' → Calls Tryz.prog 11 #[.agg #[.bool na, .slice ua un uc, .int .i64 ea]] W' fun r w' => r = .returned (.bool V) ∧ Below W'.heap.size W' w' := fun V hV W hW W' hW' => by
    have := rvalid (s := na) (e := ea) ((h1.later hW).later hW')
    rw [hV] at this
    exact this
  have hsm := h1.small
  have kM : ∀ V, okN na un x ea = V → ∀ W pa pc, At W pa un x → ∀ W' g, Below W.heap.size W W' → W'.heap[g]? = some (.cells #[.bool na, .slice pa un pc, .int .i64 ea] 25 (0, 0)) → Calls Tryz.prog 47 #[.slice (some ⟨g, 0, none⟩) 1 1] W' fun r w' => r = .returned (.bool V) ∧ Below W'.heap.size W' w' := fun V hV W pa pc p2 W' g hW' hg => by
    have := maybe1_at hg (p2.later hW') hsm
    rw [hV] at this
    exact this
  cases hok : okN na un x ea
  · refine ⟨(false, 0, 0), false, 1, by rw [dlen_zero]; omega, fun W X hW hX => ?_, fun W hW => ?_⟩
    · obtain ⟨v, b, rfl, d1⟩ := hX
      obtain ⟨pa, pc, rfl, p1, p2⟩ := d1.at
      refine (pRoot_no1 na pa un pc ea k0 W (kM _ hok W pa pc p2)).mono ?_
      rintro r w' ⟨rfl, hb⟩
      exact ⟨_, _, _, _, _, rfl, pn_nil w', hb⟩
    · refine (rroot_no1 na ua un uc ea k0 W (kV _ hok W hW)).mono ?_
      rintro r w' ⟨rfl, hb⟩
      exact ⟨_, _, _, _, _, rfl, ⟨0, rn_nil w' 0⟩, hb⟩
  · cases hp : (decide (-65536 ≤ k0) && decide (k0 ≤ 65536))
    · refine ⟨(false, 0, 0), false, 1, by rw [dlen_zero]; omega, fun W X hW hX => ?_, fun W hW => ?_⟩
      · obtain ⟨v, b, rfl, d1⟩ := hX
        obtain ⟨pa, pc, rfl, p1, p2⟩ := d1.at
        refine (pRoot_no2 na pa un pc ea k0 W hp (kM _ hok W pa pc p2)).mono ?_
        rintro r w' ⟨rfl, hb⟩
        exact ⟨_, _, _, _, _, rfl, pn_nil w', hb⟩
      · refine (rroot_no2 na ua un uc ea k0 W hp (kV _ hok W hW)).mono ?_
        rintro r w' ⟨rfl, hb⟩
        exact ⟨_, _, _, _, _, rfl, ⟨0, rn_nil w' 0⟩, hb⟩
    · have hp' := place_eq (b := true) hp
      cases na
      · obtain rfl := okN_len hx hok
        have ok1 : Ok (false, x, ea) := hok
        have f1 := ok1.facts
        simp only at f1
        obtain ⟨s0, g1, g2⟩ := root_ex (rtQ x ea k0)
        refine ⟨Ans (okR false s0 (-k0)) (cn false s0 (-k0)), ((decide (0 ≤ ea + 2 * k0 ∨ x = 0) && decide (s0 * s0 = rtQ x ea k0)) && okR false s0 (-k0)), if okR false s0 (-k0) then 0 else 2, Ans.len ok_len, fun W X hW hX => ?_, fun W hW => ?_⟩
        · obtain ⟨v, b, rfl, d1⟩ := hX
          obtain ⟨pa, pc, e1, i1⟩ := dn_pn (s := false) (e := ea) d1
          simp only at e1 i1
          rw [e1]
          refine (root_ok i1 (hT.later hW) (by omega) hok ⟨f1.2.1, f1.2.2.1⟩ hp').mono ?_
          rintro r w' ⟨m, ⟨m1, m2⟩, h⟩
          obtain rfl := root_one g1 g2 m1 m2
          exact held3_out h
        · refine (rroot_good (h1.later hW) ok1 hok hp').mono ?_
          rintro r w' ⟨m, ⟨m1, m2⟩, h⟩
          obtain rfl := root_one g1 g2 m1 m2
          exact ans3_out h
      · refine ⟨(false, 0, 0), false, 7, by rw [dlen_zero]; omega, fun W X hW hX => ?_, fun W hW => ?_⟩
        · obtain ⟨v, b, rfl, d1⟩ := hX
          obtain ⟨pa, pc, rfl, p1, p2⟩ := d1.at
          refine (pRoot_nod true pa un pc ea k0 W hp (kM _ hok W pa pc p2)).mono ?_
          rintro r w' ⟨rfl, hb⟩
          exact ⟨_, _, _, _, _, rfl, pn_nil w', hb⟩
        · refine (rroot_nod true ua un uc ea k0 W hp (kV _ hok W hW)).mono ?_
          rintro r w' ⟨rfl, hb⟩
          exact ⟨_, _, _, _, _, rfl, ⟨0, rn_nil w' 0⟩, hb⟩

theorem join_Quo {na nb : Bool} {ua va : Option Addr} {un uc vn vc x y : Nat} {ea eb k0 : Int} {w : World} (hT : Tab32 w) (h1 : Arg w ua un uc x) (h2 : Arg w va vn vc y) (hx : dlen x ≤ un) (hy : dlen y ≤ vn) :
    ∃ t B E, dlen t.2.1 ≤ 35184372088832 ∧
      (∀ W X Y, Below w.heap.size w W → PI na un x ea W X → PI nb vn y eb W Y → Calls Tryz.prog 32 #[X, Y, .int .i64 k0] W fun r w' => Out3 W (fun W A => PN W A t) B E r w') ∧
      (∀ W, Below w.heap.size w W → Calls Tryz.prog 33 #[.agg #[.bool na, .slice ua un uc, .int .i64 ea], .agg #[.bool nb, .slice va vn vc, .int .i64 eb], .int .i64 k0] W fun r w' => Out3 W (fun W A => ∃ b, RN W b A t) B E r w') := by
  have kK : ∀ V, (okN na un x ea && okN nb vn y eb) = V → ∀ W, Below w.heap.size w W → ∀ W' g, Below W.heap.size W W' → W'.heap[g]? = some (.cells #[.bool na, .slice ua un uc, .int .i64 ea, .bool nb, .slice va vn vc, .int .i64 eb] 24 (0, 0)) → Calls Tryz.prog 83 #[.slice (some ⟨g, 0, none⟩) 2 2] W' fun r w' => r = .returned (.bool V) ∧ Below W'.heap.size W' w' := fun V hV W hW W' g hW' hg => by
    have := rknown2 hg ((h1.later hW).later hW') ((h2.later hW).later hW')
    rw [hV] at this
    exact this
  have kM : ∀ V, (okN na un x ea && okN nb vn y eb) = V → ∀ W pa pc qa qc, At W pa un x → At W qa vn y → ∀ W' g, Below W.heap.size W W' → W'.heap[g]? = some (.cells #[.bool na, .slice pa un pc, .int .i64 ea, .bool nb, .slice qa vn qc, .int .i64 eb] 25 (0, 0)) → Calls Tryz.prog 47 #[.slice (some ⟨g, 0, none⟩) 2 2] W' fun r w' => r = .returned (.bool V) ∧ Below W'.heap.size W' w' := fun V hV W pa pc qa qc p2 q2 W' g hW' hg => by
    have := maybe2_at hg (p2.later hW') (q2.later hW') h1.small h2.small
    rw [hV] at this
    exact this
  cases hok : (okN na un x ea && okN nb vn y eb)
  · refine ⟨(false, 0, 0), false, 1, by rw [dlen_zero]; omega, fun W X Y hW hX hY => ?_, fun W hW => ?_⟩
    · obtain ⟨v, b, rfl, d1⟩ := hX
      obtain ⟨v', b', rfl, d2⟩ := hY
      obtain ⟨pa, pc, rfl, p1, p2⟩ := d1.at
      obtain ⟨qa, qc, rfl, q1, q2⟩ := d2.at
      refine (pQuo_no1 na nb pa qa un pc vn qc ea eb k0 W (kM _ hok W pa pc qa qc p2 q2)).mono ?_
      rintro r w' ⟨rfl, hb⟩
      exact ⟨_, _, _, _, _, rfl, pn_nil w', hb⟩
    · refine (rquo_no1 na nb ua va un uc vn vc ea eb k0 W (kK _ hok W hW)).mono ?_
      rintro r w' ⟨rfl, hb⟩
      exact ⟨_, _, _, _, _, rfl, ⟨0, rn_nil w' 0⟩, hb⟩
  · cases hp : (decide (-65536 ≤ k0) && decide (k0 ≤ 65536))
    · refine ⟨(false, 0, 0), false, 1, by rw [dlen_zero]; omega, fun W X Y hW hX hY => ?_, fun W hW => ?_⟩
      · obtain ⟨v, b, rfl, d1⟩ := hX
        obtain ⟨v', b', rfl, d2⟩ := hY
        obtain ⟨pa, pc, rfl, p1, p2⟩ := d1.at
        obtain ⟨qa, qc, rfl, q1, q2⟩ := d2.at
        refine (pQuo_no2 na nb pa qa un pc vn qc ea eb k0 W hp (kM _ hok W pa pc qa qc p2 q2)).mono ?_
        rintro r w' ⟨rfl, hb⟩
        exact ⟨_, _, _, _, _, rfl, pn_nil w', hb⟩
      · refine (rquo_no2 na nb ua va un uc vn vc ea eb k0 W hp (kK _ hok W hW)).mono ?_
        rintro r w' ⟨rfl, hb⟩
        exact ⟨_, _, _, _, _, rfl, ⟨0, rn_nil w' 0⟩, hb⟩
    · have hp' := place_eq (b := true) hp
      have hok2 := hok
      rw [Bool.and_eq_true] at hok2
      obtain ⟨o1, o2⟩ := hok2
      obtain rfl := okN_len hx o1
      obtain rfl := okN_len hy o2
      have ok1 : Ok (na, x, ea) := o1
      have ok2 : Ok (nb, y, eb) := o2
      have f1 := ok1.facts
      have f2 := ok2.facts
      simp only at f1 f2
      by_cases hy0 : y = 0
      · subst hy0
        refine ⟨(false, 0, 0), false, 6, by rw [dlen_zero]; omega, fun W X Y hW hX hY => ?_, fun W hW => ?_⟩
        · obtain ⟨v, b, rfl, d1⟩ := hX
          obtain ⟨v', b', rfl, d2⟩ := hY
          obtain ⟨pa, pc, rfl, p1, p2⟩ := d1.at
          obtain ⟨qa, qc, rfl, q1, q2⟩ := d2.at
          have km := kM _ hok W pa pc qa qc p2 q2
          rw [dlen_zero] at km ⊢
          refine (pQuo_noz na nb pa qa _ pc 0 qc ea eb k0 W hp km).mono ?_
          rintro r w' ⟨rfl, hb⟩
          exact ⟨_, _, _, _, _, rfl, pn_nil w', hb⟩
        · have kk := kK _ hok W hW
          rw [dlen_zero] at kk ⊢
          refine (rquo_noz na nb ua va _ uc 0 vc ea eb k0 W hp rfl kk).mono ?_
          rintro r w' ⟨rfl, hb⟩
          exact ⟨_, _, _, _, _, rfl, ⟨0, rn_nil w' 0⟩, hb⟩
      · refine ⟨Ans (okR (na != nb) (ovZ (na != nb) (ovX x ea eb k0) (ovY y ea eb k0)) (-k0)) (cn (na != nb) (ovZ (na != nb) (ovX x ea eb k0) (ovY y ea eb k0)) (-k0)), (decide (ovX x ea eb k0 % ovY y ea eb k0 = 0) && okR (na != nb) (ovZ (na != nb) (ovX x ea eb k0) (ovY y ea eb k0)) (-k0)), if okR (na != nb) (ovZ (na != nb) (ovX x ea eb k0) (ovY y ea eb k0)) (-k0) then 0 else 2, Ans.len ok_len, fun W X Y hW hX hY => ?_, fun W hW => ?_⟩
        · obtain ⟨v, b, rfl, d1⟩ := hX
          obtain ⟨v', b', rfl, d2⟩ := hY
          obtain ⟨pa, pc, e1, i1⟩ := dn_pn (s := na) (e := ea) d1
          obtain ⟨qa, qc, e2, i2⟩ := dn_pn (s := nb) (e := eb) d2
          simp only at e1 i1 e2 i2
          rw [e1, e2]
          exact (c44 i1 i2 (hT.later hW) hy0 (by omega) (by omega) o1 o2 ⟨f1.2.1, f1.2.2.1⟩ ⟨f2.2.1, f2.2.2.1⟩ hp' (ovX x ea eb k0) (ovY y ea eb k0) rfl rfl).mono fun r w' h => held3_out h
        · exact (rquo_good (h1.later hW) (h2.later hW) o1 o2 (by omega) (by omega) ⟨f1.2.1, f1.2.2.1⟩ ⟨f2.2.1, f2.2.2.1⟩ hy0 hp').mono fun r w' h => ans3_out h

theorem dyadCuts_ok (ng : Nat → Bool) (ao : Nat → Option Addr) (ln cp z : Nat → Nat) (e : Nat → Int) (P0 : Int) (w : World) (hA : ∀ i, i < 2 → Arg w (ao i) (ln i) (cp i) (z i)) (he : ∀ i, -9223372036854775808 ≤ e i ∧ e i ≤ 9223372036854775807) (hzl : ∀ i, i < 2 → dlen (z i) ≤ ln i) (hP0 : -9223372036854775808 ≤ P0 ∧ P0 ≤ 9223372036854775807)
    (hT : Tab32 w) (hI : Ie.Tab w) (h10 : Tab10 w) :
    Calls Tryz.prog 5 #[.agg #[.bool (ng 0), .slice (ao 0) (ln 0) (cp 0), .int .i64 (e 0)], .agg #[.bool (ng 1), .slice (ao 1) (ln 1) (cp 1), .int .i64 (e 1)], .int .i64 P0] w fun r w' => r = .returned (.bool true) ∧ Below w.heap.size w w' := by
  obtain ⟨t1, B1, E1, l1, k1, q1⟩ := join_Floor (na := ng 0) (ea := e 0) (k0 := P0) hT (hA 0 (by omega)) (hzl 0 (by omega))
  obtain ⟨t2, B2, E2, l2, k2, q2⟩ := join_Quo (na := ng 0) (nb := ng 1) (ea := e 0) (eb := e 1) (k0 := P0) hT (hA 0 (by omega)) (hA 1 (by omega)) (hzl 0 (by omega)) (hzl 1 (by omega))
  obtain ⟨t3, B3, E3, l3, k3, q3⟩ := join_Root (na := ng 0) (ea := e 0) (k0 := P0) hT (hA 0 (by omega)) (hzl 0 (by omega))
  exact law8_1 ng ao ln cp z e P0 w hA (PX := PI (ng 0) (ln 0) (z 0) (e 0)) (PY := PI (ng 1) (ln 1) (z 1) (e 1)) (P1 := fun W A => PN W A t1) (P2 := fun W A => PN W A t2) (P3 := fun W A => PN W A t3) (R1 := fun W A => ∃ b, RN W b A t1) (R2 := fun W A => ∃ b, RN W b A t2) (R3 := fun W A => ∃ b, RN W b A t3) (B1 := B1) (B2 := B2) (B3 := B3) (E1 := E1) (E2 := E2) (E3 := E3)
    { lPX := PI.lasts _ _ _ _, lPY := PI.lasts _ _ _ _, lP1 := PN.lasts t1, lP2 := PN.lasts t2, lP3 := PN.lasts t3, lR1 := RN.lasts t1, lR2 := RN.lasts t2, lR3 := RN.lasts t3,
      k1 := k1, q1 := q1, s1 := fun W A C a c => same_pr l1 a c, k2 := k2, q2 := q2, s2 := fun W A C a c => same_pr l2 a c, k3 := k3, q3 := q3, s3 := fun W A C a c => same_pr l3 a c,
      gx := fun W v hW ⟨b, h⟩ => ⟨v, b, rfl, h⟩, gy := fun W v hW ⟨b, h⟩ => ⟨v, b, rfl, h⟩,
      works := fun W hW => works_ok W (hT.later hW) (Tab.later hI hW) (h10.later hW) }
end Go.Proofs.YtmhpicccfaklcaaGreatDoor
