/- Own work: contracts of the program's functions, part 6: W39 W40 W34 W28 W29 W35 W41 Shelf S1 S2 T1. -/
import Derived.Test.YtkmiohkpfdamoaaGreatDoorA5
import Derived.Laws.IdiomStrings
import Derived.Deep.CutRange
import Derived.Shelf.Strings.Builder1
import Derived.Shelf.LaysM
import Derived.Shelf.Strconv.Itoa3
import Derived.Test.YtkmiohkpfdamoaaGreatDoorProg
import Derived.Test.YtkmiohkpfdamoaaGreatDoorA3

set_option maxHeartbeats 16000000
namespace Go.Proofs.YtkmiohkpfdamoaaGreatDoor
set_option linter.unusedVariables false
set_option linter.unusedSimpArgs false
open Go.RowKit
set_option maxRecDepth 200000 in
theorem neg_t (ua : Option Addr) (un uc x : Nat) (ea : Int) (w : World) (h1 : Is w (.slice ua un uc) x) (hx : dlen x ≤ 1000000) :
    Calls Tryz.prog 56 #[.agg #[.bool true, .slice ua un uc, .int .i64 ea]] w fun r w' => ∃ v, r = .returned (.agg #[.bool false, v, .int .i64 ea]) ∧ Own w' w.heap.size v x ∧ Below w.heap.size w w' := by
  obtain ⟨W, hW⟩ : ∃ W, W = (w.alloc (.cells #[.bool true, .slice ua un uc, .int .i64 ea] 29)).alloc (.cells #[.bool false, .slice none 0 0, .int .i64 0] 29) := ⟨_, rfl⟩
  have hBW : Below w.heap.size w W := by rw [hW]; exact ((Below.refl _ _).alloc (Nat.le_refl _) _).alloc (by simp) _
  have hbA : W.heap[w.heap.size]? = some (.cells #[.bool true, .slice ua un uc, .int .i64 ea] 29 (0, 0)) := by
    rw [hW, Below.heap_alloc _ _ _ (by simp)]; exact heap_alloc_new _ _
  have hbB : W.heap[w.heap.size + 1]? = some (.cells #[.bool false, .slice none 0 0, .int .i64 0] 29 (0, 0)) := by
    have := heap_alloc_new (w.alloc (.cells #[.bool true, .slice ua un uc, .int .i64 ea] 29)) (.cells #[.bool false, .slice none 0 0, .int .i64 0] 29)
    rw [hW]; simpa using this
  have hsz : W.heap.size = w.heap.size + 1 + 1 := by rw [hW]; simp
  have HX : Hid (Below w.heap.size w W ∧ W.heap.size = w.heap.size + 1 + 1 ∧ W.heap[w.heap.size + 1]? = some (.cells #[.bool false, .slice none 0 0, .int .i64 0] 29 (0, 0))) := ⟨hBW, hsz, hbB⟩
  have HK : Hid (∀ w', Below (w.heap.size + 1) W w' → (w'.cell? ⟨w.heap.size, 0, none⟩ = some (.bool true) ∧ w'.cell? ⟨w.heap.size, 1, none⟩ = some (.slice ua un uc) ∧ w'.cell? ⟨w.heap.size, 2, none⟩ = some (.int .i64 ea))) := fun w' hb => (box_cells (box_later hbA hb (by omega))).1
  have kC : ∀ w4, Below W.heap.size W w4 → Calls Tryz.prog 96 #[.slice ua un uc] w4 fun r w' => ∃ ao n cap, r = .returned (.slice ao n cap) ∧ Own w' W.heap.size (.slice ao n cap) x ∧ Below W.heap.size W w' := fun w4 hb =>
    (clone_ok ((h1.later hBW).later hb) (by omega)).mono fun r w' ⟨v, e1, o1, o2⟩ => by
      obtain ⟨ao, cap, rfl, -, -, -⟩ := o1.is
      exact ⟨_, _, _, e1, o1.mono hb.size, hb.trans (o2.mono hb.size)⟩
  have hBR : Below W.heap.size W W.drew := (Below.refl _ _).drew
  have hBR1 : Below (w.heap.size + 1) W W.drew := (Below.refl _ _).drew
  have hun : un = dlen x := by obtain ⟨_, _, e, -⟩ := h1; simp only [Value.slice.injEq] at e; exact e.2.1
  have hunb : un ≤ 1000000 := by omega
  have H1 : Hid (w.heap.size + 1 ≤ W.heap.size) := (by omega : w.heap.size + 1 ≤ W.heap.size)
  clear hbA hbB hsz hBW h1 hx hun
  go_enter Tryz.func56, Tryz.ntmps56
  go_upto_region 1 with fail
  rw [← hW]
  clear hW
  have hS0 := HK.out W.drew hBR1
  refine wp_region_held (S := fun w' => w'.cell? ⟨w.heap.size, 0, none⟩ = some (.bool true) ∧ w'.cell? ⟨w.heap.size, 1, none⟩ = some (.slice ua un uc) ∧ w'.cell? ⟨w.heap.size, 2, none⟩ = some (.int .i64 ea)) (by kernel_rfl) ?_
  change wpAnyH _ _ _ _ _ _ _ _ W.drew
  refine wpAnyH_take (i := 0) (oi := { dst := some 3, op := Op.fieldAddr 29 (Operand.tmp 1) 0, type := 0, pos := "number.go:41", after := #[], guard := none }) (v := .pointer (some ⟨w.heap.size, 0, none⟩)) rfl (by kernel_rfl) (by kernel_rfl) (by kernel_rfl) (fun _ _ _ h => h) (.inl ⟨by rfl, (by intro w1 hSw; obtain ⟨s0, s1, s2⟩ := hSw; go_simp)⟩) (by assumption) ?_
  try simp only [Act.put, List.setIfInBounds_toArray, List.set_cons_zero, List.set_cons_succ]
  refine wpAnyH_take (i := 1) (oi := { dst := some 4, op := Op.load 4 (Operand.tmp 3), type := 4, pos := "number.go:41", after := #[{ on := 0, ground := Ground.data }], guard := none }) (v := .bool true) rfl (by kernel_rfl) (by kernel_rfl) (by kernel_rfl) (fun _ _ _ h => h) (.inl ⟨by rfl, (by intro w1 hSw; obtain ⟨s0, s1, s2⟩ := hSw; go_simp)⟩) (by assumption) ?_
  try simp only [Act.put, List.setIfInBounds_toArray, List.set_cons_zero, List.set_cons_succ]
  refine wpAnyH_take (i := 2) (oi := { dst := some 5, op := Op.unOp UnOp.not 4 (Operand.tmp 4), type := 4, pos := "number.go:41", after := #[{ on := 1, ground := Ground.data }], guard := none }) (v := .bool false) rfl (by kernel_rfl) (by kernel_rfl) (by kernel_rfl) (fun _ _ _ h => h) (.inl ⟨by rfl, (by intro w1 hSw; obtain ⟨s0, s1, s2⟩ := hSw; go_simp)⟩) (by assumption) ?_
  try simp only [Act.put, List.setIfInBounds_toArray, List.set_cons_zero, List.set_cons_succ]
  refine wpAnyH_take (i := 3) (oi := { dst := some 6, op := Op.move (Operand.tmp 5), type := 4, pos := "number.go:41", after := #[{ on := 2, ground := Ground.data }], guard := none }) (v := .bool false) rfl (by kernel_rfl) (by kernel_rfl) (by kernel_rfl) (fun _ _ _ h => h) (.inl ⟨by rfl, (by intro w1 hSw; obtain ⟨s0, s1, s2⟩ := hSw; go_simp)⟩) (by assumption) ?_
  try simp only [Act.put, List.setIfInBounds_toArray, List.set_cons_zero, List.set_cons_succ]
  refine wpAnyH_take (i := 4) (oi := { dst := some 7, op := Op.fieldAddr 29 (Operand.tmp 1) 1, type := 0, pos := "number.go:41", after := #[{ on := 3, ground := Ground.guard }], guard := some (3, true) }) (v := undef) rfl (by kernel_rfl) (by kernel_rfl) (by kernel_rfl) (fun _ _ _ h => h) (.inr ⟨by rfl, rfl⟩) (by assumption) ?_
  try simp only [Act.put, List.setIfInBounds_toArray, List.set_cons_zero, List.set_cons_succ]
  refine wpAnyH_take (i := 5) (oi := { dst := some 8, op := Op.load 22 (Operand.tmp 7), type := 22, pos := "number.go:41", after := #[{ on := 4, ground := Ground.data }, { on := 3, ground := Ground.guard }], guard := some (3, true) }) (v := undef) rfl (by kernel_rfl) (by kernel_rfl) (by kernel_rfl) (fun _ _ _ h => h) (.inr ⟨by rfl, rfl⟩) (by assumption) ?_
  try simp only [Act.put, List.setIfInBounds_toArray, List.set_cons_zero, List.set_cons_succ]
  refine wpAnyH_take (i := 6) (oi := { dst := some 9, op := Op.call { callee := Callee.builtin Builtin.len, args := #[Operand.tmp 8], argTypes := #[22] }, type := 3, pos := "number.go:41", after := #[{ on := 5, ground := Ground.data }, { on := 3, ground := Ground.guard }], guard := some (3, true) }) (v := undef) rfl (by kernel_rfl) (by kernel_rfl) (by kernel_rfl) (fun _ _ _ h => h) (.inr ⟨by rfl, rfl⟩) (by assumption) ?_
  try simp only [Act.put, List.setIfInBounds_toArray, List.set_cons_zero, List.set_cons_succ]
  refine wpAnyH_take (i := 7) (oi := { dst := some 10, op := Op.binOp BinOp.gtr 3 (Operand.tmp 9) (Operand.const (Value.int IntKind.i64 0)) 3, type := 4, pos := "number.go:41", after := #[{ on := 6, ground := Ground.data }, { on := 3, ground := Ground.guard }], guard := some (3, true) }) (v := undef) rfl (by kernel_rfl) (by kernel_rfl) (by kernel_rfl) (fun _ _ _ h => h) (.inr ⟨by rfl, rfl⟩) (by assumption) ?_
  try simp only [Act.put, List.setIfInBounds_toArray, List.set_cons_zero, List.set_cons_succ]
  refine wpAnyH_take (i := 8) (oi := { dst := some 11, op := Op.pick (Operand.tmp 6) (Operand.tmp 10) (Operand.const (Value.bool false)), type := 4, pos := "number.go:41", after := #[{ on := 3, ground := Ground.data }, { on := 7, ground := Ground.data }], guard := none }) (v := .bool false) rfl (by kernel_rfl) (by kernel_rfl) (by kernel_rfl) (fun _ _ _ h => h) (.inl ⟨by rfl, (by intro w1 hSw; obtain ⟨s0, s1, s2⟩ := hSw; go_simp)⟩) (by assumption) ?_
  try simp only [Act.put, List.setIfInBounds_toArray, List.set_cons_zero, List.set_cons_succ]
  refine wpAnyH_take (i := 9) (oi := { dst := some 12, op := Op.fieldAddr 29 (Operand.tmp 1) 1, type := 0, pos := "number.go:41", after := #[], guard := none }) (v := .pointer (some ⟨w.heap.size, 1, none⟩)) rfl (by kernel_rfl) (by kernel_rfl) (by kernel_rfl) (fun _ _ _ h => h) (.inl ⟨by rfl, (by intro w1 hSw; obtain ⟨s0, s1, s2⟩ := hSw; go_simp)⟩) (by assumption) ?_
  try simp only [Act.put, List.setIfInBounds_toArray, List.set_cons_zero, List.set_cons_succ]
  refine wpAnyH_take (i := 10) (oi := { dst := some 13, op := Op.load 22 (Operand.tmp 12), type := 22, pos := "number.go:41", after := #[{ on := 9, ground := Ground.data }], guard := none }) (v := .slice ua un uc) rfl (by kernel_rfl) (by kernel_rfl) (by kernel_rfl) (fun _ _ _ h => h) (.inl ⟨by rfl, (by intro w1 hSw; obtain ⟨s0, s1, s2⟩ := hSw; go_simp)⟩) (by assumption) ?_
  try simp only [Act.put, List.setIfInBounds_toArray, List.set_cons_zero, List.set_cons_succ]
  refine wpAnyH_take (i := 12) (oi := { dst := some 15, op := Op.fieldAddr 29 (Operand.tmp 1) 2, type := 0, pos := "number.go:41", after := #[], guard := none }) (v := .pointer (some ⟨w.heap.size, 2, none⟩)) rfl (by kernel_rfl) (by kernel_rfl) (by kernel_rfl) (fun _ _ _ h => h) (.inl ⟨by rfl, (by intro w1 hSw; obtain ⟨s0, s1, s2⟩ := hSw; go_simp)⟩) (by assumption) ?_
  try simp only [Act.put, List.setIfInBounds_toArray, List.set_cons_zero, List.set_cons_succ]
  refine wpAnyH_take (i := 13) (oi := { dst := some 16, op := Op.load 3 (Operand.tmp 15), type := 3, pos := "number.go:41", after := #[{ on := 12, ground := Ground.data }], guard := none }) (v := .int .i64 ea) rfl (by kernel_rfl) (by kernel_rfl) (by kernel_rfl) (fun _ _ _ h => h) (.inl ⟨by rfl, (by intro w1 hSw; obtain ⟨s0, s1, s2⟩ := hSw; go_simp)⟩) (by assumption) ?_
  try simp only [Act.put, List.setIfInBounds_toArray, List.set_cons_zero, List.set_cons_succ]
  refine wpAnyH_ready (rs := [11]) (by kernel_rfl) (by simp) ?_
  intro i hi
  obtain rfl : i = 11 := by simpa using hi
  refine step_call (o := { dst := some 14, op := Op.call { callee := Callee.value (Operand.func 96), args := #[Operand.tmp 13], argTypes := #[22] }, type := 22, pos := "number.go:41", after := #[{ on := 10, ground := Ground.data }, { on := 3, ground := Ground.chain }], guard := none }) rfl rfl rfl (enters Tryz.func96 (by kernel_rfl) (by kernel_rfl)) (vs := #[.slice ua un uc]) (by simp [Act.eval]) ?_
  refine (kC _ hBR).mono ?_
  rintro r w5 ⟨ao5, n5, cap5, rfl, ho5, hb5⟩
  have hblk5 := box_later HX.out.2.2 hb5 (by have := HX.out.2.1; omega)
  have hS5 := HK.out _ (Below.mono hb5 H1.out)
  refine ⟨_, rfl, hS5, ?_⟩
  try simp only [Act.put, List.setIfInBounds_toArray, List.set_cons_zero, List.set_cons_succ]
  refine wpAnyH_take (i := 14) (oi := { dst := some 17, op := Op.build 29 #[(0, Operand.tmp 11), (1, Operand.tmp 14), (2, Operand.tmp 16)], type := 29, pos := "number.go:41", after := #[{ on := 8, ground := Ground.data }, { on := 11, ground := Ground.data }, { on := 13, ground := Ground.data }], guard := none }) (v := .agg #[.bool false, .slice ao5 n5 cap5, .int .i64 ea]) rfl (by kernel_rfl) (by kernel_rfl) (by kernel_rfl) (fun _ _ _ h => h) (.inl ⟨by rfl, (by intro w1 hSw; go_simp)⟩) (by assumption) ?_
  try simp only [Act.put, List.setIfInBounds_toArray, List.set_cons_zero, List.set_cons_succ]
  refine wpAnyH_ready (rs := [15]) (by kernel_rfl) (by simp) ?_
  intro i hi
  obtain rfl : i = 15 := by simpa using hi
  refine step_store (o := { dst := none, op := Op.store 29 (Operand.tmp 2) (Operand.tmp 17), type := 0, pos := "number.go:41", after := #[{ on := 14, ground := Ground.data }, { on := 11, ground := Ground.chain }, { on := 0, ground := Ground.phase }, { on := 1, ground := Ground.phase }, { on := 2, ground := Ground.phase }, { on := 3, ground := Ground.phase }, { on := 4, ground := Ground.phase }, { on := 5, ground := Ground.phase }, { on := 6, ground := Ground.phase }, { on := 7, ground := Ground.phase }, { on := 8, ground := Ground.phase }, { on := 9, ground := Ground.phase }, { on := 10, ground := Ground.phase }, { on := 11, ground := Ground.phase }, { on := 12, ground := Ground.phase }, { on := 13, ground := Ground.phase }, { on := 14, ground := Ground.phase }], guard := none }) rfl rfl rfl rfl rfl hblk5 Tryz.info29 rfl (one3 rfl rfl) ?_
  refine ⟨HK.out _ (below_row (Below.mono hb5 H1.out) (Nat.le_refl _) _), ?_⟩
  refine wpAnyH_done (by kernel_rfl) ?_ _
  have HF : Hid (Below W.heap.size W w5 ∧ Own w5 W.heap.size (.slice ao5 n5 cap5) x ∧ w5.heap[w.heap.size + 1]? = some (.cells #[.bool false, .slice none 0 0, .int .i64 0] 29 (0, 0))) := ⟨hb5, ho5, hblk5⟩
  clear ho5 hb5 hblk5 kC HK hBR hBR1 hS0 hS5
  go_wp2
  refine bodyPost_ret (results_cell_row rfl _ _ (w.heap.size + 1) 29 #[.bool false, .slice ao5 n5 cap5, .int .i64 ea] (0, 0) _ rfl (setRow_heap _ _ _ _ _ _ HF.out.2.2) Tryz.underlying29 rfl Tryz.info29) rfl ?_
  obtain ⟨q1, q2, -⟩ := HX.out
  exact ⟨_, rfl, (own_row HF.out.2.1 (by omega) _).mono (by omega), below_row (q1.trans (HF.out.1.mono q1.size)) (by omega) _⟩
theorem neg_f (ua : Option Addr) (un uc x : Nat) (ea : Int) (w : World) (h1 : Is w (.slice ua un uc) x) (hx : dlen x ≤ 1000000) :
    Calls Tryz.prog 56 #[.agg #[.bool false, .slice ua un uc, .int .i64 ea]] w fun r w' => ∃ v, r = .returned (.agg #[.bool (decide (0 < un)), v, .int .i64 ea]) ∧ Own w' w.heap.size v x ∧ Below w.heap.size w w' := by
  obtain ⟨W, hW⟩ : ∃ W, W = (w.alloc (.cells #[.bool false, .slice ua un uc, .int .i64 ea] 29)).alloc (.cells #[.bool false, .slice none 0 0, .int .i64 0] 29) := ⟨_, rfl⟩
  have hBW : Below w.heap.size w W := by rw [hW]; exact ((Below.refl _ _).alloc (Nat.le_refl _) _).alloc (by simp) _
  have hbA : W.heap[w.heap.size]? = some (.cells #[.bool false, .slice ua un uc, .int .i64 ea] 29 (0, 0)) := by
    rw [hW, Below.heap_alloc _ _ _ (by simp)]; exact heap_alloc_new _ _
  have hbB : W.heap[w.heap.size + 1]? = some (.cells #[.bool false, .slice none 0 0, .int .i64 0] 29 (0, 0)) := by
    have := heap_alloc_new (w.alloc (.cells #[.bool false, .slice ua un uc, .int .i64 ea] 29)) (.cells #[.bool false, .slice none 0 0, .int .i64 0] 29)
    rw [hW]; simpa using this
  have hsz : W.heap.size = w.heap.size + 1 + 1 := by rw [hW]; simp
  have HX : Hid (Below w.heap.size w W ∧ W.heap.size = w.heap.size + 1 + 1 ∧ W.heap[w.heap.size + 1]? = some (.cells #[.bool false, .slice none 0 0, .int .i64 0] 29 (0, 0))) := ⟨hBW, hsz, hbB⟩
  have HK : Hid (∀ w', Below (w.heap.size + 1) W w' → (w'.cell? ⟨w.heap.size, 0, none⟩ = some (.bool false) ∧ w'.cell? ⟨w.heap.size, 1, none⟩ = some (.slice ua un uc) ∧ w'.cell? ⟨w.heap.size, 2, none⟩ = some (.int .i64 ea))) := fun w' hb => (box_cells (box_later hbA hb (by omega))).1
  have kC : ∀ w4, Below W.heap.size W w4 → Calls Tryz.prog 96 #[.slice ua un uc] w4 fun r w' => ∃ ao n cap, r = .returned (.slice ao n cap) ∧ Own w' W.heap.size (.slice ao n cap) x ∧ Below W.heap.size W w' := fun w4 hb =>
    (clone_ok ((h1.later hBW).later hb) (by omega)).mono fun r w' ⟨v, e1, o1, o2⟩ => by
      obtain ⟨ao, cap, rfl, -, -, -⟩ := o1.is
      exact ⟨_, _, _, e1, o1.mono hb.size, hb.trans (o2.mono hb.size)⟩
  have hBR : Below W.heap.size W W.drew := (Below.refl _ _).drew
  have hBR1 : Below (w.heap.size + 1) W W.drew := (Below.refl _ _).drew
  have hun : un = dlen x := by obtain ⟨_, _, e, -⟩ := h1; simp only [Value.slice.injEq] at e; exact e.2.1
  have hunb : un ≤ 1000000 := by omega
  have H1 : Hid (w.heap.size + 1 ≤ W.heap.size) := (by omega : w.heap.size + 1 ≤ W.heap.size)
  clear hbA hbB hsz hBW h1 hx hun
  go_enter Tryz.func56, Tryz.ntmps56
  go_upto_region 1 with fail
  rw [← hW]
  clear hW
  go_region_held3 (fun w' => w'.cell? ⟨w.heap.size, 0, none⟩ = some (.bool false) ∧ w'.cell? ⟨w.heap.size, 1, none⟩ = some (.slice ua un uc) ∧ w'.cell? ⟨w.heap.size, 2, none⟩ = some (.int .i64 ea)) (first | (with_reducible assumption) | exact HK.out _ hBR1 | (refine HK.out _ (Below.mono ?_ H1.out); with_reducible assumption) | (refine HK.out _ (below_store3 (Below.mono hb5 H1.out) (Nat.le_refl _) _ _ _)) | go_keep)
    (first | (go_at_call 96; refine (kC _ (by first | (with_reducible assumption) | exact hBR)).mono ?_; rintro r w5 ⟨ao5, n5, cap5, rfl, ho5, hb5⟩; have hblk5 := box_later HX.out.2.2 hb5 (by have := HX.out.2.1; omega); obtain ⟨⟨x1, x2, x3⟩, x4, x5, x6⟩ := box_cells hblk5))
  have HF : Hid (Below W.heap.size W w5 ∧ Own w5 W.heap.size (.slice ao5 n5 cap5) x ∧ w5.heap[w.heap.size + 1]? = some (.cells #[.bool false, .slice none 0 0, .int .i64 0] 29 (0, 0))) := ⟨hb5, ho5, hblk5⟩
  clear ho5 hb5 hblk5 x1 x2 x3 x4 x5 x6 kC HK hBR hBR1
  go_wp2
  refine bodyPost_ret (results_cell_row rfl _ _ (w.heap.size + 1) 29 #[.bool (decide (0 < un)), .slice ao5 n5 cap5, .int .i64 ea] (0, 0) _ rfl (store3 _ _ _ HF.out.2.2) Tryz.underlying29 rfl Tryz.info29) rfl ?_
  obtain ⟨q1, q2, -⟩ := HX.out
  exact ⟨_, rfl, (own_store3 HF.out.2.1 (by omega) _ _ _).mono (by omega), below_store3 (q1.trans (HF.out.1.mono q1.size)) (by omega) _ _ _⟩
theorem neg_ok {na : Bool} {ua : Option Addr} {un uc x : Nat} {ea : Int} {w : World} (h1 : Is w (.slice ua un uc) x) (hx : dlen x ≤ 1000000) :
    Calls Tryz.prog 56 #[.agg #[.bool na, .slice ua un uc, .int .i64 ea]] w fun r w' => ∃ v, r = .returned (.agg #[.bool (!na && decide (0 < un)), v, .int .i64 ea]) ∧ Own w' w.heap.size v x ∧ Below w.heap.size w w' := by
  cases na
  · exact neg_f ua un uc x ea w h1 hx
  · exact neg_t ua un uc x ea w h1 hx
theorem c60_ref (na nb nc : Bool) (ua va wa : Option Addr) (un uc vn vc wn wc : Nat) (ea eb ec : Int) (w : World)
    (k67 : ∀ W g, Below w.heap.size w W → W.heap[g]? = some (.cells #[.bool na, .slice ua un uc, .int .i64 ea, .bool nb, .slice va vn vc, .int .i64 eb, .bool nc, .slice wa wn wc, .int .i64 ec] 29 (0, 0)) → Calls Tryz.prog 13 #[.slice (some ⟨g, 0, none⟩) 3 3] W fun r w' => r = .returned (.bool false) ∧ Below W.heap.size W w') :
    Calls Tryz.prog 5 #[NumV na (.slice ua un uc) ea, NumV nb (.slice va vn vc) eb, NumV nc (.slice wa wn wc) ec] w fun r w' => r = .returned (.tuple #[.float .f64 0, .int .i64 1]) ∧ Below w.heap.size w w' := by
  obtain ⟨W, hW⟩ : ∃ W, W = ((w.alloc (.cells #[.bool na, .slice ua un uc, .int .i64 ea] 29)).alloc (.cells #[.bool nb, .slice va vn vc, .int .i64 eb] 29)).alloc (.cells #[.bool nc, .slice wa wn wc, .int .i64 ec] 29) := ⟨_, rfl⟩
  obtain ⟨hA, hBb, hC, hsz, hBW⟩ := boxes3 _ _ _ hW
  have hB4 : Below w.heap.size w (W.alloc (.cells #[.bool na, .slice ua un uc, .int .i64 ea, .bool nb, .slice va vn vc, .int .i64 eb, .bool nc, .slice wa wn wc, .int .i64 ec] 29)) := hBW.alloc hBW.size _
  have k1 := k67 (W.alloc (.cells #[.bool na, .slice ua un uc, .int .i64 ea, .bool nb, .slice va vn vc, .int .i64 eb, .bool nc, .slice wa wn wc, .int .i64 ec] 29)) (w.heap.size + 1 + 1 + 1) hB4 (by rw [← hsz]; exact heap_alloc_new _ _)
  have HH : Hid (Below w.heap.size w (W.alloc (.cells #[.bool na, .slice ua un uc, .int .i64 ea, .bool nb, .slice va vn vc, .int .i64 eb, .bool nc, .slice wa wn wc, .int .i64 ec] 29))) := hB4
  unfold NumV
  clear hA hBb hC hsz hBW hB4 k67
  go_enter Tryz.func5, Tryz.ntmps5
  go_wp2_with fail
  rw [← hW]
  clear hW
  refine k1.mono ?_
  rintro r w1 ⟨rfl, hB1⟩
  clear k1
  have HB1 : Hid (Below w.heap.size w w1) := HH.out.trans (hB1.mono HH.out.size)
  clear hB1
  go_wp2
  refine bodyPost_ret (results_tmp2 rfl _ _ _) rfl ?_
  exact ⟨rfl, HB1.out⟩
theorem c60_dom (na nb nc : Bool) (ua va wa : Option Addr) (un uc vn vc wn wc : Nat) (ea eb ec : Int) (w : World) (hd : nb = true ∨ nc = true)
    (k67 : ∀ W g, Below w.heap.size w W → W.heap[g]? = some (.cells #[.bool na, .slice ua un uc, .int .i64 ea, .bool nb, .slice va vn vc, .int .i64 eb, .bool nc, .slice wa wn wc, .int .i64 ec] 29 (0, 0)) → Calls Tryz.prog 13 #[.slice (some ⟨g, 0, none⟩) 3 3] W fun r w' => r = .returned (.bool true) ∧ Below W.heap.size W w') :
    Calls Tryz.prog 5 #[NumV na (.slice ua un uc) ea, NumV nb (.slice va vn vc) eb, NumV nc (.slice wa wn wc) ec] w fun r w' => r = .returned (.tuple #[.float .f64 0, .int .i64 7]) ∧ Below w.heap.size w w' := by
  obtain ⟨W, hW⟩ : ∃ W, W = ((w.alloc (.cells #[.bool na, .slice ua un uc, .int .i64 ea] 29)).alloc (.cells #[.bool nb, .slice va vn vc, .int .i64 eb] 29)).alloc (.cells #[.bool nc, .slice wa wn wc, .int .i64 ec] 29) := ⟨_, rfl⟩
  obtain ⟨hA, hBb, hC, hsz, hBW⟩ := boxes3 _ _ _ hW
  have hB4 : Below w.heap.size w (W.alloc (.cells #[.bool na, .slice ua un uc, .int .i64 ea, .bool nb, .slice va vn vc, .int .i64 eb, .bool nc, .slice wa wn wc, .int .i64 ec] 29)) := hBW.alloc hBW.size _
  have k1 := k67 (W.alloc (.cells #[.bool na, .slice ua un uc, .int .i64 ea, .bool nb, .slice va vn vc, .int .i64 eb, .bool nc, .slice wa wn wc, .int .i64 ec] 29)) (w.heap.size + 1 + 1 + 1) hB4 (by rw [← hsz]; exact heap_alloc_new _ _)
  have HH : Hid (Below w.heap.size w W ∧ Below W.heap.size W (W.alloc (.cells #[.bool na, .slice ua un uc, .int .i64 ea, .bool nb, .slice va vn vc, .int .i64 eb, .bool nc, .slice wa wn wc, .int .i64 ec] 29)) ∧ W.heap.size = w.heap.size + 1 + 1 + 1 ∧ W.heap[w.heap.size + 1]? = some (.cells #[.bool nb, .slice va vn vc, .int .i64 eb] 29 (0, 0)) ∧ W.heap[w.heap.size + 1 + 1]? = some (.cells #[.bool nc, .slice wa wn wc, .int .i64 ec] 29 (0, 0))) := ⟨hBW, (Below.refl _ _).alloc (Nat.le_refl _) _, hsz, hBb, hC⟩
  have HD : Hid (nb = true ∨ nc = true) := hd
  unfold NumV
  clear hA hBb hC hsz hBW hB4 k67 hd
  go_enter Tryz.func5, Tryz.ntmps5
  go_wp2_with fail
  rw [← hW]
  clear hW
  refine k1.mono ?_
  rintro r w1 ⟨rfl, hB1⟩
  clear k1
  have HB1 : Hid (Below W.heap.size W w1) := HH.out.2.1.trans (hB1.mono HH.out.2.1.size)
  clear hB1
  obtain ⟨⟨b0, b1, b2⟩, -⟩ := box_cells (box_later HH.out.2.2.2.1 HB1.out (by have := HH.out.2.2.1; omega))
  obtain ⟨⟨c0, c1, c2⟩, -⟩ := box_cells (box_later HH.out.2.2.2.2 HB1.out (by have := HH.out.2.2.1; omega))
  cases nb
  · obtain rfl : nc = true := by rcases HD.out with h | h <;> simp_all
    go_wp2
    refine bodyPost_ret (results_tmp2 rfl _ _ _) rfl ?_
    exact ⟨rfl, HH.out.1.trans (HB1.out.mono HH.out.1.size)⟩
  · go_wp2
    refine bodyPost_ret (results_tmp2 rfl _ _ _) rfl ?_
    exact ⟨rfl, HH.out.1.trans (HB1.out.mono HH.out.1.size)⟩
end Go.Proofs.YtkmiohkpfdamoaaGreatDoor
namespace Go.Proofs.YtkmiohkpfdamoaaGreatDoor
set_option linter.unusedVariables false
set_option linter.unusedSimpArgs false
open Go.RowKit Go.Fl64
theorem c159 (a : Nat) (ha : a < 18446744073709551616) (w : World) :
    Calls Tryz.prog 54 #[.float .f64 a] w fun e w' => e = .returned (.float .f64 (mag a)) ∧ w' = w := by
  have hb := Ie.run_bits
  have hf := Ie.run_frombits
  go_enter Tryz.func54, Tryz.ntmps54
  go_wp2
  go_ret
  refine ⟨?_, rfl⟩
  show Ending.returned (.float .f64 (bits .andNot .u64 a 9223372036854775808).toNat) = _
  rw [andNot_sign a ha]
  simp
theorem mag_lt' (a : Nat) (ha : a < 18446744073709551616) : mag a < 18446744073709551616 := by unfold mag; omega
theorem c123 (a : Nat) (ha : a < 18446744073709551616) (w : World) :
    Calls Tryz.prog 19 #[.float .f64 a, .int .i64 0] w fun e w' => e = .returned (.bool (lt 9218868437227405311 (mag a))) ∧ w' = w := by
  have k := c159 a ha
  have h := ord_gt (mag a) 9218868437227405311 (mag_lt' a ha) (by omega)
  generalize mag a = m at *
  have H : Hid ((FloatKind.f64.format.order m 9218868437227405311 == some Ordering.gt) = lt 9218868437227405311 m) := h
  clear h
  go_enter Tryz.func19, Tryz.ntmps19
  go_wp2_with (first | (go_at_call 54; refine (k _).mono ?_; rintro e w' ⟨rfl, rfl⟩))
  go_ret
  exact ⟨congrArg Ending.returned (congrArg Value.bool H.out), rfl⟩
theorem c185 (w : World) : Calls Tryz.prog 171 #[.int .i64 16] w fun e w' => e = .returned (.bool true) ∧ w' = w := by
  have h : (bits .and .i64 16 15 == 0) = true := by decide +kernel
  have H : Hid ((bits .and .i64 16 15 == 0) = true) := h
  clear h
  go_enter Tryz.func171, Tryz.ntmps171
  go_wp2
  go_ret
  exact ⟨congrArg Ending.returned (congrArg Value.bool H.out), rfl⟩
theorem c186 (w : World) (hT : Ie.Tab w) : Calls Tryz.prog 172 #[.int .u64 16] w fun e w' => e = .returned (.int .i64 4) ∧ w' = w := by
  have k := Ie.c51 16 (by omega) (by omega) w hT
  have e : Lib.ctz 64 16 = 4 := by decide
  rw [e] at k
  clear e
  go_enter Tryz.func172, Tryz.ntmps172
  go_wp2_with fail
  refine k.mono ?_
  rintro r w1 ⟨rfl, rfl⟩
  go_wp2
  go_ret
  exact ⟨rfl, rfl⟩
def hx (d : Nat) : Nat := if d < 10 then 48 + d else 87 + d
theorem z147 : Tryz.zeroCells183 = Array.replicate 65 (.int .u8 0) := by kernel_rfl
structure Bt (w wr : World) (f : Nat → Nat) : Prop where
  below : Below w.heap.size w wr
  row : ∃ c : Array Value, wr.heap[w.heap.size]? = some (.cells c 183 (0, 0)) ∧ c.size = 65 ∧ ∀ t, t < 65 → c[t]? = some (.int .u8 (f t : Nat))
theorem Bt.start (w : World) : Bt w (w.alloc (.cells Tryz.zeroCells183 183)) (fun _ => 0) :=
  ⟨(Below.refl _ _).alloc (Nat.le_refl _) _, _, heap_alloc_new _ _, by rw [z147]; simp, fun t ht => by rw [z147]; simp [ht]⟩
theorem Bt.cell {w wr : World} {f : Nat → Nat} (h : Bt w wr f) {i : Nat} (hi : i < 65) : wr.cell? ⟨w.heap.size, i, none⟩ = some (.int .u8 (f i : Nat)) := by
  obtain ⟨c, h1, h2, h3⟩ := h.row
  simp [World.cell?, h1, h3 i hi]
theorem Bt.frozen {w wr : World} {f : Nat → Nat} (h : Bt w wr f) (i : Nat) : wr.frozen? ⟨w.heap.size, i, none⟩ = false := by
  obtain ⟨c, h1, _, _⟩ := h.row
  simp [World.frozen?, h1]
theorem Bt.set {w wr : World} {f : Nat → Nat} (h : Bt w wr f) (i d : Nat) : Bt w (wr.setCell ⟨w.heap.size, i, none⟩ (.int .u8 (d : Nat))) (fun t => if t = i then d else f t) := by
  obtain ⟨c, h1, h2, h3⟩ := h.row
  refine ⟨h.below.setCell (Nat.le_refl _) _, c.setIfInBounds i (.int .u8 (d : Nat)), ?_, by simpa using h2, fun t ht => ?_⟩
  · simp [World.setCell, Array.getElem?_modify, h1]
  · rw [Array.getElem?_setIfInBounds]
    by_cases e : t = i
    · subst e; simp [h2, ht]
    · rw [if_neg (fun h => e h.symm), h3 t ht]; simp [e]
theorem Bt.congr {w wr : World} {f g : Nat → Nat} (h : Bt w wr f) (e : ∀ t, t < 65 → f t = g t) : Bt w wr g := by
  obtain ⟨c, h1, h2, h3⟩ := h.row
  exact ⟨h.below, c, h1, h2, fun t ht => by rw [h3 t ht, e t ht]⟩
theorem hex_get (m : Nat) (hm : m < 16) (h : m < (⟨#[48, 49, 50, 51, 52, 53, 54, 55, 56, 57, 97, 98, 99, 100, 101, 102, 103, 104, 105, 106, 107, 108, 109, 110, 111, 112, 113, 114, 115, 116, 117, 118, 119, 120, 121, 122]⟩ : ByteArray).size) : ((⟨#[48, 49, 50, 51, 52, 53, 54, 55, 56, 57, 97, 98, 99, 100, 101, 102, 103, 104, 105, 106, 107, 108, 109, 110, 111, 112, 113, 114, 115, 116, 117, 118, 119, 120, 121, 122]⟩ : ByteArray)[m]'h).toNat = hx m := by
  have : m = 0 ∨ m = 1 ∨ m = 2 ∨ m = 3 ∨ m = 4 ∨ m = 5 ∨ m = 6 ∨ m = 7 ∨ m = 8 ∨ m = 9 ∨ m = 10 ∨ m = 11 ∨ m = 12 ∨ m = 13 ∨ m = 14 ∨ m = 15 := by omega
  rcases this with rfl | rfl | rfl | rfl | rfl | rfl | rfl | rfl | rfl | rfl | rfl | rfl | rfl | rfl | rfl | rfl <;> rfl
theorem hex_step {w wr : World} {u j k d : Nat} (hM : Bt w wr (fun t => if 65 - j ≤ t then hx (u / 16 ^ (64 - t) % 16) else 0)) (hk : 65 - j = k + 1) (hd : d = hx (u / 16 ^ j % 16)) (hj : j ≤ 8) :
    Bt w (wr.setCell ⟨w.heap.size, k, none⟩ (.int .u8 (d : Nat))) (fun t => if 65 - (j + 1) ≤ t then hx (u / 16 ^ (64 - t) % 16) else 0) := by
  refine (hM.set k d).congr fun t ht => ?_
  by_cases e : t = k
  · subst e
    rw [if_pos rfl, if_pos (by omega), hd, show 64 - t = j by omega]
  · rw [if_neg e]
    by_cases e2 : 65 - j ≤ t
    · rw [if_pos e2, if_pos (by omega)]
    · rw [if_neg e2, if_neg (by omega)]
def hexL (u j : Nat) : List UInt8 := (List.range (j + 1)).map fun i => UInt8.ofNat (hx (u / 16 ^ (j - i) % 16))
theorem hexL_length (u j : Nat) : (hexL u j).length = j + 1 := by simp [hexL]
theorem hx_lt (d : Nat) (h : d < 16) : hx d < 256 := by unfold hx; split <;> omega
theorem hexL_get {u j i : Nat} (h : i < (hexL u j).length) : ((hexL u j)[i].toNat : Int) = (hx (u / 16 ^ (j - i) % 16) : Nat) := by
  simp only [hexL, List.getElem_map, List.getElem_range]
  have := hx_lt (u / 16 ^ (j - i) % 16) (Nat.mod_lt _ (by omega))
  rw [UInt8.toNat_ofNat_of_lt' this]
theorem arr147 (W : World) (g k : Nat) (hk : k < 65) : (Instr.sliceAt 183 (.pointer (some ⟨g, 0, none⟩)) (some (.int .i64 (k : Int))) none none).run Tryz.prog W = .ok (.slice (some ⟨g, k, none⟩) (65 - k) (65 - k)) W := by
  have hal : Tryz.prog.arrayLen 183 = 65 := by kernel_rfl
  rw [run_sliceAt_array_l W 183 ⟨g, 0, none⟩ (by kernel_rfl) .i64 (k : Int) (by omega) (by rw [hal]; omega)]
  have hs : ∀ W, (sizeOf (Tryz.prog.elem 183)).run Tryz.prog W = .ok 1 W := fun W => by kernel_rfl
  rw [hs, hal]
  show Result.ok (slicedAt ⟨g, 0, none⟩ (k : Int).toNat 65 65 1) W = _
  unfold slicedAt
  rw [Int.toNat_natCast, if_neg (by omega), Nat.mul_one]
  have : (⟨g, 0, none⟩ : Addr).add k = ⟨g, k, none⟩ := by simp [Addr.add]; omega
  rw [this]
set_option maxRecDepth 200000 in
theorem c168_1 (u : Nat) (w : World) (hT : Ie.Tab w) (hu : u < 4294967296) :
    Calls Tryz.prog 152 #[.slice none 0 0, .int .u64 u, .int .i64 16, .bool false, .bool false] w fun e w' => ∃ j : Nat, u / 16 ^ j < 16 ∧ (j = 0 ∨ 16 ≤ u / 16 ^ (j - 1)) ∧ e = .returned (.tuple #[.slice none 0 0, .string ⟨(hexL u j).toArray⟩]) ∧ Below w.heap.size w w' := by
  have h0 := Bt.start w
  have k186 := c186 _ (Tab.later hT h0.below)
  generalize hW : w.alloc (.cells Tryz.zeroCells183 183) = W at *
  have HW : Hid (w.alloc (.cells Tryz.zeroCells183 183) = W) := hW
  have H0 : Hid (Bt w W (fun _ => 0)) := h0
  clear h0 hT
  go_enter Tryz.func152, Tryz.ntmps152
  go_wp2_with fail
  clear hW
  refine (c185 _).mono ?_
  rintro r w1 ⟨rfl, rfl⟩
  go_wp2_with fail
  refine k186.mono ?_
  rintro r w1' ⟨rfl, rfl⟩
  clear k186
  go_wp2
  go_loopw [1, 13] (fun a b wr => ∃ j v : Nat, a = .int .u64 v ∧ b = .int .i64 ((65 - j : Nat) : Int) ∧ Hid (u / 16 ^ j = v ∧ (j = 0 ∨ 16 ≤ u / 16 ^ (j - 1))) ∧ v < 4294967296 ∧ j ≤ 8 ∧ Bt w wr (fun t => if 65 - j ≤ t then hx (u / 16 ^ (64 - t) % 16) else 0)) (fun a _ _ => (intOf a).toNat)
  case atStart => exact ⟨0, u, rfl, rfl, ⟨(by simp : u / 16 ^ 0 = u), .inl rfl⟩, hu, by omega, H0.out.congr fun t ht => by rw [if_neg (by omega)]⟩
  case round =>
    obtain ⟨j, v, rfl, rfl, hv, hvl, hj8, hM⟩ := hrel
    by_cases hge : 16 ≤ v
    · have hgi : (16 : Int) ≤ (v : Int) := by omega
      have hj7 : j < 7 := by
        refine Nat.lt_of_not_le fun h7 => ?_
        have h1 : 16 * 16 ^ j ≤ u := by
          have := hv.out.1
          rw [← this] at hge
          exact (Nat.le_div_iff_mul_le (Nat.pow_pos (by omega))).1 hge
        have h2 : 16 ^ 7 ≤ 16 ^ j := Nat.pow_le_pow_right (by omega) h7
        omega
      have g2 := hM.cell (i := 65 - j - 1) (by omega)
      have g3 := hM.frozen (65 - j - 1)
      have HM : Hid (Bt w wr (fun t => if 65 - j ≤ t then hx (u / 16 ^ (64 - t) % 16) else 0)) := hM
      clear hM
      obtain ⟨k, hk⟩ : ∃ k, 65 - j = k + 1 := ⟨64 - j, by omega⟩
      rw [hk] at g2 g3 ⊢
      rw [Nat.add_sub_cancel] at g2 g3
      generalize (if 65 - j ≤ k then hx (u / 16 ^ (64 - k) % 16) else 0) = old at *
      have hkb : k < 65 := by omega
      have hki : (k : Int) < 65 := by omega
      have hand : bits .and .u64 (v : Int) 15 = ((v % 16 : Nat) : Int) := by
        rw [show (15 : Int) = ((15 : Nat) : Int) from rfl, u64_and_nat v 15 (by omega) (by omega), show (15 : Nat) = 2 ^ 4 - 1 from rfl, Nat.and_two_pow_sub_one_eq_mod]
      have hml : v % 16 < 16 := Nat.mod_lt _ (by omega)
      generalize hm : v % 16 = m at *
      have HMM : Hid (v % 16 = m) := hm
      have HK : Hid (65 - j = k + 1) := hk
      clear hm hk
      go_wp2
      refine ⟨⟨j + 1, v / 16, by simp, ?_, ?_, by omega, by omega, ?_⟩, by simp [intOf]; omega⟩
      · have := HK.out
        congr 1
        omega
      · refine ⟨?_, .inr (by rw [Nat.add_sub_cancel, hv.out.1]; exact hge)⟩
        rw [Nat.pow_succ, ← Nat.div_div_eq_div_mul, hv.out.1]
      · exact hex_step HM.out HK.out (by rw [hex_get m hml, hv.out.1, HMM.out]) (by omega)
    · have hgi : ¬ (16 : Int) ≤ (v : Int) := by omega
      have g2 := hM.cell (i := 65 - j - 1) (by omega)
      have g3 := hM.frozen (65 - j - 1)
      have HM : Hid (Bt w wr (fun t => if 65 - j ≤ t then hx (u / 16 ^ (64 - t) % 16) else 0)) := hM
      clear hM
      obtain ⟨k, hk⟩ : ∃ k, 65 - j = k + 1 := ⟨64 - j, by omega⟩
      rw [hk] at g2 g3 ⊢
      rw [Nat.add_sub_cancel] at g2 g3
      have hkb : k < 65 := by omega
      have hki : (k : Int) < 65 := by omega
      have hvi : (v : Int) < 36 := by omega
      have HK : Hid (65 - j = k + 1) := hk
      clear hk
      have hsl := fun W => arr147 W w.heap.size k hkb
      go_wp2
      rw [hex_get v (by omega)]
      have hE := hex_step HM.out HK.out (d := hx v) (by rw [hv.out.1, Nat.mod_eq_of_lt (by omega)]) hj8
      generalize wr.setCell ⟨w.heap.size, k, none⟩ (.int .u8 (hx v : Nat)) = wf at *
      have hkj : k = 64 - j := by have := HK.out; omega
      have hcv := run_convert_bytes_back (P := Tryz.prog) wf 108 9 5 ⟨w.heap.size, k, none⟩ (65 - k) (hexL u j) Tryz.underlying108 Tryz.underlying5 Tryz.underlying9 (fun i hi => by
        rw [hexL_length] at hi
        have ea : (⟨w.heap.size, k, none⟩ : Addr).add i = ⟨w.heap.size, k + i, none⟩ := by simp [Addr.add]
        rw [ea]
        rw [hE.cell (by omega), if_pos (by omega), hexL_get, show 64 - (k + i) = j - i by omega])
      rw [hexL_length, show j + 1 = 65 - k by omega] at hcv
      have HF : Hid (Below w.heap.size w wf ∧ u / 16 ^ j < 16 ∧ (j = 0 ∨ 16 ≤ u / 16 ^ (j - 1))) := ⟨hE.below, by rw [hv.out.1]; omega, hv.out.2⟩
      clear hE hkj g2 g3 HM hsl
      rw [hcv]
      go_wp2
      go_ret2
      exact ⟨j, HF.out.2.1, HF.out.2.2, rfl, HF.out.1⟩
set_option maxRecDepth 200000 in
theorem c132 (u : Nat) (w : World) (hT : Ie.Tab w) (hu : u < 4294967296) :
    Calls Tryz.prog 117 #[.int .u64 u, .int .i64 16] w fun e w' => ∃ j : Nat, u / 16 ^ j < 16 ∧ (j = 0 ∨ 16 ≤ u / 16 ^ (j - 1)) ∧ e = .returned (.string ⟨(hexL u j).toArray⟩) ∧ Below w.heap.size w w' := by
  have k := c168_1 u w hT hu
  clear hT hu
  go_enter Tryz.func117, Tryz.ntmps117
  go_wp2_with fail
  refine k.mono ?_
  rintro r w1 ⟨j, h1, h2, rfl, hb⟩
  have HF : Hid (u / 16 ^ j < 16 ∧ (j = 0 ∨ 16 ≤ u / 16 ^ (j - 1)) ∧ Below w.heap.size w w1) := ⟨h1, h2, hb⟩
  clear k h1 h2 hb
  generalize hl : hexL u j = l at *
  have HL : Hid (hexL u j = l) := hl
  clear hl
  go_wp2
  go_ret
  exact ⟨j, HF.out.1, HF.out.2.1, by rw [HL.out]; rfl, HF.out.2.2⟩
set_option maxRecDepth 200000 in
theorem c81 (u : Nat) (w : World) (hT : Ie.Tab w) (hu : u < 4294967296) :
    Calls Tryz.prog 73 #[.int .u64 u, .int .i64 16] w fun e w' => ∃ j : Nat, u / 16 ^ j < 16 ∧ (j = 0 ∨ 16 ≤ u / 16 ^ (j - 1)) ∧ e = .returned (.string ⟨(hexL u j).toArray⟩) ∧ Below w.heap.size w w' := by
  have k := c132 u w hT hu
  clear hT hu
  go_enter Tryz.func73, Tryz.ntmps73
  go_wp2_with fail
  refine k.mono ?_
  rintro r w1 ⟨j, h1, h2, rfl, hb⟩
  have HF : Hid (u / 16 ^ j < 16 ∧ (j = 0 ∨ 16 ≤ u / 16 ^ (j - 1)) ∧ Below w.heap.size w w1) := ⟨h1, h2, hb⟩
  clear k h1 h2 hb
  generalize hl : hexL u j = l at *
  have HL : Hid (hexL u j = l) := hl
  clear hl
  go_wp2
  go_ret
  exact ⟨j, HF.out.1, HF.out.2.1, by rw [HL.out]; rfl, HF.out.2.2⟩
theorem hidOf {p : Prop} (h : p) : Hid p := h
theorem Nrm.later {w w' : World} {base : Nat} {a : Value} {neg : Bool} {x : Nat} {e : Int} (h : Nrm w base a neg x e) (hb : Below w.heap.size w w') : Nrm w' base a neg x e := by
  rcases h with h | ⟨h0, v, h1, ho⟩
  · exact .inl h
  · exact .inr ⟨h0, v, h1, ho.later hb⟩
def Bx (w3 wc : World) (g : Nat) (s : Bool) (ao : Option Addr) (n cap : Nat) (ex : Int) (sL : Bool) (zL : Nat) (eL : Int) : Prop :=
  wc.heap[g]? = some (.cells #[.bool s, .slice ao n cap, .int .i64 ex] 29 (0, 0)) ∧ w3.heap.size ≤ g ∧ Below w3.heap.size w3 wc ∧ Nrm wc w3.heap.size (.agg #[.bool s, .slice ao n cap, .int .i64 ex]) sL zL eL
theorem Bx.new {w3 w7 : World} {base : Nat} {s : Bool} {ao : Option Addr} {n cap : Nat} {ex : Int} {sL : Bool} {zL : Nat} {eL : Int} (hn : Nrm w7 base (.agg #[.bool s, .slice ao n cap, .int .i64 ex]) sL zL eL) (hb : Below w3.heap.size w3 w7) (hs : w3.heap.size ≤ base) :
    Bx w3 (w7.alloc (.cells #[.bool s, .slice ao n cap, .int .i64 ex] 29)) w7.heap.size s ao n cap ex sL zL eL :=
  ⟨heap_alloc_new _ _, hb.size, hb.alloc hb.size _, (hn.later ((Below.refl _ _).alloc (Nat.le_refl _) _)).mono hs⟩
theorem lt_of_box {w : World} {g : Nat} {o : Obj} (h : w.heap[g]? = some o) : g < w.heap.size := (Array.getElem?_eq_some_iff.1 h).1
theorem Bx.put {w3 w7 : World} {base g : Nat} {s : Bool} {ao : Option Addr} {n cap : Nat} {ex : Int} {sL : Bool} {zL : Nat} {eL : Int} {p q r : Value} (hn : Nrm w7 base (.agg #[.bool s, .slice ao n cap, .int .i64 ex]) sL zL eL) (hb : Below w3.heap.size w3 w7) (hs : w3.heap.size ≤ base) (hg : w3.heap.size ≤ g) (hlt : g < base) (hbx : w7.heap[g]? = some (.cells #[p, q, r] 29 (0, 0))) :
    Bx w3 (((w7.setCell ⟨g, 0, none⟩ (.bool s)).setCell ⟨g, 1, none⟩ (.slice ao n cap)).setCell ⟨g, 2, none⟩ (.int .i64 ex)) g s ao n cap ex sL zL eL :=
  ⟨store3 _ _ _ hbx, hg, below_store3 hb hg _ _ _, (hn.store hlt _ _ _).mono hs⟩
theorem same_self (a : Nat) : same a a = true := by simp [same]
set_option maxRecDepth 200000 in
theorem c60_1 (na xQ : Bool) (ua va wa : Option Addr) (un uc vn vc wn wk mP mQ F : Nat) (ea eb ec : Int) (w : World) (hT : Tab32 w)
    (hP : dlen mP ≤ 100000) (hQ : dlen mQ ≤ 100000) (hL2 : dlen (mP + mQ) ≤ 1000000000) (sL sH : Bool) (zL zH : Nat) (eL eH : Int) (hF : F < 18446744073709551616) (hFi : lt 9218868437227405311 (mag F) = false)
    (kR1 : ∀ W a b, Below w.heap.size w W → Nrm W b a sL zL eL → Calls Tryz.prog 18 #[a, .int .i64 3] W fun r w' => r = .returned (.float .f64 F) ∧ Below W.heap.size W w')
    (kR2 : ∀ W a b, Below w.heap.size w W → Nrm W b a sH zH eH → Calls Tryz.prog 18 #[a, .int .i64 3] W fun r w' => r = .returned (.float .f64 F) ∧ Below W.heap.size W w')
    (kH : ∀ W a b m b', Below w.heap.size w W → Nrm W b a sL zL eL → Own W b' m 1 → Calls Tryz.prog 15 #[a, .agg #[.bool false, m, .int .i64 (-1075)]] W fun r w' => ∃ a, r = .returned a ∧ Nrm w' W.heap.size a sH zH eH ∧ Below W.heap.size W w')
    (kL : ∀ W m b, Below w.heap.size w W → Nrm W b m false (mP + mQ) (-1076) → Calls Tryz.prog 15 #[.agg #[.bool na, .slice ua un uc, .int .i64 ea], m] W fun r w' => ∃ a, r = .returned a ∧ Nrm w' W.heap.size a sL zL eL ∧ Below W.heap.size W w')
    (k67 : ∀ W g, Below w.heap.size w W → W.heap[g]? = some (.cells #[.bool na, .slice ua un uc, .int .i64 ea, .bool false, .slice va vn vc, .int .i64 eb, .bool false, .slice wa wn wk, .int .i64 ec] 29 (0, 0)) → Calls Tryz.prog 13 #[.slice (some ⟨g, 0, none⟩) 3 3] W fun r w' => r = .returned (.bool true) ∧ Below W.heap.size W w')
    (kP : ∀ W, Below w.heap.size w W → Calls Tryz.prog 14 #[NumV false (.slice va vn vc) eb, .int .i64 1076] W fun r w' => ∃ v, r = .returned (.tuple #[v, .bool false]) ∧ Own w' W.heap.size v mP ∧ Below W.heap.size W w')
    (kQ : ∀ W, Below w.heap.size w W → Calls Tryz.prog 14 #[NumV false (.slice wa wn wk) ec, .int .i64 1076] W fun r w' => ∃ v, r = .returned (.tuple #[v, .bool xQ]) ∧ Own w' W.heap.size v mQ ∧ Below W.heap.size W w') :
    Calls Tryz.prog 5 #[NumV na (.slice ua un uc) ea, NumV false (.slice va vn vc) eb, NumV false (.slice wa wn wk) ec] w fun r w' => r = .returned (.tuple #[.float .f64 F, .int .i64 0]) ∧ Below w.heap.size w w' := by
  obtain ⟨W, hW⟩ : ∃ W, W = ((w.alloc (.cells #[.bool na, .slice ua un uc, .int .i64 ea] 29)).alloc (.cells #[.bool false, .slice va vn vc, .int .i64 eb] 29)).alloc (.cells #[.bool false, .slice wa wn wk, .int .i64 ec] 29) := ⟨_, rfl⟩
  obtain ⟨hA, hBb, hC, hsz, hBW⟩ := boxes3 _ _ _ hW
  have hB4 : Below w.heap.size w (W.alloc (.cells #[.bool na, .slice ua un uc, .int .i64 ea, .bool false, .slice va vn vc, .int .i64 eb, .bool false, .slice wa wn wk, .int .i64 ec] 29)) := hBW.alloc hBW.size _
  have k1 := k67 (W.alloc (.cells #[.bool na, .slice ua un uc, .int .i64 ea, .bool false, .slice va vn vc, .int .i64 eb, .bool false, .slice wa wn wk, .int .i64 ec] 29)) (w.heap.size + 1 + 1 + 1) hB4 (by rw [← hsz]; exact heap_alloc_new _ _)
  have HH : Hid (Below w.heap.size w W ∧ Below W.heap.size W (W.alloc (.cells #[.bool na, .slice ua un uc, .int .i64 ea, .bool false, .slice va vn vc, .int .i64 eb, .bool false, .slice wa wn wk, .int .i64 ec] 29)) ∧ W.heap.size = w.heap.size + 1 + 1 + 1 ∧ W.heap[w.heap.size]? = some (.cells #[.bool na, .slice ua un uc, .int .i64 ea] 29 (0, 0)) ∧ W.heap[w.heap.size + 1]? = some (.cells #[.bool false, .slice va vn vc, .int .i64 eb] 29 (0, 0)) ∧ W.heap[w.heap.size + 1 + 1]? = some (.cells #[.bool false, .slice wa wn wk, .int .i64 ec] 29 (0, 0)) ∧ Tab32 W) := ⟨hBW, (Below.refl _ _).alloc (Nat.le_refl _) _, hsz, hA, hBb, hC, hT.later hBW⟩
  have HKP : Hid _ := kP
  have HKQ : Hid _ := kQ
  have HKL : Hid _ := kL
  have HL : Hid (dlen mP ≤ 100000 ∧ dlen mQ ≤ 100000) := ⟨hP, hQ⟩
  have HR1 : Hid _ := kR1
  have HR2 : Hid _ := kR2
  have HKH : Hid _ := kH
  have HF : Hid (F < 18446744073709551616 ∧ lt 9218868437227405311 (mag F) = false) := ⟨hF, hFi⟩
  unfold NumV
  clear kR1 kR2 kH hF hFi hA hBb hC hsz hBW hB4 k67 kP kQ hP hQ hT kL
  go_enter Tryz.func5, Tryz.ntmps5
  go_wp2_with fail
  rw [← hW]
  clear hW
  refine k1.mono ?_
  rintro r w1 ⟨rfl, hB1⟩
  clear k1
  have HB1 : Hid (Below W.heap.size W w1) := HH.out.2.1.trans (hB1.mono HH.out.2.1.size)
  clear hB1
  obtain ⟨⟨b0, b1, b2⟩, -⟩ := box_cells (box_later HH.out.2.2.2.2.1 HB1.out (by have := HH.out.2.2.1; omega))
  obtain ⟨⟨c0, c1, c2⟩, -⟩ := box_cells (box_later HH.out.2.2.2.2.2.1 HB1.out (by have := HH.out.2.2.1; omega))
  go_wp2_with fail
  refine (HKP.out w1 (HH.out.1.trans (HB1.out.mono HH.out.1.size))).mono ?_
  rintro r w2 ⟨vP, rfl, hoP, hB2⟩
  have HB2 : Hid (Below W.heap.size W w2) := HB1.out.trans (hB2.mono HB1.out.size)
  have HOP : Hid (Own w2 w1.heap.size vP mP) := hoP
  clear hoP hB2 b0 b1 b2 c0 c1 c2
  obtain ⟨⟨c0, c1, c2⟩, -⟩ := box_cells (box_later HH.out.2.2.2.2.2.1 HB2.out (by have := HH.out.2.2.1; omega))
  go_wp2_with fail
  refine (HKQ.out w2 (HH.out.1.trans (HB2.out.mono HH.out.1.size))).mono ?_
  rintro r w3 ⟨vQ, rfl, hoQ, hB3⟩
  have HB3 : Hid (Below W.heap.size W w3) := HB2.out.trans (hB3.mono HB2.out.size)
  have HOQ : Hid (Own w3 w2.heap.size vQ mQ ∧ Own w3 w1.heap.size vP mP ∧ Below w2.heap.size w2 w3) := ⟨hoQ, HOP.out.later hB3, hB3⟩
  clear hoQ hB3 c0 c1 c2 HOP
  obtain ⟨⟨a0, a1, a2⟩, -⟩ := box_cells (box_later HH.out.2.2.2.1 HB3.out (by have := HH.out.2.2.1; omega))
  have HK : Hid (∀ w', Below w3.heap.size w3 w' → (w'.cell? ⟨w.heap.size, 0, none⟩ = some (.bool na) ∧ w'.cell? ⟨w.heap.size, 1, none⟩ = some (.slice ua un uc) ∧ w'.cell? ⟨w.heap.size, 2, none⟩ = some (.int .i64 ea)) ∧ Below w3.heap.size w3 w') := fun w' hb => ⟨(box_cells (box_later HH.out.2.2.2.1 (HB3.out.trans (hb.mono HB3.out.size)) (by have := HH.out.2.2.1; omega))).1, hb⟩
  have k122 : ∀ w4, Below w3.heap.size w3 w4 → Calls Tryz.prog 17 #[vP, vQ] w4 fun r w' => ∃ v, r = .returned v ∧ Own w' w3.heap.size v (mP + mQ) ∧ Below w3.heap.size w3 w' ∧ Hid (∀ g o, w4.heap[g]? = some o → w'.heap[g]? = some o) := fun w4 hb =>
    (c122 (HOQ.out.2.1.later hb).is (HOQ.out.1.later hb).is (by have := HL.out.1; omega) (by have := HL.out.2; omega)).mono fun r w' ⟨v, e1, o1, o2⟩ => ⟨v, e1, o1.mono hb.size, hb.trans (o2.mono hb.size), fun g o hg => box_later hg o2 (Array.getElem?_eq_some_iff.1 hg).1⟩
  have k56 : ∀ v5 w5, Own w5 w3.heap.size v5 (mP + mQ) → Below w3.heap.size w3 w5 → Calls Tryz.prog 16 #[.bool false, v5, .int .i64 (-1076)] w5 fun r w' => ∃ m, r = .returned m ∧ Nrm w' w3.heap.size m false (mP + mQ) (-1076) ∧ Below w3.heap.size w3 w' ∧ Hid (∀ g o, w5.heap[g]? = some o → w'.heap[g]? = some o) := fun v5 w5 ho hb =>
    (c56 ho.is hL2 ((HH.out.2.2.2.2.2.2.later HB3.out).later hb) (by omega)).mono fun r w' ⟨v, e1, o1, o2⟩ => ⟨v, e1, o1.mono hb.size, hb.trans (o2.mono hb.size), fun g o hg => box_later hg o2 (Array.getElem?_eq_some_iff.1 hg).1⟩
  have k87 : ∀ m w6, Nrm w6 w3.heap.size m false (mP + mQ) (-1076) → Below w3.heap.size w3 w6 → Calls Tryz.prog 15 #[.agg #[.bool na, .slice ua un uc, .int .i64 ea], m] w6 fun r w' => ∃ s ao n cap ex, r = .returned (.agg #[.bool s, .slice ao n cap, .int .i64 ex]) ∧ Nrm w' w6.heap.size (.agg #[.bool s, .slice ao n cap, .int .i64 ex]) sL zL eL ∧ Below w3.heap.size w3 w' ∧ Hid (∀ g o, w6.heap[g]? = some o → w'.heap[g]? = some o) := fun m w6 hN hb =>
    (HKL.out w6 m w3.heap.size (HH.out.1.trans ((HB3.out.trans (hb.mono HB3.out.size)).mono HH.out.1.size)) hN).mono fun r w' ⟨v, e1, o1, o2⟩ => by
      obtain ⟨s, ao, n, cap, ex, rfl⟩ := o1.shape
      exact ⟨s, ao, n, cap, ex, e1, o1, hb.trans (o2.mono hb.size), fun g o hg => box_later hg o2 (Array.getElem?_eq_some_iff.1 hg).1⟩
  have hBR : Below w3.heap.size w3 w3.drew := (Below.refl _ _).drew
  clear hL2
  go_upto_region 8 with fail
  go_cut [12] from 37 to 42 (fun p wx => ∃ g s ao n cap ex, p = .pointer (some ⟨g, 0, none⟩) ∧ Hid (Bx w3 wx g s ao n cap ex sL zL eL))
  case first =>
    go_region_held3 (fun w' => (w'.cell? ⟨w.heap.size, 0, none⟩ = some (.bool na) ∧ w'.cell? ⟨w.heap.size, 1, none⟩ = some (.slice ua un uc) ∧ w'.cell? ⟨w.heap.size, 2, none⟩ = some (.int .i64 ea)) ∧ Below w3.heap.size w3 w') (first | (with_reducible assumption) | exact ⟨⟨a0, a1, a2⟩, hBR⟩ | (refine HK.out _ ?_; with_reducible assumption) | (refine HK.out _ ?_; refine Below.alloc (by with_reducible assumption) (Below.size (by with_reducible assumption)) _) | (refine HK.out _ (below_store3 (by first | (with_reducible assumption) | exact hb7.alloc hb7.size _) (by first | exact Nat.le_refl _ | exact hb5.size | exact hb6.size | exact hb7.size) _ _ _)) | go_keep)
      (first | (go_at_call 17; refine (k122 _ (by first | (with_reducible assumption) | exact hBR.alloc hBR.size _)).mono ?_; rintro r w5 ⟨v5, rfl, ho5, hb5, hk5⟩; first | (have HBX : Hid (w5.heap[w3.heap.size]? = some (.cells #[.bool false, .slice none 0 0, .int .i64 0] 29 (0, 0))) := hk5.out _ _ (heap_alloc_new w3.drew _)) | (have HBX : Hid True := trivial))
             | (go_at_call 16; refine (k56 _ _ (by first | (with_reducible assumption) | exact ho5.later ((Below.refl _ _).alloc (Nat.le_refl _) _)) (by first | (with_reducible assumption) | exact hb5.alloc hb5.size _)).mono ?_; rintro r w6 ⟨m6, rfl, hn6, hb6, hk6⟩; first | (have HBY := hidOf (hk6.out _ _ HBX.out)) | (have HBY : Hid (w6.heap[w5.heap.size]? = some (.cells #[.bool false, .slice none 0 0, .int .i64 0] 29 (0, 0))) := hk6.out _ _ (heap_alloc_new w5 _)) | (have HBY : Hid True := trivial))
             | (go_at_call 15; refine (k87 _ _ (by first | (with_reducible assumption) | exact Nrm.later hn6 ((Below.refl _ _).alloc (Nat.le_refl _) _)) (by first | (with_reducible assumption) | exact hb6.alloc hb6.size _)).mono ?_; rintro r w7 ⟨s7, ao7, n7, cap7, ex7, rfl, hn7, hb7, hk7⟩; first | (have HBZ := hidOf (hk7.out _ _ HBY.out); obtain ⟨⟨x1, x2, x3⟩, x4, x5, x6⟩ := box_cells HBZ.out) | (have HBZ : Hid (w7.heap[w6.heap.size]? = some (.cells #[.bool false, .slice none 0 0, .int .i64 0] 29 (0, 0))) := hk7.out _ _ (heap_alloc_new w6 _); obtain ⟨⟨x1, x2, x3⟩, x4, x5, x6⟩ := box_cells HBZ.out) | (have HBZ : Hid True := trivial)))
    all_goals go_wp2_with fail
    all_goals go_meet
    all_goals first
      | exact ⟨_, _, _, _, _, _, rfl, Bx.new hn7 hb7 hb6.size⟩
      | exact ⟨_, _, _, _, _, _, rfl, Bx.put hn7 hb7 (Nat.le_trans hb6.size (by simp)) hb6.size (by simp) HBZ.out⟩
      | exact ⟨_, _, _, _, _, _, rfl, Bx.put hn7 hb7 hb6.size hb5.size (lt_of_box HBY.out) HBZ.out⟩
      | exact ⟨_, _, _, _, _, _, rfl, Bx.put hn7 hb7 hb6.size (Nat.le_refl _) (lt_of_box HBY.out) HBZ.out⟩
  case rest =>
    obtain ⟨w8, rfl⟩ : ∃ w8 : World, w8 = wc := ⟨_, rfl⟩
    obtain ⟨g, s8, ao8, n8, cap8, ex8, rfl, H8⟩ := hcut
    obtain ⟨⟨x1, x2, x3⟩, -⟩ := box_cells H8.out.1
    have HW8 : Hid (Below w.heap.size w w8) := HH.out.1.trans ((HB3.out.trans (H8.out.2.2.1.mono HB3.out.size)).mono HH.out.1.size)
    have kr := HR1.out w8 _ _ HW8.out H8.out.2.2.2
    clear k122 k56 k87 HK hBR a0 a1 a2
    go_wp2_with fail
    refine kr.mono ?_
    rintro r w9 ⟨rfl, hb9⟩
    have HW9 : Hid (Below w.heap.size w w9 ∧ Below w8.heap.size w8 w9) := ⟨HW8.out.trans (hb9.mono HW8.out.size), hb9⟩
    have H9 : Hid (w9.heap[g]? = some (.cells #[.bool s8, .slice ao8 n8 cap8, .int .i64 ex8] 29 (0, 0))) := box_later H8.out.1 hb9 (lt_of_box H8.out.1)
    have k66 := c123 F HF.out.1
    rw [HF.out.2] at k66
    clear kr hb9 x1 x2 x3
    obtain ⟨⟨a0, a1, a2⟩, -⟩ := box_cells H9.out
    have hBR : Below w9.heap.size w9 w9.drew := (Below.refl _ _).drew
    have HK : Hid (∀ w', Below w9.heap.size w9 w' → (w'.cell? ⟨g, 0, none⟩ = some (.bool s8) ∧ w'.cell? ⟨g, 1, none⟩ = some (.slice ao8 n8 cap8) ∧ w'.cell? ⟨g, 2, none⟩ = some (.int .i64 ex8)) ∧ Below w9.heap.size w9 w') := fun w' hb => ⟨(box_cells (box_later H9.out hb (lt_of_box H9.out))).1, hb⟩
    have k32 : ∀ w4, Below w9.heap.size w9 w4 → Calls Tryz.prog 20 #[.int .u64 1] w4 fun r w' => ∃ ao n cap, r = .returned (.slice ao n cap) ∧ Own w' w9.heap.size (.slice ao n cap) 1 ∧ Below w9.heap.size w9 w' ∧ Hid (∀ g o, w4.heap[g]? = some o → w'.heap[g]? = some o) := fun w4 hb =>
      (c57 1 w4 (by omega)).mono fun r w' ⟨v, e1, o1, o2⟩ => by
        obtain ⟨ao, cap, rfl, -, -, -⟩ := o1.is
        exact ⟨_, _, _, e1, o1.mono hb.size, hb.trans (o2.mono hb.size), fun g o hg => box_later hg o2 (lt_of_box hg)⟩
    have k44 : ∀ am nm cm w6, Own w6 w9.heap.size (.slice am nm cm) 1 → Below w9.heap.size w9 w6 → Calls Tryz.prog 15 #[.agg #[.bool s8, .slice ao8 n8 cap8, .int .i64 ex8], .agg #[.bool false, .slice am nm cm, .int .i64 (-1075)]] w6 fun r w' => ∃ s ao n cap ex, r = .returned (.agg #[.bool s, .slice ao n cap, .int .i64 ex]) ∧ Nrm w' w6.heap.size (.agg #[.bool s, .slice ao n cap, .int .i64 ex]) sH zH eH ∧ Below w9.heap.size w9 w' ∧ Hid (∀ g o, w6.heap[g]? = some o → w'.heap[g]? = some o) := fun am nm cm w6 hN hb =>
      (HKH.out w6 _ _ _ _ (HW9.out.1.trans (hb.mono HW9.out.1.size)) (H8.out.2.2.2.later (HW9.out.2.trans (hb.mono HW9.out.2.size))) hN).mono fun r w' ⟨v, e1, o1, o2⟩ => by
        obtain ⟨s, ao, n, cap, ex, rfl⟩ := o1.shape
        exact ⟨s, ao, n, cap, ex, e1, o1, hb.trans (o2.mono hb.size), fun g o hg => box_later hg o2 (lt_of_box hg)⟩
    go_upto_region 12 with (first | (go_at_call 19; refine (k66 _).mono ?_; rintro e w' ⟨rfl, hw'⟩; replace hw' := hw'.symm; subst hw'))
    clear k66
    go_cut [14] from 54 to 57 (fun p wx => ∃ g s ao n cap ex, p = .pointer (some ⟨g, 0, none⟩) ∧ Hid (Bx w9 wx g s ao n cap ex sH zH eH))
    case first =>
      go_region_held3 (fun w' => (w'.cell? ⟨g, 0, none⟩ = some (.bool s8) ∧ w'.cell? ⟨g, 1, none⟩ = some (.slice ao8 n8 cap8) ∧ w'.cell? ⟨g, 2, none⟩ = some (.int .i64 ex8)) ∧ Below w9.heap.size w9 w') (first | (with_reducible assumption) | exact ⟨⟨a0, a1, a2⟩, hBR⟩ | (refine HK.out _ ?_; with_reducible assumption) | (refine HK.out _ ?_; refine Below.alloc (by with_reducible assumption) (Below.size (by with_reducible assumption)) _) | (refine HK.out _ (below_store3 (by first | (with_reducible assumption) | exact hb7.alloc hb7.size _) (by first | exact Nat.le_refl _ | exact hb5.size | exact hb7.size) _ _ _)) | go_keep)
        (first | (go_at_call 20; refine (k32 _ (by first | (with_reducible assumption) | exact hBR.alloc hBR.size _)).mono ?_; rintro r w5 ⟨am, nm, cm, rfl, ho5, hb5, hk5⟩; first | (have HBY : Hid (w5.heap[w9.heap.size]? = some (.cells #[.bool false, .slice none 0 0, .int .i64 0] 29 (0, 0))) := hk5.out _ _ (heap_alloc_new w9.drew _)) | (have HBY : Hid True := trivial))
               | (go_at_call 15; refine (k44 _ _ _ _ (by first | (with_reducible assumption) | exact ho5.later ((Below.refl _ _).alloc (Nat.le_refl _) _)) (by first | (with_reducible assumption) | exact hb5.alloc hb5.size _)).mono ?_; rintro r w7 ⟨s7, ao7, n7, cap7, ex7, rfl, hn7, hb7, hk7⟩; first | (have HBZ := hidOf (hk7.out _ _ HBY.out); obtain ⟨⟨x1, x2, x3⟩, x4, x5, x6⟩ := box_cells HBZ.out) | (have HBZ : Hid (w7.heap[w5.heap.size]? = some (.cells #[.bool false, .slice none 0 0, .int .i64 0] 29 (0, 0))) := hk7.out _ _ (heap_alloc_new w5 _); obtain ⟨⟨x1, x2, x3⟩, x4, x5, x6⟩ := box_cells HBZ.out) | (have HBZ : Hid True := trivial)))
      all_goals go_wp2_with fail
      all_goals go_meet
      all_goals first
        | exact ⟨_, _, _, _, _, _, rfl, Bx.new hn7 hb7 hb5.size⟩
        | exact ⟨_, _, _, _, _, _, rfl, Bx.put hn7 hb7 (Nat.le_trans hb5.size (by simp)) hb5.size (by simp) HBZ.out⟩
        | exact ⟨_, _, _, _, _, _, rfl, Bx.put hn7 hb7 hb5.size (Nat.le_refl _) (lt_of_box HBY.out) HBZ.out⟩
    case rest =>
      obtain ⟨w10, rfl⟩ : ∃ w10 : World, w10 = wc := ⟨_, rfl⟩
      obtain ⟨g', s9, ao9, n9, cap9, ex9, rfl, H10⟩ := hcut
      obtain ⟨⟨x1, x2, x3⟩, -⟩ := box_cells H10.out.1
      have HW10 : Hid (Below w.heap.size w w10) := HW9.out.1.trans (H10.out.2.2.1.mono HW9.out.1.size)
      have kr := HR2.out w10 _ _ HW10.out H10.out.2.2.2
      clear k32 k44 HK hBR a0 a1 a2
      go_wp2_with fail
      refine kr.mono ?_
      rintro r w11 ⟨rfl, hb11⟩
      have k67 := Ie.c11 F F HF.out.1 HF.out.1 w11
      rw [same_self] at k67
      have HW11 : Hid (Below w.heap.size w w11) := HW10.out.trans (hb11.mono HW10.out.size)
      clear kr hb11 x1 x2 x3
      go_wp2_with (first | (go_at_call 21; refine k67.mono ?_; rintro e w' ⟨rfl, hw'⟩; replace hw' := hw'.symm; subst hw'))
      refine bodyPost_ret (results_tmp2 rfl _ _ _) rfl ?_
      exact ⟨rfl, HW11.out⟩
end Go.Proofs.YtkmiohkpfdamoaaGreatDoor
namespace Go.Proofs.YtkmiohkpfdamoaaGreatDoor
set_option linter.unusedVariables false
set_option linter.unusedSimpArgs false
open Go.RowKit
end Go.Proofs.YtkmiohkpfdamoaaGreatDoor
/- The library's contracts at this program that are used: the builder's text, a whole number's decimal digits. -/
namespace Go.Proofs
open Go.Shelf
def Tryz.lays169_ren : Go.Shelf.Ren := ⟨fun | 169 => 76 | n => n, fun | 70 => 107 | 9 => 9 | 0 => 0 | 72 => 110 | 37 => 108 | 127 => 146 | 3 => 3 | 5 => 5 | n => n, fun | n => n⟩
theorem Tryz.lays169 : Go.Proofs.Lays.n169 Tryz.prog Tryz.lays169_ren := {
  mixed := by kernel_rfl
  f169 := Tryz.func76.trans (congrArg some (by kernel_rfl))
  t0 := Tryz.underlying0
  a0 := Tryz.isAgg0
  z0 := Tryz.sizeOf0
  v0 := Tryz.zeroValue0
  t3 := Tryz.underlying3
  a3 := Tryz.isAgg3
  z3 := Tryz.sizeOf3
  v3 := Tryz.zeroValue3
  t9 := Tryz.underlying9
  a9 := Tryz.isAgg9
  z9 := Tryz.sizeOf9
  v9 := Tryz.zeroValue9
  t37 := Tryz.underlying108
  a37 := Tryz.isAgg108
  z37 := Tryz.sizeOf108
  v37 := Tryz.zeroValue108
  t70 := Tryz.underlying107
  a70 := Tryz.isAgg107
  z70 := Tryz.sizeOf107
  v70 := Tryz.zeroValue107
  t72 := Tryz.underlying110
  a72 := Tryz.isAgg110
  z72 := Tryz.sizeOf110
  v72 := Tryz.zeroValue110
  t127 := Tryz.underlying146
  a127 := Tryz.isAgg146
  z127 := Tryz.sizeOf146
  v127 := Tryz.zeroValue146 }
theorem Tryz.Builder_Extra_169 : Builder.Extra Tryz.prog Tryz.lays169_ren := {
  sizeBuilder := by kernel_rfl
  liesBuilder := by kernel_rfl
  t5 := Tryz.underlying5
  a5 := Tryz.isAgg5
  z5 := Tryz.sizeOf5
  v5 := Tryz.zeroValue5
  infoByte := by kernel_rfl
  cellsByte := by kernel_rfl
  sizeByte := by kernel_rfl
  neB5 := by decide }
open Go.RowKit in
theorem Tryz.Builder_String (B b : Nat) (l : List UInt8) (w : World) (h : Lib.IsBuilder 110 5 B b (Lib.byteCells l) w) (h0 : l ≠ []) :
    Calls Tryz.prog 76 #[.pointer (some ⟨b, 0, none⟩)] w fun e w' => e = .returned (.string ⟨l.toArray⟩) ∧ Below B w w' := Any.Builder_String Tryz.lays169 Tryz.Builder_Extra_169 B b l w h h0
def Tryz.laysM171_ren : Go.Shelf.Ren := ⟨fun | 171 => 75 | 243 => 122 | 246 => 156 | 283 => 149 | 284 => 150 | 285 => 151 | 286 => 152 | 129 => 134 | 317 => 169 | 318 => 170 | 319 => 171 | 320 => 172 | 337 => 93 | 338 => 112 | n => n, fun | 3 => 3 | 9 => 9 | 2 => 2 | 4 => 4 | 171 => 165 | 0 => 0 | 53 => 51 | 37 => 108 | 5 => 5 | 173 => 167 | 212 => 182 | 51 => 79 | 20 => 20 | 213 => 183 | 46 => 88 | 232 => 156 | 233 => 160 | n => n, fun | 17 => 6 | 18 => 1 | 19 => 2 | n => n⟩
theorem Tryz.laysM171 : Go.Proofs.LaysM.n171 Tryz.prog Tryz.laysM171_ren := {
  mixed := by kernel_rfl
  f129 := Tryz.func134.trans (congrArg some (by kernel_rfl))
  f171 := Tryz.func75.trans (congrArg some (by kernel_rfl))
  f243 := Tryz.func122.trans (congrArg some (by kernel_rfl))
  f246 := Tryz.func156.trans (congrArg some (by kernel_rfl))
  f283 := Tryz.func149.trans (congrArg some (by kernel_rfl))
  f284 := Tryz.func150.trans (congrArg some (by kernel_rfl))
  f285 := Tryz.func151.trans (congrArg some (by kernel_rfl))
  f286 := Tryz.func152.trans (congrArg some (by kernel_rfl))
  f317 := Tryz.func169.trans (congrArg some (by kernel_rfl))
  f318 := Tryz.func170.trans (congrArg some (by kernel_rfl))
  f319 := Tryz.func171.trans (congrArg some (by kernel_rfl))
  f320 := Tryz.func172.trans (congrArg some (by kernel_rfl))
  f337 := Tryz.func93.trans (congrArg some (by kernel_rfl))
  f338 := Tryz.func112.trans (congrArg some (by kernel_rfl))
  t0 := Tryz.underlying0
  a0 := Tryz.isAgg0
  z0 := Tryz.sizeOf0
  v0 := Tryz.zeroValue0
  t2 := Tryz.underlying2
  a2 := Tryz.isAgg2
  z2 := Tryz.sizeOf2
  v2 := Tryz.zeroValue2
  t3 := Tryz.underlying3
  a3 := Tryz.isAgg3
  z3 := Tryz.sizeOf3
  v3 := Tryz.zeroValue3
  t4 := Tryz.underlying4
  a4 := Tryz.isAgg4
  z4 := Tryz.sizeOf4
  v4 := Tryz.zeroValue4
  t5 := Tryz.underlying5
  a5 := Tryz.isAgg5
  z5 := Tryz.sizeOf5
  v5 := Tryz.zeroValue5
  t9 := Tryz.underlying9
  a9 := Tryz.isAgg9
  z9 := Tryz.sizeOf9
  v9 := Tryz.zeroValue9
  t20 := Tryz.underlying20
  a20 := Tryz.isAgg20
  z20 := Tryz.sizeOf20
  v20 := Tryz.zeroValue20
  t37 := Tryz.underlying108
  a37 := Tryz.isAgg108
  z37 := Tryz.sizeOf108
  v37 := Tryz.zeroValue108
  t46 := Tryz.underlying88
  a46 := Tryz.isAgg88
  z46 := Tryz.sizeOf88
  v46 := Tryz.zeroValue88
  t51 := Tryz.underlying79
  a51 := Tryz.isAgg79
  z51 := Tryz.sizeOf79
  v51 := Tryz.zeroValue79
  t53 := Tryz.underlying51
  a53 := Tryz.isAgg51
  z53 := Tryz.sizeOf51
  v53 := Tryz.zeroValue51
  t171 := Tryz.underlying165
  a171 := Tryz.isAgg165
  z171 := Tryz.sizeOf165
  v171 := Tryz.zeroValue165
  t173 := Tryz.underlying167
  a173 := Tryz.isAgg167
  z173 := Tryz.sizeOf167
  v173 := Tryz.zeroValue167
  t212 := Tryz.underlying182
  a212 := Tryz.isAgg182
  z212 := Tryz.sizeOf182
  v212 := Tryz.zeroValue182
  t213 := Tryz.underlying183
  a213 := Tryz.isAgg183
  z213 := Tryz.sizeOf183
  t232 := Tryz.underlying156
  a232 := Tryz.isAgg156
  z232 := Tryz.sizeOf156
  v232 := Tryz.zeroValue156
  t233 := Tryz.underlying160
  a233 := Tryz.isAgg160
  z233 := Tryz.sizeOf160
  v233 := Tryz.zeroValue160
  g17 := by kernel_rfl
  g18 := by kernel_rfl
  g19 := by kernel_rfl
  i0 := by kernel_rfl
  i2 := by kernel_rfl
  i3 := by kernel_rfl
  i4 := by kernel_rfl
  i5 := by kernel_rfl
  i9 := by kernel_rfl
  i20 := by kernel_rfl
  i37 := by kernel_rfl
  i46 := by kernel_rfl
  i51 := by kernel_rfl
  i53 := by kernel_rfl
  i171 := by kernel_rfl
  i173 := by kernel_rfl
  i212 := by kernel_rfl
  i232 := by kernel_rfl
  i233 := by kernel_rfl
  m17 := by kernel_rfl
  m18 := by kernel_rfl
  m19 := by kernel_rfl }
open Go.RowKit Go.Sort Go.Lib in
theorem Tryz.strconv_Itoa (n : Int) (h0 : -9223372036854775808 ≤ n) (h1 : n ≤ 9223372036854775807) (w : World) (htab : Lib.TabIs Tryz.prog w "internal/strconv.uint64pow10" .u64 Lib.pow10Tab) :
    Calls Tryz.prog 75 #[.int .i64 n] w fun e w' => e = .returned (.string ⟨(Lib.itoa n).toArray⟩) ∧ ∃ k os, w' = grow (w.drewN k) os := Any.strconv_Itoa Tryz.laysM171 n h0 h1 w htab
end Go.Proofs
namespace Go.Proofs.YtkmiohkpfdamoaaGreatDoor
set_option linter.unusedVariables false
set_option linter.unusedSimpArgs false
open Go.RowKit
theorem bld_size : (Tryz.prog.info? 110).map (·.size) = some 2 := by kernel_rfl
theorem bld_lies : liesAt Tryz.prog Tryz.prog.depth 110 (2 / Tryz.prog.cellsOf 110) 0 110 1 = true := by kernel_rfl
theorem byte_info : (Tryz.prog.info? 5).map (fun i => (i.zero, i.size, i.bytes)) = some (some (.int .u8 0), 1, 1) := by kernel_rfl
set_option maxRecDepth 100000 in
theorem c92_used (b : Nat) (w : World) (h0 : w.cell? ⟨b, 0, none⟩ = some (.pointer (some ⟨b, 0, none⟩))) :
    Calls Tryz.prog 116 #[.pointer (some ⟨b, 0, none⟩)] w fun e w' => e = .returned (.tuple #[]) ∧ w' = w := by
  obtain ⟨j, hj, _⟩ := Option.map_eq_some_iff.1 bld_size
  go_enter Tryz.func116, Tryz.ntmps116
  go_wp2
  rw [Lib.run_neq_ptr_same w _ Tryz.underlying107 hj]
  go_wp2
  go_end0
  exact ⟨rfl, rfl⟩
set_option maxRecDepth 100000 in
theorem c92_fresh (b : Nat) (w : World) (h0 : w.cell? ⟨b, 0, none⟩ = some (.pointer none)) (hsh : w.shape? b = some (110, 2)) (hfz : w.frozen? ⟨b, 0, none⟩ = false) :
    Calls Tryz.prog 116 #[.pointer (some ⟨b, 0, none⟩)] w fun e w' => e = .returned (.tuple #[]) ∧ w' = w.setCell ⟨b, 0, none⟩ (.pointer (some ⟨b, 0, none⟩)) := by
  obtain ⟨j, hj, hjs⟩ := Option.map_eq_some_iff.1 bld_size
  go_enter Tryz.func116, Tryz.ntmps116
  go_wp2
  rw [Lib.run_to_unsafe w ⟨b, 0, none⟩ Tryz.underlying107 Tryz.underlying163 hj (by rw [hjs]; decide) hsh (Nat.zero_lt_succ 1)]
  simp only [Result.andThen]
  rw [Oper.upon_value]
  go_wp2
  rw [run_callFunc_extern Tryz.func148 (by kernel_rfl) (by kernel_rfl) (by kernel_rfl) (e := Extern.AbiNoEscape.same) (by kernel_rfl)]
  rw [Lib.run_noEscape]
  simp only [Result.andThen]
  rw [Oper.upon_value]
  go_wp2
  rw [Lib.run_from_unsafe w ⟨b, 0, none⟩ Tryz.underlying163 Tryz.underlying107 hj hsh bld_lies]
  simp only [Result.andThen]
  rw [Oper.upon_value]
  go_wp2
  go_end0
  exact ⟨rfl, rfl⟩
abbrev Bd (B b : Nat) (bs : List Value) (w : World) : Prop := Lib.IsBuilder 110 5 B b bs w
theorem c92 {B b : Nat} {bs : List Value} {w : World} (h : Bd B b bs w) :
    Calls Tryz.prog 116 #[.pointer (some ⟨b, 0, none⟩)] w fun e w' => e = .returned (.tuple #[]) ∧ Lib.BuilderAt 110 5 B b (.pointer (some ⟨b, 0, none⟩)) bs w' ∧ Below B w w' := by
  rcases h with h | h
  · refine (c92_fresh b w h.cell0 h.shape h.frozen0).mono ?_
    rintro e w' ⟨rfl, rfl⟩
    exact ⟨rfl, h.used _, (Below.refl B w).setCell (p := ⟨b, 0, none⟩) h.1 _⟩
  · refine (c92_used b w h.cell0).mono ?_
    rintro e w' ⟨rfl, rfl⟩
    exact ⟨rfl, h, Below.refl B _⟩
set_option maxRecDepth 100000 in
theorem c70 {B b : Nat} {bs : List Value} {w : World} (c : Int) (h : Bd B b bs w) (hlen : bs.length + 1 ≤ 140737488355328) (hBw : B ≤ w.heap.size) :
    Calls Tryz.prog 71 #[.pointer (some ⟨b, 0, none⟩), .int .u8 c] w fun e w' => e = .returned .nilIface ∧ Bd B b (bs ++ [.int .u8 c]) w' ∧ Below B w w' := by
  obtain ⟨i0, hi, hz0, hz1, hz2⟩ := info_parts byte_info
  have k := c92 h
  clear h
  go_enter Tryz.func71, Tryz.ntmps71
  go_wp2_with fail
  refine k.mono ?_
  rintro e w1 ⟨rfl, ⟨hB, v, hbk, hown, hne⟩, hb1⟩
  clear k
  have hs1 := hb1.size
  have c0 : w1.cell? ⟨b, 0, none⟩ = some (.pointer (some ⟨b, 0, none⟩)) := by rw [Lib.cell_of_heap hbk]; rfl
  have c1 : w1.cell? ⟨b, 1, none⟩ = some v := by rw [Lib.cell_of_heap hbk]; rfl
  have hlt : b < w1.heap.size := (Array.getElem?_eq_some_iff.1 hbk).1
  go_wp2_with (at_builtin; refine wpList_append_own _ rfl _ _ 108 rfl B 5 i0 (.int .u8 0) 1 1 Tryz.underlying108 hi hz0 hz1 hz2 rfl (by decide) _ _ _ rfl (hown.alloc _) ⟨w1.heap.size, 0, none⟩ 1 1 [.int .u8 c] rfl rfl (cell_one_new _ _ _) (by intro u hu; simp at hu; subst hu; rfl) (by unfold maxLen; omega) (by omega) (by simp; omega) ?_)
  intro v' w2 hown' hgrow _
  have hb2 : w2.heap[b]? = some (.cells #[.pointer (some ⟨b, 0, none⟩), v] 110 (0, 0)) := by
    rw [hgrow.block b (by simp; omega) (fun e => hne e.symm), Lib.alloc_old w1 _ b hlt]
    exact hbk
  have d0 : w2.cell? ⟨b, 0, none⟩ = some (.pointer (some ⟨b, 0, none⟩)) := by rw [Lib.cell_of_heap hb2]; rfl
  have d1 : w2.cell? ⟨b, 1, none⟩ = some v := by rw [Lib.cell_of_heap hb2]; rfl
  have f1 : w2.frozen? ⟨b, 1, none⟩ = false := Lib.frozen_of_heap hb2 1
  obtain ⟨ao, n', cap, rfl⟩ : ∃ ao n' cap, v' = .slice ao n' cap := by
    rcases hown'.2 with ⟨hv, _⟩ | ⟨g, cap, cur, hv, _⟩
    · exact ⟨_, _, _, hv⟩
    · exact ⟨_, _, _, hv⟩
  go_wp2
  go_ret
  refine ⟨rfl, .inr (Lib.BuilderAt.put (T := 110) (e := 5) hB hb2 (bs' := bs ++ [.int .u8 c]) (by simpa using hown') (by decide)), ?_⟩
  exact ((hb1.alloc (by omega) _).grown hgrow (by simp; omega) (fun k hk => (hown.lt k hk).1)).setCell (p := ⟨b, 1, none⟩) hB _
set_option maxRecDepth 100000 in
theorem c71 {B b : Nat} {bs : List Value} {w : World} (s : ByteArray) (h : Bd B b bs w) (hlen : bs.length + s.size ≤ 140737488355328) (hBw : B ≤ w.heap.size) :
    Calls Tryz.prog 72 #[.pointer (some ⟨b, 0, none⟩), .string s] w fun e w' => e = .returned (.tuple #[.int .i64 s.size, .nilIface]) ∧ Bd B b (bs ++ Lib.strCells s) w' ∧ Below B w w' := by
  obtain ⟨i0, hi, hz0, hz1, hz2⟩ := info_parts byte_info
  have k := c92 h
  clear h
  go_enter Tryz.func72, Tryz.ntmps72
  go_wp2_with fail
  refine k.mono ?_
  rintro e w1 ⟨rfl, ⟨hB, v, hbk, hown, hne⟩, hb1⟩
  clear k
  have hs1 := hb1.size
  have c0 : w1.cell? ⟨b, 0, none⟩ = some (.pointer (some ⟨b, 0, none⟩)) := by rw [Lib.cell_of_heap hbk]; rfl
  have c1 : w1.cell? ⟨b, 1, none⟩ = some v := by rw [Lib.cell_of_heap hbk]; rfl
  have hlt : b < w1.heap.size := (Array.getElem?_eq_some_iff.1 hbk).1
  go_wp2_with (at_builtin; refine Lib.wpList_append_own_string _ rfl _ _ 108 9 rfl B 5 i0 Tryz.underlying108 Tryz.underlying9 hi hz0 hz1 hz2 _ _ _ rfl hown s rfl (by unfold maxLen; omega) (by omega) (by omega) ?_)
  intro v' w2 hown' hgrow _
  have hb2 : w2.heap[b]? = some (.cells #[.pointer (some ⟨b, 0, none⟩), v] 110 (0, 0)) := by
    rw [hgrow.block b hlt (fun e => hne e.symm)]
    exact hbk
  have d0 : w2.cell? ⟨b, 0, none⟩ = some (.pointer (some ⟨b, 0, none⟩)) := by rw [Lib.cell_of_heap hb2]; rfl
  have d1 : w2.cell? ⟨b, 1, none⟩ = some v := by rw [Lib.cell_of_heap hb2]; rfl
  have f1 : w2.frozen? ⟨b, 1, none⟩ = false := Lib.frozen_of_heap hb2 1
  obtain ⟨ao, n', cap, rfl⟩ : ∃ ao n' cap, v' = .slice ao n' cap := by
    rcases hown'.2 with ⟨hv, _⟩ | ⟨g, cap, cur, hv, _⟩
    · exact ⟨_, _, _, hv⟩
    · exact ⟨_, _, _, hv⟩
  go_wp2
  go_ret2
  refine ⟨rfl, .inr (Lib.BuilderAt.put (T := 110) (e := 5) hB hb2 (bs' := bs ++ Lib.strCells s) (by simpa [Lib.strCells_length] using hown') (by decide)), ?_⟩
  exact (hb1.grown hgrow (by omega) (fun k hk => (hown.lt k hk).1)).setCell (p := ⟨b, 1, none⟩) hB _
theorem Bd.later {B b : Nat} {bs : List Value} {w w' : World} (h : Bd B b bs w) (hb : Below w.heap.size w w') : Bd B b bs w' := by
  have key : ∀ p, Lib.BuilderAt 110 5 B b p bs w → Lib.BuilderAt 110 5 B b p bs w' := fun p ⟨h1, v, h2, h3, h4⟩ => by
    refine ⟨h1, v, (hb.block b (Array.getElem?_eq_some_iff.1 h2).1).trans h2, ⟨h3.1, ?_⟩, h4⟩
    rcases h3.2 with h5 | ⟨g, cap, cur, e1, e2, e3, e4⟩
    · exact .inl h5
    · exact .inr ⟨g, cap, cur, e1, e2, (hb.block g (Array.getElem?_eq_some_iff.1 e3).1).trans e3, e4⟩
  rcases h with h | h
  · exact .inl (key _ h)
  · exact .inr (key _ h)
theorem Bd.new (w : World) : Bd w.heap.size w.heap.size [] (w.alloc (.cells #[.pointer none, .slice none 0 0] 110)) :=
  .inl ⟨Nat.le_refl _, .slice none 0 0, heap_alloc_new _ _, World.ownsRow_nil .., by simp [Value.ownBlock]⟩
end Go.Proofs.YtkmiohkpfdamoaaGreatDoor
namespace Go.Proofs.YtkmiohkpfdamoaaGreatDoor
set_option linter.unusedVariables false
set_option linter.unusedSimpArgs false
open Go.RowKit
set_option maxRecDepth 200000 in
theorem c37_pos (b o uc d : Nat) (ea : Int) (H T : List UInt8) (w : World) (hcell : w.cell? ⟨b, o, none⟩ = some (.int .u32 (d : Int))) (hH : H.length ≤ 1000) (hT : T.length ≤ 1000) (hd : d < 4294967296) (huc : 1 ≤ uc)
    (k43 : ∀ W g, Below w.heap.size w W → W.heap[g]? = some (.cells #[.bool false, .slice (some ⟨b, o, none⟩) 1 uc, .int .i64 ea] 29 (0, 0)) → Calls Tryz.prog 13 #[.slice (some ⟨g, 0, none⟩) 1 1] W fun r w' => r = .returned (.bool true) ∧ Below W.heap.size W w')
    (k72 : ∀ W, Below w.heap.size w W → Calls Tryz.prog 73 #[.int .u64 (d : Int), .int .i64 16] W fun e w' => e = .returned (.string ⟨H.toArray⟩) ∧ Below W.heap.size W w')
    (k74 : ∀ W, Below w.heap.size w W → Calls Tryz.prog 75 #[.int .i64 ea] W fun e w' => e = .returned (.string ⟨T.toArray⟩) ∧ Below W.heap.size W w') :
    Calls Tryz.prog 31 #[.agg #[.bool false, .slice (some ⟨b, o, none⟩) 1 uc, .int .i64 ea]] w fun e w' => e = .returned (.string ⟨(H ++ 112 :: T).toArray⟩) ∧ Below w.heap.size w w' := by
  obtain ⟨W, hW⟩ : ∃ W, W = w.alloc (.cells #[.bool false, .slice (some ⟨b, o, none⟩) 1 uc, .int .i64 ea] 29) := ⟨_, rfl⟩
  have hBW : Below w.heap.size w W := by rw [hW]; exact (Below.refl _ _).alloc (Nat.le_refl _) _
  have hsz : W.heap.size = w.heap.size + 1 := by rw [hW]; simp
  have hbx : W.heap[w.heap.size]? = some (.cells #[.bool false, .slice (some ⟨b, o, none⟩) 1 uc, .int .i64 ea] 29 (0, 0)) := by rw [hW]; exact heap_alloc_new _ _
  have hlt : b < w.heap.size := World.block_lt_of_cell? _ _ hcell
  have HX : Hid (Below w.heap.size w W ∧ W.heap.size = w.heap.size + 1 ∧ W.heap[w.heap.size]? = some (.cells #[.bool false, .slice (some ⟨b, o, none⟩) 1 uc, .int .i64 ea] 29 (0, 0)) ∧ w.cell? ⟨b, o, none⟩ = some (.int .u32 (d : Int)) ∧ b < w.heap.size) := ⟨hBW, hsz, hbx, hcell, hlt⟩
  have HCL : Hid (∀ W', Below W.heap.size W W' → (W'.cell? ⟨w.heap.size, 0, none⟩ = some (.bool false) ∧ W'.cell? ⟨w.heap.size, 1, none⟩ = some (.slice (some ⟨b, o, none⟩) 1 uc) ∧ W'.cell? ⟨w.heap.size, 2, none⟩ = some (.int .i64 ea)) ∧ W'.cell? ⟨b, o, none⟩ = some (.int .u32 (d : Int)) ∧ Below w.heap.size w W') := fun W' h =>
    ⟨(box_cells (box_later hbx h (by omega))).1, ((h.cell (p := ⟨b, o, none⟩) (by show b < W.heap.size; omega)).trans (hBW.cell hlt)).trans hcell, hBW.trans (h.mono hBW.size)⟩
  have k1 := k43 (W.alloc (.cells #[.bool false, .slice (some ⟨b, o, none⟩) 1 uc, .int .i64 ea] 29)) (w.heap.size + 1) (hBW.alloc hBW.size _) (by rw [← hsz]; exact heap_alloc_new _ _)
  have HK72 : Hid _ := k72
  have HK74 : Hid _ := k74
  have HL : Hid (H.length ≤ 1000 ∧ T.length ≤ 1000) := ⟨hH, hT⟩
  clear hBW hsz hbx hcell hlt k43 k72 k74 hH hT
  go_enter Tryz.func31, Tryz.ntmps31
  go_wp2_with fail
  rw [← hW]
  clear hW
  refine k1.mono ?_
  rintro r w1 ⟨rfl, hb1⟩
  clear k1
  have HB1 : Hid (Below W.heap.size W w1) := ((Below.refl W.heap.size W).alloc (Nat.le_refl _) _).trans (hb1.mono (by simp))
  clear hb1
  obtain ⟨⟨x0, x1, x2⟩, x3, -⟩ := HCL.out w1 HB1.out
  obtain ⟨W2, hW2⟩ : ∃ W2, W2 = w1.alloc (.cells #[.pointer none, .slice none 0 0] 110) := ⟨_, rfl⟩
  have HD0 : Hid (Bd w1.heap.size w1.heap.size [] W2 ∧ Below w1.heap.size w1 W2) := ⟨by rw [hW2]; exact Bd.new w1, by rw [hW2]; exact (Below.refl _ _).alloc (Nat.le_refl _) _⟩
  obtain ⟨⟨y0, y1, y2⟩, y3, -⟩ := HCL.out W2 (HB1.out.trans (HD0.out.2.mono HB1.out.size))
  rw [hW2] at y0 y1 y2 y3
  have k3 := HK72.out W2 (HCL.out W2 (HB1.out.trans (HD0.out.2.mono HB1.out.size))).2.2
  go_wp2_with fail
  rw [← hW2]
  clear hW2
  refine k3.mono ?_
  rintro r w3 ⟨rfl, hb3⟩
  have HD3 : Hid (Bd w1.heap.size w1.heap.size [] w3 ∧ Below w1.heap.size w1 w3) := ⟨HD0.out.1.later hb3, HD0.out.2.trans (hb3.mono HD0.out.2.size)⟩
  clear k3 hb3
  have k4 := c71 ⟨H.toArray⟩ HD3.out.1 (by have := HL.out.1; simp [ByteArray.size]; omega) HD3.out.2.size
  go_wp2_with fail
  refine k4.mono ?_
  rintro r w4 ⟨rfl, hd4, hb4⟩
  have HD4 : Hid (Bd w1.heap.size w1.heap.size ([] ++ Lib.strCells ⟨H.toArray⟩) w4 ∧ Below w1.heap.size w1 w4) := ⟨hd4, HD3.out.2.trans hb4⟩
  clear k4 hd4 hb4
  go_wp2_with fail
  go_loop [5] (fun v => v = .int .i64 (-1)) (fun _ => 0)
  case atStart => rfl
  case round =>
    subst hrel
    have k5 := c70 112 HD4.out.1 (by have := HL.out.1; simp [Lib.strCells_length, ByteArray.size]; omega) HD4.out.2.size
    go_wp2_with fail
    refine k5.mono ?_
    rintro r w5 ⟨rfl, hd5, hb5⟩
    have HD5 : Hid (Bd w1.heap.size w1.heap.size ([] ++ Lib.strCells ⟨H.toArray⟩ ++ [.int .u8 112]) w5 ∧ Below w1.heap.size w1 w5) := ⟨hd5, HD4.out.2.trans hb5⟩
    clear k5 hd5 hb5
    obtain ⟨⟨z0, z1, z2⟩, z3, z4⟩ := HCL.out w5 (HB1.out.trans (HD5.out.2.mono HB1.out.size))
    have k6 := HK74.out w5 z4
    clear z4
    go_wp2_with fail
    refine k6.mono ?_
    rintro r w6 ⟨rfl, hb6⟩
    have HD6 : Hid (Bd w1.heap.size w1.heap.size ([] ++ Lib.strCells ⟨H.toArray⟩ ++ [.int .u8 112]) w6 ∧ Below w1.heap.size w1 w6) := ⟨HD5.out.1.later hb6, HD5.out.2.trans (hb6.mono HD5.out.2.size)⟩
    clear k6 hb6
    have k7 := c71 ⟨T.toArray⟩ HD6.out.1 (by have := HL.out.1; have := HL.out.2; simp [Lib.strCells_length, ByteArray.size]; omega) HD6.out.2.size
    go_wp2_with fail
    refine k7.mono ?_
    rintro r w7 ⟨rfl, hd7, hb7⟩
    have e7 : ([] : List Value) ++ Lib.strCells ⟨H.toArray⟩ ++ [.int .u8 112] ++ Lib.strCells ⟨T.toArray⟩ = Lib.byteCells (H ++ [112] ++ T) := by simp [Lib.byteCells, Lib.strCells]
    rw [e7] at hd7
    have HB7 : Hid (Below w1.heap.size w1 w7) := HD6.out.2.trans hb7
    have k8 := Tryz.Builder_String _ _ _ _ hd7 (by simp)
    clear k7 hd7 hb7
    go_wp2_with fail
    refine k8.mono ?_
    rintro r w8 ⟨rfl, hb8⟩
    have HB8 : Hid (Below w.heap.size w w8) := (HCL.out w8 (HB1.out.trans ((HB7.out.trans hb8).mono HB1.out.size))).2.2
    clear k8 hb8
    go_wp2_with fail
    go_ret
    exact ⟨rfl, HB8.out⟩
set_option maxRecDepth 200000 in
theorem c37_neg (b o uc d : Nat) (ea : Int) (H T : List UInt8) (w : World) (hcell : w.cell? ⟨b, o, none⟩ = some (.int .u32 (d : Int))) (hH : H.length ≤ 1000) (hT : T.length ≤ 1000) (hd : d < 4294967296) (huc : 1 ≤ uc)
    (k43 : ∀ W g, Below w.heap.size w W → W.heap[g]? = some (.cells #[.bool true, .slice (some ⟨b, o, none⟩) 1 uc, .int .i64 ea] 29 (0, 0)) → Calls Tryz.prog 13 #[.slice (some ⟨g, 0, none⟩) 1 1] W fun r w' => r = .returned (.bool true) ∧ Below W.heap.size W w')
    (k72 : ∀ W, Below w.heap.size w W → Calls Tryz.prog 73 #[.int .u64 (d : Int), .int .i64 16] W fun e w' => e = .returned (.string ⟨H.toArray⟩) ∧ Below W.heap.size W w')
    (k74 : ∀ W, Below w.heap.size w W → Calls Tryz.prog 75 #[.int .i64 ea] W fun e w' => e = .returned (.string ⟨T.toArray⟩) ∧ Below W.heap.size W w') :
    Calls Tryz.prog 31 #[.agg #[.bool true, .slice (some ⟨b, o, none⟩) 1 uc, .int .i64 ea]] w fun e w' => e = .returned (.string ⟨(45 :: (H ++ 112 :: T)).toArray⟩) ∧ Below w.heap.size w w' := by
  obtain ⟨W, hW⟩ : ∃ W, W = w.alloc (.cells #[.bool true, .slice (some ⟨b, o, none⟩) 1 uc, .int .i64 ea] 29) := ⟨_, rfl⟩
  have hBW : Below w.heap.size w W := by rw [hW]; exact (Below.refl _ _).alloc (Nat.le_refl _) _
  have hsz : W.heap.size = w.heap.size + 1 := by rw [hW]; simp
  have hbx : W.heap[w.heap.size]? = some (.cells #[.bool true, .slice (some ⟨b, o, none⟩) 1 uc, .int .i64 ea] 29 (0, 0)) := by rw [hW]; exact heap_alloc_new _ _
  have hlt : b < w.heap.size := World.block_lt_of_cell? _ _ hcell
  have HX : Hid (Below w.heap.size w W ∧ W.heap.size = w.heap.size + 1 ∧ W.heap[w.heap.size]? = some (.cells #[.bool true, .slice (some ⟨b, o, none⟩) 1 uc, .int .i64 ea] 29 (0, 0)) ∧ w.cell? ⟨b, o, none⟩ = some (.int .u32 (d : Int)) ∧ b < w.heap.size) := ⟨hBW, hsz, hbx, hcell, hlt⟩
  have HCL : Hid (∀ W', Below W.heap.size W W' → (W'.cell? ⟨w.heap.size, 0, none⟩ = some (.bool true) ∧ W'.cell? ⟨w.heap.size, 1, none⟩ = some (.slice (some ⟨b, o, none⟩) 1 uc) ∧ W'.cell? ⟨w.heap.size, 2, none⟩ = some (.int .i64 ea)) ∧ W'.cell? ⟨b, o, none⟩ = some (.int .u32 (d : Int)) ∧ Below w.heap.size w W') := fun W' h =>
    ⟨(box_cells (box_later hbx h (by omega))).1, ((h.cell (p := ⟨b, o, none⟩) (by show b < W.heap.size; omega)).trans (hBW.cell hlt)).trans hcell, hBW.trans (h.mono hBW.size)⟩
  have k1 := k43 (W.alloc (.cells #[.bool true, .slice (some ⟨b, o, none⟩) 1 uc, .int .i64 ea] 29)) (w.heap.size + 1) (hBW.alloc hBW.size _) (by rw [← hsz]; exact heap_alloc_new _ _)
  have HK72 : Hid _ := k72
  have HK74 : Hid _ := k74
  have HL : Hid (H.length ≤ 1000 ∧ T.length ≤ 1000) := ⟨hH, hT⟩
  clear hBW hsz hbx hcell hlt k43 k72 k74 hH hT
  go_enter Tryz.func31, Tryz.ntmps31
  go_wp2_with fail
  rw [← hW]
  clear hW
  refine k1.mono ?_
  rintro r w1 ⟨rfl, hb1⟩
  clear k1
  have HB1 : Hid (Below W.heap.size W w1) := ((Below.refl W.heap.size W).alloc (Nat.le_refl _) _).trans (hb1.mono (by simp))
  clear hb1
  obtain ⟨⟨x0, x1, x2⟩, x3, -⟩ := HCL.out w1 HB1.out
  obtain ⟨W2, hW2⟩ : ∃ W2, W2 = w1.alloc (.cells #[.pointer none, .slice none 0 0] 110) := ⟨_, rfl⟩
  have HD0 : Hid (Bd w1.heap.size w1.heap.size [] W2 ∧ Below w1.heap.size w1 W2) := ⟨by rw [hW2]; exact Bd.new w1, by rw [hW2]; exact (Below.refl _ _).alloc (Nat.le_refl _) _⟩
  obtain ⟨⟨y0, y1, y2⟩, y3, -⟩ := HCL.out W2 (HB1.out.trans (HD0.out.2.mono HB1.out.size))
  rw [hW2] at y0 y1 y2 y3
  have k2 := c70 45 HD0.out.1 (by simp) HD0.out.2.size
  go_wp2_with fail
  rw [← hW2]
  clear hW2
  refine k2.mono ?_
  rintro r w2 ⟨rfl, hd2, hb2⟩
  have HD2 : Hid (Bd w1.heap.size w1.heap.size ([] ++ [.int .u8 45]) w2 ∧ Below w1.heap.size w1 w2) := ⟨hd2, HD0.out.2.trans hb2⟩
  clear k2 hd2 hb2 x0 x1 x2 x3 y0 y1 y2 y3
  obtain ⟨⟨x0, x1, x2⟩, x3, -⟩ := HCL.out w2 (HB1.out.trans (HD2.out.2.mono HB1.out.size))
  have k3 := HK72.out w2 (HCL.out w2 (HB1.out.trans (HD2.out.2.mono HB1.out.size))).2.2
  go_wp2_with fail
  refine k3.mono ?_
  rintro r w3 ⟨rfl, hb3⟩
  have HD3 : Hid (Bd w1.heap.size w1.heap.size ([] ++ [.int .u8 45]) w3 ∧ Below w1.heap.size w1 w3) := ⟨HD2.out.1.later hb3, HD2.out.2.trans (hb3.mono HD2.out.2.size)⟩
  clear k3 hb3
  have k4 := c71 ⟨H.toArray⟩ HD3.out.1 (by have := HL.out.1; simp [ByteArray.size]; omega) HD3.out.2.size
  go_wp2_with fail
  refine k4.mono ?_
  rintro r w4 ⟨rfl, hd4, hb4⟩
  have HD4 : Hid (Bd w1.heap.size w1.heap.size (([] ++ [.int .u8 45]) ++ Lib.strCells ⟨H.toArray⟩) w4 ∧ Below w1.heap.size w1 w4) := ⟨hd4, HD3.out.2.trans hb4⟩
  clear k4 hd4 hb4
  go_wp2_with fail
  go_loop [5] (fun v => v = .int .i64 (-1)) (fun _ => 0)
  case atStart => rfl
  case round =>
    subst hrel
    have k5 := c70 112 HD4.out.1 (by have := HL.out.1; simp [Lib.strCells_length, ByteArray.size]; omega) HD4.out.2.size
    go_wp2_with fail
    refine k5.mono ?_
    rintro r w5 ⟨rfl, hd5, hb5⟩
    have HD5 : Hid (Bd w1.heap.size w1.heap.size (([] ++ [.int .u8 45]) ++ Lib.strCells ⟨H.toArray⟩ ++ [.int .u8 112]) w5 ∧ Below w1.heap.size w1 w5) := ⟨hd5, HD4.out.2.trans hb5⟩
    clear k5 hd5 hb5
    obtain ⟨⟨z0, z1, z2⟩, z3, z4⟩ := HCL.out w5 (HB1.out.trans (HD5.out.2.mono HB1.out.size))
    have k6 := HK74.out w5 z4
    clear z4
    go_wp2_with fail
    refine k6.mono ?_
    rintro r w6 ⟨rfl, hb6⟩
    have HD6 : Hid (Bd w1.heap.size w1.heap.size (([] ++ [.int .u8 45]) ++ Lib.strCells ⟨H.toArray⟩ ++ [.int .u8 112]) w6 ∧ Below w1.heap.size w1 w6) := ⟨HD5.out.1.later hb6, HD5.out.2.trans (hb6.mono HD5.out.2.size)⟩
    clear k6 hb6
    have k7 := c71 ⟨T.toArray⟩ HD6.out.1 (by have := HL.out.1; have := HL.out.2; simp [Lib.strCells_length, ByteArray.size]; omega) HD6.out.2.size
    go_wp2_with fail
    refine k7.mono ?_
    rintro r w7 ⟨rfl, hd7, hb7⟩
    have e7 : (([] ++ [.int .u8 45]) : List Value) ++ Lib.strCells ⟨H.toArray⟩ ++ [.int .u8 112] ++ Lib.strCells ⟨T.toArray⟩ = Lib.byteCells ([45] ++ H ++ [112] ++ T) := by simp [Lib.byteCells, Lib.strCells]
    rw [e7] at hd7
    have HB7 : Hid (Below w1.heap.size w1 w7) := HD6.out.2.trans hb7
    have k8 := Tryz.Builder_String _ _ _ _ hd7 (by simp)
    clear k7 hd7 hb7
    go_wp2_with fail
    refine k8.mono ?_
    rintro r w8 ⟨rfl, hb8⟩
    have HB8 : Hid (Below w.heap.size w w8) := (HCL.out w8 (HB1.out.trans ((HB7.out.trans hb8).mono HB1.out.size))).2.2
    clear k8 hb8
    go_wp2_with fail
    go_ret
    exact ⟨rfl, HB8.out⟩
end Go.Proofs.YtkmiohkpfdamoaaGreatDoor
namespace Go.Proofs.YtkmiohkpfdamoaaGreatDoor
set_option linter.unusedVariables false
set_option linter.unusedSimpArgs false
open Go.RowKit Go.Fl64
theorem dlen_1 {x : Nat} (h0 : x ≠ 0) (h : x < 4294967296) : dlen x = 1 := by
  rw [dlen_pos h0, Nat.div_eq_of_lt (by unfold B; omega), dlen_zero]
theorem Nrm.kn {w : World} {base : Nat} {a : Value} {s : Bool} {z x t : Nat} {e e' : Int} (h : Nrm w base a s z e) (h0 : z ≠ 0) (ht : tz z = t) (hx : z / 2 ^ t = x) (he : e + (t : Int) = e') :
    ∃ ao cap, a = .agg #[.bool s, .slice ao (dlen x) cap, .int .i64 e'] ∧ Is w (.slice ao (dlen x) cap) x := by
  subst ht hx he
  rcases h with ⟨h1, -⟩ | ⟨-, v, rfl, ho⟩
  · exact absurd h1 h0
  · obtain ⟨ao, cap, rfl, h1, h2, h3⟩ := ho.is
    exact ⟨ao, cap, rfl, ao, cap, rfl, h1, h2, h3⟩
theorem Nrm.odd {w : World} {base : Nat} {a : Value} {s : Bool} {z : Nat} {e : Int} (h : Nrm w base a s z e) (ho : z % 2 = 1) :
    ∃ ao cap, a = .agg #[.bool s, .slice ao (dlen z) cap, .int .i64 e] ∧ Is w (.slice ao (dlen z) cap) z :=
  h.kn (t := 0) (by intro e; subst e; simp at ho) (tz_odd ho) (by simp) (by simp)
theorem Nrm.nil {w : World} {base : Nat} {a : Value} {s : Bool} {e : Int} (h : Nrm w base a s 0 e) : a = .agg #[.bool false, .slice none 0 0, .int .i64 0] := by
  rcases h with ⟨-, h⟩ | ⟨h, -⟩
  · exact h
  · exact absurd rfl h
theorem is_nil (w : World) : Is w (.slice none 0 0) 0 := ⟨none, 0, by rw [dlen_zero], by rw [dlen_zero]; omega, by omega, 0, 0, fun h => by rw [dlen_zero] at h; omega, fun i hi => by rw [dlen_zero] at hi; omega⟩
theorem tz12 : tz 12 = 2 := tz_pow 2 3 rfl
theorem tz2 : tz 2 = 1 := tz_pow 1 1 rfl
theorem t_of {w : World} (hT : Tab32 w) (hI : Ie.Tab w) :
    Calls Tryz.prog 26 #[.float .f64 4604930618986332160] w fun r w' => ∃ A, r = .returned (.tuple #[A, .int .i64 0]) ∧ Nrm w' w.heap.size A false 3 (-2) ∧ Below w.heap.size w w' := by
  have h := of_fin 4604930618986332160 3 (by omega) w hT hI (by decide) (by decide +kernel)
  rw [show Ie.sE 4604930618986332160 = -2 by decide +kernel, show neg 4604930618986332160 = false by decide] at h
  exact h
theorem t_inf {w : World} (hI : Ie.Tab w) :
    Calls Tryz.prog 26 #[.float .f64 9218868437227405312] w fun r w' => r = .returned (.tuple #[.agg #[.bool false, .slice none 0 0, .int .i64 0], .int .i64 5]) ∧ Below w.heap.size w w' :=
  of_inf 9218868437227405312 (by omega) w hI (by decide)
theorem ok3 : okN false 1 3 (-2) = true := by decide
theorem ok12 : okN true 1 3 2 = true := by decide
theorem okR_odd {s : Bool} {z : Nat} {e : Int} (ho : z % 2 = 1) (h : okN s (dlen z) z e = true) : okR s z e = true := by
  have h0 : z ≠ 0 := by intro e; subst e; simp at ho
  unfold okR
  rw [if_neg h0, tz_odd ho]
  simpa using h
theorem t_add {w : World} {A C : Value} {b c : Nat} (hA : Nrm w b A false 3 (-2)) (hC : Nrm w c C true 12 0) (hT : Tab32 w) :
    Calls Tryz.prog 27 #[A, C] w fun r w' => ∃ D, r = .returned (.tuple #[D, .int .i64 0]) ∧ Nrm w' w.heap.size D true 45 (-2) ∧ Below w.heap.size w w' := by
  obtain ⟨ua, uc, rfl, i1⟩ := hA.odd rfl
  obtain ⟨va, vc, rfl, i2⟩ := hC.kn (x := 3) (e' := 2) (by omega) tz12 (by decide) (by decide)
  have d3 : dlen 3 = 1 := dlen_1 (by omega) (by omega)
  refine (c34_1 false true ua va _ uc _ vc 3 3 45 (-2) 2 (-2) true w (by rw [dlen_1 (by omega) (by omega)]; omega) (fun W g hW hg => ?_) (fun W hW => ?_)).mono ?_
  · have := maybe2 hg (i1.later hW) (i2.later hW) (by omega) (by omega)
    rw [d3, ok3, ok12] at this
    exact this
  · have := c87 (na := false) (nb := true) (ea := -2) (eb := 2) (i1.later hW) (i2.later hW) (by omega) (by omega) (by omega) (by omega) (hT.later hW)
    rw [show sumN false 3 (-2) true 3 2 = (true, 45, -2) by decide] at this
    exact this
  · rintro r w' ⟨D, rfl, hN, hb⟩
    rw [okR_odd (by rfl) (by rw [dlen_1 (by omega) (by omega)]; decide)]
    exact ⟨D, rfl, hN, hb⟩
theorem t_quo {w : World} {A C : Value} {b c : Nat} (hA : Nrm w b A false 1 0) (hC : Nrm w c C false 3 0) (hT : Tab32 w) :
    Calls Tryz.prog 29 #[A, C, .int .i64 4] w fun r w' => ∃ D, r = .returned (.tuple #[D, .bool false, .int .i64 0]) ∧ Nrm w' w.heap.size D false 5 (-4) ∧ Below w.heap.size w w' := by
  obtain ⟨ua, uc, rfl, i1⟩ := hA.odd rfl
  obtain ⟨va, vc, rfl, i2⟩ := hC.odd rfl
  have d3 : dlen 3 = 1 := dlen_1 (by omega) (by omega)
  have d1 : dlen 1 = 1 := dlen_1 (by omega) (by omega)
  have k := c44 (na := false) (nb := false) (ea := 0) (eb := 0) (place := 4) i1 i2 hT (by omega) (by omega) (by omega) (by rw [d1]; decide) (by rw [d3]; decide) (by omega) (by omega) (by omega) 16 3 (by decide) (by decide)
  refine Calls.mono k ?_
  rintro r w' ⟨D, rfl, hN, hb⟩
  rw [show (if (false != false) && !(decide (16 % 3 = 0)) then 16 / 3 + 1 else 16 / 3) = 5 by decide, show (decide (16 % 3 = 0)) = false by decide] at *
  rw [okR_odd (by rfl) (by rw [dlen_1 (by omega) (by omega)]; decide)]
  exact ⟨D, rfl, hN, hb⟩
end Go.Proofs.YtkmiohkpfdamoaaGreatDoor
