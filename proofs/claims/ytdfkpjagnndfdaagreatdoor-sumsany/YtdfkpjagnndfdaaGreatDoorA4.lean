/- Own work: contracts of the program's functions, part 4: W38 W39 W40 W34 W28 W29 W35 W41 Shelf S1 S2 T1 T2 T3 T4 R4 R5 E1 Tab F3 F4 G1 G2 Q1 Q2 R6 Q3 ON. -/
import Derived.Test.YtdfkpjagnndfdaaGreatDoorA3
import Derived.Deep.RegionHeld3
import Derived.Laws.AppendOwnNone
import Derived.Lib.SliceRun
import Derived.Laws.IdiomStrings
import Derived.Deep.CutRange
import Derived.Shelf.Strings.Builder1
import Derived.Shelf.LaysM
import Derived.Shelf.Strconv.Itoa3
import Derived.Test.YtdfkpjagnndfdaaGreatDoorProg
import Derived.Test.YtdfkpjagnndfdaaGreatDoorA2
import Derived.Lib.LaidTab
import Derived.Deep.RegionLawGrows
import Derived.Test.YtdfkpjagnndfdaaGreatDoorRows
import Derived.Carry
import Derived.ChangeSlices
import Derived.WalkKit
import Derived.ProofKit
import Derived.OpenShut
import Derived.WalkLawsBesides
import Derived.ChangeAlike
import Derived.Lib.SmallJoins
import Derived.SizedLaws

/- slices.Clone, negated. -/
namespace Go.Proofs.YtdfkpjagnndfdaaGreatDoor
set_option linter.unusedVariables false
set_option linter.unusedSimpArgs false
open Go.RowKit

theorem own_of_row {w : World} {base n x : Nat} {v : Value} (h : w.ownsRow base 63 1 v n (cells x n)) (hn : dlen x = n) : Own w base v x := by
  rcases h.2 with ⟨rfl, h0⟩ | ⟨g, cap, c, rfl, hb, hc, h1, h2, h3, h4⟩
  · exact .inl ⟨rfl, dlen_eq_zero.1 (by omega)⟩
  · refine .inr ⟨g, cap, fun i => c.getD i undef, by rw [hn], hb, by omega, by unfold maxLen at h2; omega, ⟨c, hc, by omega, fun i hi => ?_⟩, fun i hi => ?_⟩
    · have : i < c.size := by omega
      simp [Array.getD_eq_getD_getElem?, Array.getElem?_eq_getElem this]
    · have h5 : (cells x n)[i]? = c[i]? := by
        rw [← h4, Nat.mul_one, List.getElem?_take, if_pos (by omega), Array.getElem?_toList]
      rw [cells_get (by omega)] at h5
      simp [Array.getD_eq_getD_getElem?, ← h5]

theorem own_row {w : World} {base g x : Nat} {v : Value} (h : Own w base v x) (hg : g < base) (cs : Array Value) : Own (w.setRow g cs) base v x := by
  rcases h with h | ⟨g', cap, f, h0, h1, h2, h3, h4, h5⟩
  · exact .inl h
  · exact .inr ⟨g', cap, f, h0, h1, h2, h3, h4.of_block (setRow_other w g g' cs (by omega)), h5⟩
set_option maxHeartbeats 4000000 in
set_option maxRecDepth 200000 in
theorem clone_1 (b o n cap x : Nat) (w : World) (hn0 : 0 < n) (hn : n ≤ 1000000000) (hx : dlen x = n) (hcell : ∀ i, i < n → w.cell? ⟨b, o + i, none⟩ = some (.int .u32 (dg x i : Nat))) :
    Calls Tryz.prog 100 #[.slice (some ⟨b, o, none⟩) n cap] w fun r w' => ∃ v, r = .returned v ∧ Own w' w.heap.size v x ∧ Below w.heap.size w w' := by
  have HX : Hid (dlen x = n) := hx
  have hnil := Lib.run_eql_slice_nil (P := Tryz.prog) w 31 63 (some ⟨b, o, none⟩) n cap 0 0 Tryz.underlying31
  have HN : Hid (∀ j u, (cells x n)[j]? = some u → (w.alloc (Obj.cells #[] 63)).cell? ((⟨b, o, none⟩ : Addr).add j) = some u) := fun j u hj => by
    have hjl : j < n := by
      have := (List.getElem?_eq_some_iff.1 hj).1
      rwa [cells_length] at this
    rw [cells_get hjl] at hj
    have hcl := hcell j hjl
    rw [show (⟨b, o, none⟩ : Addr).add j = ⟨b, o + j, none⟩ by simp [Addr.add]]
    rw [World.cell?_alloc_old _ _ _ (by have := World.block_lt_of_cell? _ _ hcl; show b ≠ w.heap.size; simp at this; omega)]
    rw [← hj]; exact hcl
  have hOM : (w.alloc (Obj.cells #[] 63)).ownsRow w.heap.size 63 1 (.slice (some ⟨w.heap.size, 0, none⟩) 0 0) 0 [] := ⟨rfl, .inr ⟨w.heap.size, 0, #[], rfl, Nat.le_refl _, heap_alloc_new _ _, Nat.le_refl _, by unfold maxLen; omega, rfl, rfl⟩⟩
  obtain ⟨i0, hi0, hz0, hz1, hz2⟩ := info_parts Tryz.info63
  clear hx hcell
  go_enter Tryz.func100, Tryz.ntmps100
  go_wp2_with (at_builtin; refine wpList_append_own _ rfl _ _ 31 rfl w.heap.size 63 i0 (.int .u32 0) 1 4 Tryz.underlying31 hi0 hz0 hz1 hz2 rfl (by decide) _ 0 [] rfl hOM ⟨b, o, none⟩ n cap (cells x n) rfl (by rw [cells_length, Nat.mul_one]) HN.out (by intro u hu; simp [cells] at hu; obtain ⟨j, -, rfl⟩ := hu; rfl) (by unfold maxLen; omega) (by omega) (by simp) ?_)
  intro v' w2 hown hgrow _
  have HG : Hid (Below w.heap.size w w2 ∧ w2.ownsRow w.heap.size 63 1 v' n (cells x n)) := ⟨Below.grown ((Below.refl w.heap.size w).alloc (Nat.le_refl _) _) hgrow (by simp) (fun k hk => by simp [Value.ownBlock] at hk; omega), hown⟩
  clear hown hgrow hnil HN hOM hi0 hz0 hz1 hz2
  go_wp2
  go_ret
  exact ⟨v', rfl, own_of_row HG.out.2 HX.out, HG.out.1⟩

set_option maxHeartbeats 4000000 in
set_option maxRecDepth 200000 in
theorem clone_nil (cap : Nat) (w : World) :
    Calls Tryz.prog 100 #[.slice none 0 cap] w fun r w' => r = .returned (.slice none 0 0) ∧ w' = w := by
  have hnil := Lib.run_eql_slice_nil (P := Tryz.prog) w 31 63 none 0 cap 0 0 Tryz.underlying31
  go_enter Tryz.func100, Tryz.ntmps100
  go_wp2
  go_ret
  exact ⟨rfl, rfl⟩

set_option maxHeartbeats 4000000 in
set_option maxRecDepth 200000 in
theorem clone_0 (ad : Addr) (cap : Nat) (w : World) :
    Calls Tryz.prog 100 #[.slice (some ad) 0 cap] w fun r w' => ∃ v, r = .returned v ∧ Own w' w.heap.size v 0 ∧ Below w.heap.size w w' := by
  have hnil := Lib.run_eql_slice_nil (P := Tryz.prog) w 31 63 (some ad) 0 cap 0 0 Tryz.underlying31
  have HG : Hid (Below w.heap.size w (w.alloc (Obj.cells #[] 63)) ∧ (w.alloc (Obj.cells #[] 63)).heap[w.heap.size]? = some (.cells #[] 63 (0, 0))) := ⟨(Below.refl _ _).alloc (Nat.le_refl _) _, heap_alloc_new _ _⟩
  go_enter Tryz.func100, Tryz.ntmps100
  go_wp2
  go_ret
  refine ⟨.slice (some ⟨w.heap.size, 0, none⟩) 0 0, rfl, .inr ⟨w.heap.size, 0, fun _ => undef, by rw [dlen_zero], Nat.le_refl _, by rw [dlen_zero]; omega, by omega, ⟨#[], HG.out.2, rfl, fun i hi => by omega⟩, fun i hi => by rw [dlen_zero] at hi; omega⟩, HG.out.1⟩

theorem clone_ok {v : Value} {x : Nat} {w : World} (h : Is w v x) (hx : dlen x ≤ 1000000000) :
    Calls Tryz.prog 100 #[v] w fun r w' => ∃ v, r = .returned v ∧ Own w' w.heap.size v x ∧ Below w.heap.size w w' := by
  obtain ⟨ao, cap, rfl, h1, h2, h3⟩ := h
  by_cases h0 : x = 0
  · subst h0
    rw [dlen_zero]
    cases ao with
    | none =>
      refine (clone_nil cap w).mono ?_
      rintro r w' ⟨rfl, rfl⟩
      exact ⟨_, rfl, .inl ⟨rfl, rfl⟩, Below.refl _ _⟩
    | some ad => exact clone_0 ad cap w
  · have hl : 0 < dlen x := Nat.pos_of_ne_zero fun e => h0 (dlen_eq_zero.1 e)
    obtain ⟨b, o, g1, g2⟩ := h3
    obtain rfl := g1 hl
    exact clone_1 b o _ cap x w hl hx rfl g2
end Go.Proofs.YtdfkpjagnndfdaaGreatDoor
/- negated, of a number below nought. -/
namespace Go.Proofs.YtdfkpjagnndfdaaGreatDoor
set_option linter.unusedVariables false
set_option linter.unusedSimpArgs false
open Go.RowKit

set_option maxHeartbeats 4000000 in
set_option maxRecDepth 200000 in
theorem neg_t (ua : Option Addr) (un uc x : Nat) (ea : Int) (w : World) (h1 : Is w (.slice ua un uc) x) (hx : dlen x ≤ 1000000) :
    Calls Tryz.prog 82 #[.agg #[.bool true, .slice ua un uc, .int .i64 ea]] w fun r w' => ∃ v, r = .returned (.agg #[.bool false, v, .int .i64 ea]) ∧ Own w' w.heap.size v x ∧ Below w.heap.size w w' := by
  obtain ⟨W, hW⟩ : ∃ W, W = (w.alloc (.cells #[.bool true, .slice ua un uc, .int .i64 ea] 43)).alloc (.cells #[.bool false, .slice none 0 0, .int .i64 0] 43) := ⟨_, rfl⟩
  have hBW : Below w.heap.size w W := by rw [hW]; exact ((Below.refl _ _).alloc (Nat.le_refl _) _).alloc (by simp) _
  have hbA : W.heap[w.heap.size]? = some (.cells #[.bool true, .slice ua un uc, .int .i64 ea] 43 (0, 0)) := by
    rw [hW, Below.heap_alloc _ _ _ (by simp)]; exact heap_alloc_new _ _
  have hbB : W.heap[w.heap.size + 1]? = some (.cells #[.bool false, .slice none 0 0, .int .i64 0] 43 (0, 0)) := by
    have := heap_alloc_new (w.alloc (.cells #[.bool true, .slice ua un uc, .int .i64 ea] 43)) (.cells #[.bool false, .slice none 0 0, .int .i64 0] 43)
    rw [hW]; simpa using this
  have hsz : W.heap.size = w.heap.size + 1 + 1 := by rw [hW]; simp
  have HX : Hid (Below w.heap.size w W ∧ W.heap.size = w.heap.size + 1 + 1 ∧ W.heap[w.heap.size + 1]? = some (.cells #[.bool false, .slice none 0 0, .int .i64 0] 43 (0, 0))) := ⟨hBW, hsz, hbB⟩
  have HK : Hid (∀ w', Below (w.heap.size + 1) W w' → (w'.cell? ⟨w.heap.size, 0, none⟩ = some (.bool true) ∧ w'.cell? ⟨w.heap.size, 1, none⟩ = some (.slice ua un uc) ∧ w'.cell? ⟨w.heap.size, 2, none⟩ = some (.int .i64 ea))) := fun w' hb => (box_cells (box_later hbA hb (by omega))).1
  have kC : ∀ w4, Below W.heap.size W w4 → Calls Tryz.prog 100 #[.slice ua un uc] w4 fun r w' => ∃ ao n cap, r = .returned (.slice ao n cap) ∧ Own w' W.heap.size (.slice ao n cap) x ∧ Below W.heap.size W w' := fun w4 hb =>
    (clone_ok ((h1.later hBW).later hb) (by omega)).mono fun r w' ⟨v, e1, o1, o2⟩ => by
      obtain ⟨ao, cap, rfl, -, -, -⟩ := o1.is
      exact ⟨_, _, _, e1, o1.mono hb.size, hb.trans (o2.mono hb.size)⟩
  have hBR : Below W.heap.size W W.drew := (Below.refl _ _).drew
  have hBR1 : Below (w.heap.size + 1) W W.drew := (Below.refl _ _).drew
  have hun : un = dlen x := by obtain ⟨_, _, e, -⟩ := h1; simp only [Value.slice.injEq] at e; exact e.2.1
  have hunb : un ≤ 1000000 := by omega
  have H1 : Hid (w.heap.size + 1 ≤ W.heap.size) := (by omega : w.heap.size + 1 ≤ W.heap.size)
  clear hbA hbB hsz hBW h1 hx hun
  go_enter Tryz.func82, Tryz.ntmps82
  go_upto_region 1 with fail
  rw [← hW]
  clear hW
  have hS0 := HK.out W.drew hBR1
  refine wp_region_held (S := fun w' => w'.cell? ⟨w.heap.size, 0, none⟩ = some (.bool true) ∧ w'.cell? ⟨w.heap.size, 1, none⟩ = some (.slice ua un uc) ∧ w'.cell? ⟨w.heap.size, 2, none⟩ = some (.int .i64 ea)) (by kernel_rfl) ?_
  change wpAnyH _ _ _ _ _ _ _ _ W.drew
  refine wpAnyH_take (i := 0) (oi := { dst := some 3, op := Op.fieldAddr 43 (Operand.tmp 1) 0, type := 0, pos := "number.go:41", after := #[], guard := none }) (v := .pointer (some ⟨w.heap.size, 0, none⟩)) rfl (by kernel_rfl) (by kernel_rfl) (by kernel_rfl) (fun _ _ _ h => h) (.inl ⟨by rfl, (by intro w1 hSw; obtain ⟨s0, s1, s2⟩ := hSw; go_simp)⟩) (by assumption) ?_
  try simp only [Act.put, List.setIfInBounds_toArray, List.set_cons_zero, List.set_cons_succ]
  refine wpAnyH_take (i := 1) (oi := { dst := some 4, op := Op.load 4 (Operand.tmp 3), type := 4, pos := "number.go:41", after := #[{ on := 0, ground := Ground.data }], guard := none }) (v := .bool true) rfl (by kernel_rfl) (by kernel_rfl) (by kernel_rfl) (fun _ _ _ h => h) (.inl ⟨by rfl, (by intro w1 hSw; obtain ⟨s0, s1, s2⟩ := hSw; go_simp)⟩) (by assumption) ?_
  try simp only [Act.put, List.setIfInBounds_toArray, List.set_cons_zero, List.set_cons_succ]
  refine wpAnyH_take (i := 2) (oi := { dst := some 5, op := Op.unOp UnOp.not 4 (Operand.tmp 4), type := 4, pos := "number.go:41", after := #[{ on := 1, ground := Ground.data }], guard := none }) (v := .bool false) rfl (by kernel_rfl) (by kernel_rfl) (by kernel_rfl) (fun _ _ _ h => h) (.inl ⟨by rfl, (by intro w1 hSw; obtain ⟨s0, s1, s2⟩ := hSw; go_simp)⟩) (by assumption) ?_
  try simp only [Act.put, List.setIfInBounds_toArray, List.set_cons_zero, List.set_cons_succ]
  refine wpAnyH_take (i := 3) (oi := { dst := some 6, op := Op.move (Operand.tmp 5), type := 4, pos := "number.go:41", after := #[{ on := 2, ground := Ground.data }], guard := none }) (v := .bool false) rfl (by kernel_rfl) (by kernel_rfl) (by kernel_rfl) (fun _ _ _ h => h) (.inl ⟨by rfl, (by intro w1 hSw; obtain ⟨s0, s1, s2⟩ := hSw; go_simp)⟩) (by assumption) ?_
  try simp only [Act.put, List.setIfInBounds_toArray, List.set_cons_zero, List.set_cons_succ]
  refine wpAnyH_take (i := 4) (oi := { dst := some 7, op := Op.fieldAddr 43 (Operand.tmp 1) 1, type := 0, pos := "number.go:41", after := #[{ on := 3, ground := Ground.guard }], guard := some (3, true) }) (v := undef) rfl (by kernel_rfl) (by kernel_rfl) (by kernel_rfl) (fun _ _ _ h => h) (.inr ⟨by rfl, rfl⟩) (by assumption) ?_
  try simp only [Act.put, List.setIfInBounds_toArray, List.set_cons_zero, List.set_cons_succ]
  refine wpAnyH_take (i := 5) (oi := { dst := some 8, op := Op.load 31 (Operand.tmp 7), type := 31, pos := "number.go:41", after := #[{ on := 4, ground := Ground.data }, { on := 3, ground := Ground.guard }], guard := some (3, true) }) (v := undef) rfl (by kernel_rfl) (by kernel_rfl) (by kernel_rfl) (fun _ _ _ h => h) (.inr ⟨by rfl, rfl⟩) (by assumption) ?_
  try simp only [Act.put, List.setIfInBounds_toArray, List.set_cons_zero, List.set_cons_succ]
  refine wpAnyH_take (i := 6) (oi := { dst := some 9, op := Op.call { callee := Callee.builtin Builtin.len, args := #[Operand.tmp 8], argTypes := #[31] }, type := 3, pos := "number.go:41", after := #[{ on := 5, ground := Ground.data }, { on := 3, ground := Ground.guard }], guard := some (3, true) }) (v := undef) rfl (by kernel_rfl) (by kernel_rfl) (by kernel_rfl) (fun _ _ _ h => h) (.inr ⟨by rfl, rfl⟩) (by assumption) ?_
  try simp only [Act.put, List.setIfInBounds_toArray, List.set_cons_zero, List.set_cons_succ]
  refine wpAnyH_take (i := 7) (oi := { dst := some 10, op := Op.binOp BinOp.gtr 3 (Operand.tmp 9) (Operand.const (Value.int IntKind.i64 0)) 3, type := 4, pos := "number.go:41", after := #[{ on := 6, ground := Ground.data }, { on := 3, ground := Ground.guard }], guard := some (3, true) }) (v := undef) rfl (by kernel_rfl) (by kernel_rfl) (by kernel_rfl) (fun _ _ _ h => h) (.inr ⟨by rfl, rfl⟩) (by assumption) ?_
  try simp only [Act.put, List.setIfInBounds_toArray, List.set_cons_zero, List.set_cons_succ]
  refine wpAnyH_take (i := 8) (oi := { dst := some 11, op := Op.pick (Operand.tmp 6) (Operand.tmp 10) (Operand.const (Value.bool false)), type := 4, pos := "number.go:41", after := #[{ on := 3, ground := Ground.data }, { on := 7, ground := Ground.data }], guard := none }) (v := .bool false) rfl (by kernel_rfl) (by kernel_rfl) (by kernel_rfl) (fun _ _ _ h => h) (.inl ⟨by rfl, (by intro w1 hSw; obtain ⟨s0, s1, s2⟩ := hSw; go_simp)⟩) (by assumption) ?_
  try simp only [Act.put, List.setIfInBounds_toArray, List.set_cons_zero, List.set_cons_succ]
  refine wpAnyH_take (i := 9) (oi := { dst := some 12, op := Op.fieldAddr 43 (Operand.tmp 1) 1, type := 0, pos := "number.go:41", after := #[], guard := none }) (v := .pointer (some ⟨w.heap.size, 1, none⟩)) rfl (by kernel_rfl) (by kernel_rfl) (by kernel_rfl) (fun _ _ _ h => h) (.inl ⟨by rfl, (by intro w1 hSw; obtain ⟨s0, s1, s2⟩ := hSw; go_simp)⟩) (by assumption) ?_
  try simp only [Act.put, List.setIfInBounds_toArray, List.set_cons_zero, List.set_cons_succ]
  refine wpAnyH_take (i := 10) (oi := { dst := some 13, op := Op.load 31 (Operand.tmp 12), type := 31, pos := "number.go:41", after := #[{ on := 9, ground := Ground.data }], guard := none }) (v := .slice ua un uc) rfl (by kernel_rfl) (by kernel_rfl) (by kernel_rfl) (fun _ _ _ h => h) (.inl ⟨by rfl, (by intro w1 hSw; obtain ⟨s0, s1, s2⟩ := hSw; go_simp)⟩) (by assumption) ?_
  try simp only [Act.put, List.setIfInBounds_toArray, List.set_cons_zero, List.set_cons_succ]
  refine wpAnyH_take (i := 12) (oi := { dst := some 15, op := Op.fieldAddr 43 (Operand.tmp 1) 2, type := 0, pos := "number.go:41", after := #[], guard := none }) (v := .pointer (some ⟨w.heap.size, 2, none⟩)) rfl (by kernel_rfl) (by kernel_rfl) (by kernel_rfl) (fun _ _ _ h => h) (.inl ⟨by rfl, (by intro w1 hSw; obtain ⟨s0, s1, s2⟩ := hSw; go_simp)⟩) (by assumption) ?_
  try simp only [Act.put, List.setIfInBounds_toArray, List.set_cons_zero, List.set_cons_succ]
  refine wpAnyH_take (i := 13) (oi := { dst := some 16, op := Op.load 3 (Operand.tmp 15), type := 3, pos := "number.go:41", after := #[{ on := 12, ground := Ground.data }], guard := none }) (v := .int .i64 ea) rfl (by kernel_rfl) (by kernel_rfl) (by kernel_rfl) (fun _ _ _ h => h) (.inl ⟨by rfl, (by intro w1 hSw; obtain ⟨s0, s1, s2⟩ := hSw; go_simp)⟩) (by assumption) ?_
  try simp only [Act.put, List.setIfInBounds_toArray, List.set_cons_zero, List.set_cons_succ]
  refine wpAnyH_ready (rs := [11]) (by kernel_rfl) (by simp) ?_
  intro i hi
  obtain rfl : i = 11 := by simpa using hi
  refine step_call (o := { dst := some 14, op := Op.call { callee := Callee.value (Operand.func 100), args := #[Operand.tmp 13], argTypes := #[31] }, type := 31, pos := "number.go:41", after := #[{ on := 10, ground := Ground.data }, { on := 3, ground := Ground.chain }], guard := none }) rfl rfl rfl (enters Tryz.func100 (by kernel_rfl) (by kernel_rfl)) (vs := #[.slice ua un uc]) (by simp [Act.eval]) ?_
  refine (kC _ hBR).mono ?_
  rintro r w5 ⟨ao5, n5, cap5, rfl, ho5, hb5⟩
  have hblk5 := box_later HX.out.2.2 hb5 (by have := HX.out.2.1; omega)
  have hS5 := HK.out _ (Below.mono hb5 H1.out)
  refine ⟨_, rfl, hS5, ?_⟩
  try simp only [Act.put, List.setIfInBounds_toArray, List.set_cons_zero, List.set_cons_succ]
  refine wpAnyH_take (i := 14) (oi := { dst := some 17, op := Op.build 43 #[(0, Operand.tmp 11), (1, Operand.tmp 14), (2, Operand.tmp 16)], type := 43, pos := "number.go:41", after := #[{ on := 8, ground := Ground.data }, { on := 11, ground := Ground.data }, { on := 13, ground := Ground.data }], guard := none }) (v := .agg #[.bool false, .slice ao5 n5 cap5, .int .i64 ea]) rfl (by kernel_rfl) (by kernel_rfl) (by kernel_rfl) (fun _ _ _ h => h) (.inl ⟨by rfl, (by intro w1 hSw; go_simp)⟩) (by assumption) ?_
  try simp only [Act.put, List.setIfInBounds_toArray, List.set_cons_zero, List.set_cons_succ]
  refine wpAnyH_ready (rs := [15]) (by kernel_rfl) (by simp) ?_
  intro i hi
  obtain rfl : i = 15 := by simpa using hi
  refine step_store (o := { dst := none, op := Op.store 43 (Operand.tmp 2) (Operand.tmp 17), type := 0, pos := "number.go:41", after := #[{ on := 14, ground := Ground.data }, { on := 11, ground := Ground.chain }, { on := 0, ground := Ground.phase }, { on := 1, ground := Ground.phase }, { on := 2, ground := Ground.phase }, { on := 3, ground := Ground.phase }, { on := 4, ground := Ground.phase }, { on := 5, ground := Ground.phase }, { on := 6, ground := Ground.phase }, { on := 7, ground := Ground.phase }, { on := 8, ground := Ground.phase }, { on := 9, ground := Ground.phase }, { on := 10, ground := Ground.phase }, { on := 11, ground := Ground.phase }, { on := 12, ground := Ground.phase }, { on := 13, ground := Ground.phase }, { on := 14, ground := Ground.phase }], guard := none }) rfl rfl rfl rfl rfl hblk5 Tryz.info43 rfl (one3 rfl rfl) ?_
  refine ⟨HK.out _ (below_row (Below.mono hb5 H1.out) (Nat.le_refl _) _), ?_⟩
  refine wpAnyH_done (by kernel_rfl) ?_ _
  have HF : Hid (Below W.heap.size W w5 ∧ Own w5 W.heap.size (.slice ao5 n5 cap5) x ∧ w5.heap[w.heap.size + 1]? = some (.cells #[.bool false, .slice none 0 0, .int .i64 0] 43 (0, 0))) := ⟨hb5, ho5, hblk5⟩
  clear ho5 hb5 hblk5 kC HK hBR hBR1 hS0 hS5
  go_wp2
  refine bodyPost_ret (results_cell_row rfl _ _ (w.heap.size + 1) 43 #[.bool false, .slice ao5 n5 cap5, .int .i64 ea] (0, 0) _ rfl (setRow_heap _ _ _ _ _ _ HF.out.2.2) Tryz.underlying43 rfl Tryz.info43) rfl ?_
  obtain ⟨q1, q2, -⟩ := HX.out
  exact ⟨_, rfl, (own_row HF.out.2.1 (by omega) _).mono (by omega), below_row (q1.trans (HF.out.1.mono q1.size)) (by omega) _⟩
end Go.Proofs.YtdfkpjagnndfdaaGreatDoor
/- negated. -/
namespace Go.Proofs.YtdfkpjagnndfdaaGreatDoor
set_option linter.unusedVariables false
set_option linter.unusedSimpArgs false
open Go.RowKit

set_option maxHeartbeats 4000000 in
set_option maxRecDepth 200000 in
theorem neg_f (ua : Option Addr) (un uc x : Nat) (ea : Int) (w : World) (h1 : Is w (.slice ua un uc) x) (hx : dlen x ≤ 1000000) :
    Calls Tryz.prog 82 #[.agg #[.bool false, .slice ua un uc, .int .i64 ea]] w fun r w' => ∃ v, r = .returned (.agg #[.bool (decide (0 < un)), v, .int .i64 ea]) ∧ Own w' w.heap.size v x ∧ Below w.heap.size w w' := by
  obtain ⟨W, hW⟩ : ∃ W, W = (w.alloc (.cells #[.bool false, .slice ua un uc, .int .i64 ea] 43)).alloc (.cells #[.bool false, .slice none 0 0, .int .i64 0] 43) := ⟨_, rfl⟩
  have hBW : Below w.heap.size w W := by rw [hW]; exact ((Below.refl _ _).alloc (Nat.le_refl _) _).alloc (by simp) _
  have hbA : W.heap[w.heap.size]? = some (.cells #[.bool false, .slice ua un uc, .int .i64 ea] 43 (0, 0)) := by
    rw [hW, Below.heap_alloc _ _ _ (by simp)]; exact heap_alloc_new _ _
  have hbB : W.heap[w.heap.size + 1]? = some (.cells #[.bool false, .slice none 0 0, .int .i64 0] 43 (0, 0)) := by
    have := heap_alloc_new (w.alloc (.cells #[.bool false, .slice ua un uc, .int .i64 ea] 43)) (.cells #[.bool false, .slice none 0 0, .int .i64 0] 43)
    rw [hW]; simpa using this
  have hsz : W.heap.size = w.heap.size + 1 + 1 := by rw [hW]; simp
  have HX : Hid (Below w.heap.size w W ∧ W.heap.size = w.heap.size + 1 + 1 ∧ W.heap[w.heap.size + 1]? = some (.cells #[.bool false, .slice none 0 0, .int .i64 0] 43 (0, 0))) := ⟨hBW, hsz, hbB⟩
  have HK : Hid (∀ w', Below (w.heap.size + 1) W w' → (w'.cell? ⟨w.heap.size, 0, none⟩ = some (.bool false) ∧ w'.cell? ⟨w.heap.size, 1, none⟩ = some (.slice ua un uc) ∧ w'.cell? ⟨w.heap.size, 2, none⟩ = some (.int .i64 ea))) := fun w' hb => (box_cells (box_later hbA hb (by omega))).1
  have kC : ∀ w4, Below W.heap.size W w4 → Calls Tryz.prog 100 #[.slice ua un uc] w4 fun r w' => ∃ ao n cap, r = .returned (.slice ao n cap) ∧ Own w' W.heap.size (.slice ao n cap) x ∧ Below W.heap.size W w' := fun w4 hb =>
    (clone_ok ((h1.later hBW).later hb) (by omega)).mono fun r w' ⟨v, e1, o1, o2⟩ => by
      obtain ⟨ao, cap, rfl, -, -, -⟩ := o1.is
      exact ⟨_, _, _, e1, o1.mono hb.size, hb.trans (o2.mono hb.size)⟩
  have hBR : Below W.heap.size W W.drew := (Below.refl _ _).drew
  have hBR1 : Below (w.heap.size + 1) W W.drew := (Below.refl _ _).drew
  have hun : un = dlen x := by obtain ⟨_, _, e, -⟩ := h1; simp only [Value.slice.injEq] at e; exact e.2.1
  have hunb : un ≤ 1000000 := by omega
  have H1 : Hid (w.heap.size + 1 ≤ W.heap.size) := (by omega : w.heap.size + 1 ≤ W.heap.size)
  clear hbA hbB hsz hBW h1 hx hun
  go_enter Tryz.func82, Tryz.ntmps82
  go_upto_region 1 with fail
  rw [← hW]
  clear hW
  go_region_held3 (fun w' => w'.cell? ⟨w.heap.size, 0, none⟩ = some (.bool false) ∧ w'.cell? ⟨w.heap.size, 1, none⟩ = some (.slice ua un uc) ∧ w'.cell? ⟨w.heap.size, 2, none⟩ = some (.int .i64 ea)) (first | (with_reducible assumption) | exact HK.out _ hBR1 | (refine HK.out _ (Below.mono ?_ H1.out); with_reducible assumption) | (refine HK.out _ (below_store3 (Below.mono hb5 H1.out) (Nat.le_refl _) _ _ _)) | go_keep)
    (first | (go_at_call 100; refine (kC _ (by first | (with_reducible assumption) | exact hBR)).mono ?_; rintro r w5 ⟨ao5, n5, cap5, rfl, ho5, hb5⟩; have hblk5 := box_later HX.out.2.2 hb5 (by have := HX.out.2.1; omega); obtain ⟨⟨x1, x2, x3⟩, x4, x5, x6⟩ := box_cells hblk5))
  have HF : Hid (Below W.heap.size W w5 ∧ Own w5 W.heap.size (.slice ao5 n5 cap5) x ∧ w5.heap[w.heap.size + 1]? = some (.cells #[.bool false, .slice none 0 0, .int .i64 0] 43 (0, 0))) := ⟨hb5, ho5, hblk5⟩
  clear ho5 hb5 hblk5 x1 x2 x3 x4 x5 x6 kC HK hBR hBR1
  go_wp2
  refine bodyPost_ret (results_cell_row rfl _ _ (w.heap.size + 1) 43 #[.bool (decide (0 < un)), .slice ao5 n5 cap5, .int .i64 ea] (0, 0) _ rfl (store3 _ _ _ HF.out.2.2) Tryz.underlying43 rfl Tryz.info43) rfl ?_
  obtain ⟨q1, q2, -⟩ := HX.out
  exact ⟨_, rfl, (own_store3 HF.out.2.1 (by omega) _ _ _).mono (by omega), below_store3 (q1.trans (HF.out.1.mono q1.size)) (by omega) _ _ _⟩

theorem neg_ok {na : Bool} {ua : Option Addr} {un uc x : Nat} {ea : Int} {w : World} (h1 : Is w (.slice ua un uc) x) (hx : dlen x ≤ 1000000) :
    Calls Tryz.prog 82 #[.agg #[.bool na, .slice ua un uc, .int .i64 ea]] w fun r w' => ∃ v, r = .returned (.agg #[.bool (!na && decide (0 < un)), v, .int .i64 ea]) ∧ Own w' w.heap.size v x ∧ Below w.heap.size w w' := by
  cases na
  · exact neg_f ua un uc x ea w h1 hx
  · exact neg_t ua un uc x ea w h1 hx
end Go.Proofs.YtdfkpjagnndfdaaGreatDoor
/- Up, refused. -/
namespace Go.Proofs.YtdfkpjagnndfdaaGreatDoor
set_option linter.unusedVariables false
set_option linter.unusedSimpArgs false
open Go.RowKit

end Go.Proofs.YtdfkpjagnndfdaaGreatDoor
/- math.Abs, math.IsInf. -/
namespace Go.Proofs.YtdfkpjagnndfdaaGreatDoor
set_option linter.unusedVariables false
set_option linter.unusedSimpArgs false
open Go.RowKit Go.Fl64

theorem c159 (a : Nat) (ha : a < 18446744073709551616) (w : World) :
    Calls Tryz.prog 57 #[.float .f64 a] w fun e w' => e = .returned (.float .f64 (mag a)) ∧ w' = w := by
  have hb := Ie.run_bits
  have hf := Ie.run_frombits
  go_enter Tryz.func57, Tryz.ntmps57
  go_wp2
  go_ret
  refine ⟨?_, rfl⟩
  show Ending.returned (.float .f64 (bits .andNot .u64 a 9223372036854775808).toNat) = _
  rw [andNot_sign a ha]
  simp

/-- the digits' signs in base 16, as the library writes them -/
def hx (d : Nat) : Nat := if d < 10 then 48 + d else 87 + d

end Go.Proofs.YtdfkpjagnndfdaaGreatDoor
/- formatBits at base 16. -/
namespace Go.Proofs.YtdfkpjagnndfdaaGreatDoor
set_option linter.unusedVariables false
set_option linter.unusedSimpArgs false
open Go.RowKit Go.Fl64

end Go.Proofs.YtdfkpjagnndfdaaGreatDoor
/- Up. -/
namespace Go.Proofs.YtdfkpjagnndfdaaGreatDoor
set_option linter.unusedVariables false
set_option linter.unusedSimpArgs false
open Go.RowKit Go.Fl64

theorem hidOf {p : Prop} (h : p) : Hid p := h
theorem Nrm.later {w w' : World} {base : Nat} {a : Value} {neg : Bool} {x : Nat} {e : Int} (h : Nrm w base a neg x e) (hb : Below w.heap.size w w') : Nrm w' base a neg x e := by
  rcases h with h | ⟨h0, v, h1, ho⟩
  · exact .inl h
  · exact .inr ⟨h0, v, h1, ho.later hb⟩

/-- a number in a box of its own, made behind w3 -/
def Bx (w3 wc : World) (g : Nat) (s : Bool) (ao : Option Addr) (n cap : Nat) (ex : Int) (sL : Bool) (zL : Nat) (eL : Int) : Prop :=
  wc.heap[g]? = some (.cells #[.bool s, .slice ao n cap, .int .i64 ex] 43 (0, 0)) ∧ w3.heap.size ≤ g ∧ Below w3.heap.size w3 wc ∧ Nrm wc w3.heap.size (.agg #[.bool s, .slice ao n cap, .int .i64 ex]) sL zL eL
theorem Bx.new {w3 w7 : World} {base : Nat} {s : Bool} {ao : Option Addr} {n cap : Nat} {ex : Int} {sL : Bool} {zL : Nat} {eL : Int} (hn : Nrm w7 base (.agg #[.bool s, .slice ao n cap, .int .i64 ex]) sL zL eL) (hb : Below w3.heap.size w3 w7) (hs : w3.heap.size ≤ base) :
    Bx w3 (w7.alloc (.cells #[.bool s, .slice ao n cap, .int .i64 ex] 43)) w7.heap.size s ao n cap ex sL zL eL :=
  ⟨heap_alloc_new _ _, hb.size, hb.alloc hb.size _, (hn.later ((Below.refl _ _).alloc (Nat.le_refl _) _)).mono hs⟩
theorem lt_of_box {w : World} {g : Nat} {o : Obj} (h : w.heap[g]? = some o) : g < w.heap.size := (Array.getElem?_eq_some_iff.1 h).1
theorem Bx.put {w3 w7 : World} {base g : Nat} {s : Bool} {ao : Option Addr} {n cap : Nat} {ex : Int} {sL : Bool} {zL : Nat} {eL : Int} {p q r : Value} (hn : Nrm w7 base (.agg #[.bool s, .slice ao n cap, .int .i64 ex]) sL zL eL) (hb : Below w3.heap.size w3 w7) (hs : w3.heap.size ≤ base) (hg : w3.heap.size ≤ g) (hlt : g < base) (hbx : w7.heap[g]? = some (.cells #[p, q, r] 43 (0, 0))) :
    Bx w3 (((w7.setCell ⟨g, 0, none⟩ (.bool s)).setCell ⟨g, 1, none⟩ (.slice ao n cap)).setCell ⟨g, 2, none⟩ (.int .i64 ex)) g s ao n cap ex sL zL eL :=
  ⟨store3 _ _ _ hbx, hg, below_store3 hb hg _ _ _, (hn.store hlt _ _ _).mono hs⟩

theorem same_self (a : Nat) : same a a = true := by simp [same]
end Go.Proofs.YtdfkpjagnndfdaaGreatDoor
/- Sub. -/
namespace Go.Proofs.YtdfkpjagnndfdaaGreatDoor
set_option linter.unusedVariables false
set_option linter.unusedSimpArgs false
open Go.RowKit

set_option maxHeartbeats 4000000 in
set_option maxRecDepth 200000 in
theorem c21_t (na nb : Bool) (ua va : Option Addr) (un uc vn vc z : Nat) (ea eb e : Int) (s nn : Bool) (y : Nat) (w : World) (hz : dlen z ≤ 35184372088832) (hok : okR s z e = true)
    (k67 : ∀ W g, Below w.heap.size w W → W.heap[g]? = some (.cells #[.bool na, .slice ua un uc, .int .i64 ea, .bool nb, .slice va vn vc, .int .i64 eb] 43 (0, 0)) → Calls Tryz.prog 61 #[.slice (some ⟨g, 0, none⟩) 2 2] W fun r w' => r = .returned (.bool true) ∧ Below W.heap.size W w')
    (kN : ∀ W, Below w.heap.size w W → Calls Tryz.prog 82 #[.agg #[.bool nb, .slice va vn vc, .int .i64 eb]] W fun r w' => ∃ v, r = .returned (.agg #[.bool nn, v, .int .i64 eb]) ∧ Own w' W.heap.size v y ∧ Below W.heap.size W w')
    (kS : ∀ W v base, Below w.heap.size w W → Own W base v y → Calls Tryz.prog 67 #[.agg #[.bool na, .slice ua un uc, .int .i64 ea], .agg #[.bool nn, v, .int .i64 eb]] W fun r w' => ∃ a, r = .returned a ∧ Nrm w' W.heap.size a s z e ∧ Below W.heap.size W w') :
    Calls Tryz.prog 70 #[.agg #[.bool na, .slice ua un uc, .int .i64 ea], .agg #[.bool nb, .slice va vn vc, .int .i64 eb]] w fun r w' => Held w s z e r w' := by
  obtain ⟨W, hW⟩ : ∃ W, W = ((w.alloc (.cells #[.bool na, .slice ua un uc, .int .i64 ea] 43)).alloc (.cells #[.bool nb, .slice va vn vc, .int .i64 eb] 43)).alloc (.cells #[.bool false, .slice none 0 0, .int .i64 0] 43) := ⟨_, rfl⟩
  obtain ⟨hA, hBb, hC, hsz, hBW⟩ := boxes3 _ _ _ hW
  have hB4 : Below w.heap.size w (W.alloc (.cells #[.bool na, .slice ua un uc, .int .i64 ea, .bool nb, .slice va vn vc, .int .i64 eb] 43)) := hBW.alloc hBW.size _
  have k1 := k67 (W.alloc (.cells #[.bool na, .slice ua un uc, .int .i64 ea, .bool nb, .slice va vn vc, .int .i64 eb] 43)) (w.heap.size + 1 + 1 + 1) hB4 (by rw [← hsz]; exact heap_alloc_new _ _)
  have HH : Hid ((W.heap[w.heap.size]? = some (.cells #[.bool na, .slice ua un uc, .int .i64 ea] 43 (0, 0)) ∧ W.heap[w.heap.size + 1]? = some (.cells #[.bool nb, .slice va vn vc, .int .i64 eb] 43 (0, 0)) ∧ W.heap[w.heap.size + 1 + 1]? = some (.cells #[.bool false, .slice none 0 0, .int .i64 0] 43 (0, 0))) ∧ W.heap.size = w.heap.size + 1 + 1 + 1 ∧ Below w.heap.size w W ∧ Below W.heap.size W (W.alloc (.cells #[.bool na, .slice ua un uc, .int .i64 ea, .bool nb, .slice va vn vc, .int .i64 eb] 43))) := ⟨⟨hA, hBb, hC⟩, hsz, hBW, (Below.refl _ _).alloc (Nat.le_refl _) _⟩
  have HZ : Hid (dlen z ≤ 35184372088832 ∧ okR s z e = true) := ⟨hz, hok⟩
  have HKN : Hid (∀ W, Below w.heap.size w W → Calls Tryz.prog 82 #[.agg #[.bool nb, .slice va vn vc, .int .i64 eb]] W fun r w' => ∃ v, r = .returned (.agg #[.bool nn, v, .int .i64 eb]) ∧ Own w' W.heap.size v y ∧ Below W.heap.size W w') := kN
  have HKS : Hid (∀ W v base, Below w.heap.size w W → Own W base v y → Calls Tryz.prog 67 #[.agg #[.bool na, .slice ua un uc, .int .i64 ea], .agg #[.bool nn, v, .int .i64 eb]] W fun r w' => ∃ a, r = .returned a ∧ Nrm w' W.heap.size a s z e ∧ Below W.heap.size W w') := kS
  clear hA hBb hC hsz hBW hB4 k67 kN kS hz hok
  go_enter Tryz.func70, Tryz.ntmps70
  go_wp2_with fail
  rw [← hW]
  clear hW
  refine k1.mono ?_
  rintro r w1 ⟨rfl, hB1⟩
  clear k1
  have hBW1 : Below W.heap.size W w1 := HH.out.2.2.2.trans (hB1.mono HH.out.2.2.2.size)
  have H3 : Hid (w1.heap[w.heap.size]? = some (.cells #[.bool na, .slice ua un uc, .int .i64 ea] 43 (0, 0)) ∧ w1.heap[w.heap.size + 1]? = some (.cells #[.bool nb, .slice va vn vc, .int .i64 eb] 43 (0, 0)) ∧ w1.heap[w.heap.size + 1 + 1]? = some (.cells #[.bool false, .slice none 0 0, .int .i64 0] 43 (0, 0)) ∧ w.heap.size + 1 + 1 + 1 ≤ w1.heap.size ∧ Below w.heap.size w w1) := ⟨box_later HH.out.1.1 hBW1 (by have := HH.out.2.1; omega), box_later HH.out.1.2.1 hBW1 (by have := HH.out.2.1; omega), box_later HH.out.1.2.2 hBW1 (by have := HH.out.2.1; omega), by have := hBW1.size; have := HH.out.2.1; omega, HH.out.2.2.1.trans (hBW1.mono HH.out.2.2.1.size)⟩
  clear hB1 hBW1
  have HK : Hid (∀ w', Below (w.heap.size + 1 + 1) w1 w' → ((w'.cell? ⟨w.heap.size, 0, none⟩ = some (.bool na) ∧ w'.cell? ⟨w.heap.size, 1, none⟩ = some (.slice ua un uc) ∧ w'.cell? ⟨w.heap.size, 2, none⟩ = some (.int .i64 ea)) ∧ (w'.cell? ⟨w.heap.size + 1, 0, none⟩ = some (.bool nb) ∧ w'.cell? ⟨w.heap.size + 1, 1, none⟩ = some (.slice va vn vc) ∧ w'.cell? ⟨w.heap.size + 1, 2, none⟩ = some (.int .i64 eb)))) := fun w' hb => ⟨(box_cells (box_later H3.out.1 hb (by omega))).1, (box_cells (box_later H3.out.2.1 hb (by omega))).1⟩
  have H1 : Hid (w.heap.size + 1 + 1 ≤ w1.heap.size) := (by have := H3.out.2.2.2.1; omega : w.heap.size + 1 + 1 ≤ w1.heap.size)
  have hBR : Below w1.heap.size w1 w1.drew := (Below.refl _ _).drew
  have hBR1 : Below (w.heap.size + 1 + 1) w1 w1.drew := (Below.refl _ _).drew
  have kn : ∀ w4, Below w1.heap.size w1 w4 → Calls Tryz.prog 82 #[.agg #[.bool nb, .slice va vn vc, .int .i64 eb]] w4 fun r w' => ∃ ao n cap, r = .returned (.agg #[.bool nn, .slice ao n cap, .int .i64 eb]) ∧ Own w' w1.heap.size (.slice ao n cap) y ∧ Below w1.heap.size w1 w' := fun w4 hb =>
    (HKN.out w4 (H3.out.2.2.2.2.trans (hb.mono H3.out.2.2.2.2.size))).mono fun r w' ⟨v, e1, o1, o2⟩ => by
      obtain ⟨ao, cap, rfl, -, -, -⟩ := o1.is
      exact ⟨_, _, _, e1, o1.mono hb.size, hb.trans (o2.mono hb.size)⟩
  have ks : ∀ ao n cap w5, Own w5 w1.heap.size (.slice ao n cap) y → Below w1.heap.size w1 w5 → Calls Tryz.prog 67 #[.agg #[.bool na, .slice ua un uc, .int .i64 ea], .agg #[.bool nn, .slice ao n cap, .int .i64 eb]] w5 fun r w' => ∃ s' ao n cap ex, r = .returned (.agg #[.bool s', .slice ao n cap, .int .i64 ex]) ∧ Nrm w' w1.heap.size (.agg #[.bool s', .slice ao n cap, .int .i64 ex]) s z e ∧ Below w1.heap.size w1 w' := fun ao n cap w5 ho hb =>
    (HKS.out w5 _ _ (H3.out.2.2.2.2.trans (hb.mono H3.out.2.2.2.2.size)) ho).mono fun r w' ⟨v, e1, o1, o2⟩ => by
      obtain ⟨s', ao, n, cap, ex, rfl⟩ := o1.shape
      exact ⟨_, _, _, _, _, e1, o1.mono hb.size, hb.trans (o2.mono hb.size)⟩
  have kb : ∀ s6 ao6 n6 cap6 ex6 w6, Nrm w6 w1.heap.size (.agg #[.bool s6, .slice ao6 n6 cap6, .int .i64 ex6]) s z e → Below w1.heap.size w1 w6 → Calls Tryz.prog 66 #[.agg #[.bool s6, .slice ao6 n6 cap6, .int .i64 ex6]] w6 fun r w' => r = .returned (.tuple #[.agg #[.bool s6, .slice ao6 n6 cap6, .int .i64 ex6], .int .i64 0]) ∧ Hid (Nrm w' w1.heap.size (.agg #[.bool s6, .slice ao6 n6 cap6, .int .i64 ex6]) s z e) ∧ Below w1.heap.size w1 w' ∧ Hid (w'.heap[w.heap.size + 1 + 1]? = some (.cells #[.bool false, .slice none 0 0, .int .i64 0] 43 (0, 0))) ∧
      (w'.cell? ⟨w.heap.size + 1 + 1, 0, none⟩ = some (.bool false) ∧ w'.cell? ⟨w.heap.size + 1 + 1, 1, none⟩ = some (.slice none 0 0) ∧ w'.cell? ⟨w.heap.size + 1 + 1, 2, none⟩ = some (.int .i64 0)) ∧ (w'.frozen? ⟨w.heap.size + 1 + 1, 0, none⟩ = false ∧ w'.frozen? ⟨w.heap.size + 1 + 1, 1, none⟩ = false ∧ w'.frozen? ⟨w.heap.size + 1 + 1, 2, none⟩ = false) := fun s6 ao6 n6 cap6 ex6 w6 hN hb => by
    have k := c63n hN HZ.out.1
    rw [HZ.out.2] at k
    refine k.mono ?_
    rintro r w' ⟨rfl, hb2⟩
    have hb3 : Below w1.heap.size w1 w' := hb.trans (hb2.mono hb.size)
    have hblk := box_later H3.out.2.2.1 hb3 (by have := H3.out.2.2.2.1; omega)
    obtain ⟨f1, f2⟩ := box_cells hblk
    exact ⟨rfl, hN.later hb2, hb3, hblk, f1, f2⟩
  obtain ⟨⟨a0, a1, a2⟩, b0, b1, b2⟩ := HK.out w1 (Below.refl _ _)
  go_upto_region 3 with fail
  go_region_held3 (fun w' => ((w'.cell? ⟨w.heap.size, 0, none⟩ = some (.bool na) ∧ w'.cell? ⟨w.heap.size, 1, none⟩ = some (.slice ua un uc) ∧ w'.cell? ⟨w.heap.size, 2, none⟩ = some (.int .i64 ea)) ∧ (w'.cell? ⟨w.heap.size + 1, 0, none⟩ = some (.bool nb) ∧ w'.cell? ⟨w.heap.size + 1, 1, none⟩ = some (.slice va vn vc) ∧ w'.cell? ⟨w.heap.size + 1, 2, none⟩ = some (.int .i64 eb)))) (first | (with_reducible assumption) | exact ⟨⟨a0, a1, a2⟩, b0, b1, b2⟩ | (refine HK.out _ (Below.mono ?_ H1.out); with_reducible assumption) | (refine HK.out _ (below_store3 (Below.mono hb7 H1.out) (Nat.le_refl _) _ _ _)) | go_keep)
    (first | (go_at_call 82; refine (kn _ (by first | (with_reducible assumption) | exact hBR)).mono ?_; rintro r w5 ⟨ao5, n5, cap5, rfl, ho5, hb5⟩) | (go_at_call 67; refine (ks _ _ _ _ ho5 hb5).mono ?_; rintro r w6 ⟨s6, ao6, n6, cap6, ex6, rfl, hn6, hb6⟩) | (go_at_call 66; refine (kb _ _ _ _ _ _ hn6 hb6).mono ?_; rintro r w7 ⟨rfl, hN7, hb7, hblk7, ⟨x1, x2, x3⟩, x4, x5, x6⟩))
  have HF : Hid (Below w1.heap.size w1 w7) := hb7
  clear ho5 hb5 hn6 hb6 hb7 kn ks kb x1 x2 x3 x4 x5 x6 a0 a1 a2 b0 b1 b2 HK
  go_wp2
  refine bodyPost_ret (results_cell_tmp_row rfl _ _ (w.heap.size + 1 + 1) 43 #[.bool s6, .slice ao6 n6 cap6, .int .i64 ex6] (0, 0) _ rfl (store3 _ _ _ hblk7.out) Tryz.underlying43 rfl Tryz.info43) rfl ?_
  have hs := H3.out.2.2.2.1
  exact ⟨.agg #[.bool s6, .slice ao6 n6 cap6, .int .i64 ex6], by rw [HZ.out.2]; rfl, (hN7.out.store (by omega) _ _ _).mono (by omega), below_store3 (H3.out.2.2.2.2.trans (HF.out.mono H3.out.2.2.2.2.size)) (by omega) _ _ _⟩

set_option maxHeartbeats 4000000 in
set_option maxRecDepth 200000 in
theorem c21_f (na nb : Bool) (ua va : Option Addr) (un uc vn vc z : Nat) (ea eb e : Int) (s nn : Bool) (y : Nat) (w : World) (hz : dlen z ≤ 35184372088832) (hok : okR s z e = false)
    (k67 : ∀ W g, Below w.heap.size w W → W.heap[g]? = some (.cells #[.bool na, .slice ua un uc, .int .i64 ea, .bool nb, .slice va vn vc, .int .i64 eb] 43 (0, 0)) → Calls Tryz.prog 61 #[.slice (some ⟨g, 0, none⟩) 2 2] W fun r w' => r = .returned (.bool true) ∧ Below W.heap.size W w')
    (kN : ∀ W, Below w.heap.size w W → Calls Tryz.prog 82 #[.agg #[.bool nb, .slice va vn vc, .int .i64 eb]] W fun r w' => ∃ v, r = .returned (.agg #[.bool nn, v, .int .i64 eb]) ∧ Own w' W.heap.size v y ∧ Below W.heap.size W w')
    (kS : ∀ W v base, Below w.heap.size w W → Own W base v y → Calls Tryz.prog 67 #[.agg #[.bool na, .slice ua un uc, .int .i64 ea], .agg #[.bool nn, v, .int .i64 eb]] W fun r w' => ∃ a, r = .returned a ∧ Nrm w' W.heap.size a s z e ∧ Below W.heap.size W w') :
    Calls Tryz.prog 70 #[.agg #[.bool na, .slice ua un uc, .int .i64 ea], .agg #[.bool nb, .slice va vn vc, .int .i64 eb]] w fun r w' => Held w s z e r w' := by
  obtain ⟨W, hW⟩ : ∃ W, W = ((w.alloc (.cells #[.bool na, .slice ua un uc, .int .i64 ea] 43)).alloc (.cells #[.bool nb, .slice va vn vc, .int .i64 eb] 43)).alloc (.cells #[.bool false, .slice none 0 0, .int .i64 0] 43) := ⟨_, rfl⟩
  obtain ⟨hA, hBb, hC, hsz, hBW⟩ := boxes3 _ _ _ hW
  have hB4 : Below w.heap.size w (W.alloc (.cells #[.bool na, .slice ua un uc, .int .i64 ea, .bool nb, .slice va vn vc, .int .i64 eb] 43)) := hBW.alloc hBW.size _
  have k1 := k67 (W.alloc (.cells #[.bool na, .slice ua un uc, .int .i64 ea, .bool nb, .slice va vn vc, .int .i64 eb] 43)) (w.heap.size + 1 + 1 + 1) hB4 (by rw [← hsz]; exact heap_alloc_new _ _)
  have HH : Hid ((W.heap[w.heap.size]? = some (.cells #[.bool na, .slice ua un uc, .int .i64 ea] 43 (0, 0)) ∧ W.heap[w.heap.size + 1]? = some (.cells #[.bool nb, .slice va vn vc, .int .i64 eb] 43 (0, 0)) ∧ W.heap[w.heap.size + 1 + 1]? = some (.cells #[.bool false, .slice none 0 0, .int .i64 0] 43 (0, 0))) ∧ W.heap.size = w.heap.size + 1 + 1 + 1 ∧ Below w.heap.size w W ∧ Below W.heap.size W (W.alloc (.cells #[.bool na, .slice ua un uc, .int .i64 ea, .bool nb, .slice va vn vc, .int .i64 eb] 43))) := ⟨⟨hA, hBb, hC⟩, hsz, hBW, (Below.refl _ _).alloc (Nat.le_refl _) _⟩
  have HZ : Hid (dlen z ≤ 35184372088832 ∧ okR s z e = false) := ⟨hz, hok⟩
  have HKN : Hid (∀ W, Below w.heap.size w W → Calls Tryz.prog 82 #[.agg #[.bool nb, .slice va vn vc, .int .i64 eb]] W fun r w' => ∃ v, r = .returned (.agg #[.bool nn, v, .int .i64 eb]) ∧ Own w' W.heap.size v y ∧ Below W.heap.size W w') := kN
  have HKS : Hid (∀ W v base, Below w.heap.size w W → Own W base v y → Calls Tryz.prog 67 #[.agg #[.bool na, .slice ua un uc, .int .i64 ea], .agg #[.bool nn, v, .int .i64 eb]] W fun r w' => ∃ a, r = .returned a ∧ Nrm w' W.heap.size a s z e ∧ Below W.heap.size W w') := kS
  clear hA hBb hC hsz hBW hB4 k67 kN kS hz hok
  go_enter Tryz.func70, Tryz.ntmps70
  go_wp2_with fail
  rw [← hW]
  clear hW
  refine k1.mono ?_
  rintro r w1 ⟨rfl, hB1⟩
  clear k1
  have hBW1 : Below W.heap.size W w1 := HH.out.2.2.2.trans (hB1.mono HH.out.2.2.2.size)
  have H3 : Hid (w1.heap[w.heap.size]? = some (.cells #[.bool na, .slice ua un uc, .int .i64 ea] 43 (0, 0)) ∧ w1.heap[w.heap.size + 1]? = some (.cells #[.bool nb, .slice va vn vc, .int .i64 eb] 43 (0, 0)) ∧ w1.heap[w.heap.size + 1 + 1]? = some (.cells #[.bool false, .slice none 0 0, .int .i64 0] 43 (0, 0)) ∧ w.heap.size + 1 + 1 + 1 ≤ w1.heap.size ∧ Below w.heap.size w w1) := ⟨box_later HH.out.1.1 hBW1 (by have := HH.out.2.1; omega), box_later HH.out.1.2.1 hBW1 (by have := HH.out.2.1; omega), box_later HH.out.1.2.2 hBW1 (by have := HH.out.2.1; omega), by have := hBW1.size; have := HH.out.2.1; omega, HH.out.2.2.1.trans (hBW1.mono HH.out.2.2.1.size)⟩
  clear hB1 hBW1
  have HK : Hid (∀ w', Below (w.heap.size + 1 + 1) w1 w' → ((w'.cell? ⟨w.heap.size, 0, none⟩ = some (.bool na) ∧ w'.cell? ⟨w.heap.size, 1, none⟩ = some (.slice ua un uc) ∧ w'.cell? ⟨w.heap.size, 2, none⟩ = some (.int .i64 ea)) ∧ (w'.cell? ⟨w.heap.size + 1, 0, none⟩ = some (.bool nb) ∧ w'.cell? ⟨w.heap.size + 1, 1, none⟩ = some (.slice va vn vc) ∧ w'.cell? ⟨w.heap.size + 1, 2, none⟩ = some (.int .i64 eb)))) := fun w' hb => ⟨(box_cells (box_later H3.out.1 hb (by omega))).1, (box_cells (box_later H3.out.2.1 hb (by omega))).1⟩
  have H1 : Hid (w.heap.size + 1 + 1 ≤ w1.heap.size) := (by have := H3.out.2.2.2.1; omega : w.heap.size + 1 + 1 ≤ w1.heap.size)
  have hBR : Below w1.heap.size w1 w1.drew := (Below.refl _ _).drew
  have hBR1 : Below (w.heap.size + 1 + 1) w1 w1.drew := (Below.refl _ _).drew
  have kn : ∀ w4, Below w1.heap.size w1 w4 → Calls Tryz.prog 82 #[.agg #[.bool nb, .slice va vn vc, .int .i64 eb]] w4 fun r w' => ∃ ao n cap, r = .returned (.agg #[.bool nn, .slice ao n cap, .int .i64 eb]) ∧ Own w' w1.heap.size (.slice ao n cap) y ∧ Below w1.heap.size w1 w' := fun w4 hb =>
    (HKN.out w4 (H3.out.2.2.2.2.trans (hb.mono H3.out.2.2.2.2.size))).mono fun r w' ⟨v, e1, o1, o2⟩ => by
      obtain ⟨ao, cap, rfl, -, -, -⟩ := o1.is
      exact ⟨_, _, _, e1, o1.mono hb.size, hb.trans (o2.mono hb.size)⟩
  have ks : ∀ ao n cap w5, Own w5 w1.heap.size (.slice ao n cap) y → Below w1.heap.size w1 w5 → Calls Tryz.prog 67 #[.agg #[.bool na, .slice ua un uc, .int .i64 ea], .agg #[.bool nn, .slice ao n cap, .int .i64 eb]] w5 fun r w' => ∃ s' ao n cap ex, r = .returned (.agg #[.bool s', .slice ao n cap, .int .i64 ex]) ∧ Nrm w' w1.heap.size (.agg #[.bool s', .slice ao n cap, .int .i64 ex]) s z e ∧ Below w1.heap.size w1 w' := fun ao n cap w5 ho hb =>
    (HKS.out w5 _ _ (H3.out.2.2.2.2.trans (hb.mono H3.out.2.2.2.2.size)) ho).mono fun r w' ⟨v, e1, o1, o2⟩ => by
      obtain ⟨s', ao, n, cap, ex, rfl⟩ := o1.shape
      exact ⟨_, _, _, _, _, e1, o1.mono hb.size, hb.trans (o2.mono hb.size)⟩
  have kb : ∀ s6 ao6 n6 cap6 ex6 w6, Nrm w6 w1.heap.size (.agg #[.bool s6, .slice ao6 n6 cap6, .int .i64 ex6]) s z e → Below w1.heap.size w1 w6 → Calls Tryz.prog 66 #[.agg #[.bool s6, .slice ao6 n6 cap6, .int .i64 ex6]] w6 fun r w' => r = .returned (.tuple #[.agg #[.bool false, .slice none 0 0, .int .i64 0], .int .i64 2]) ∧ Hid (Nrm w' w1.heap.size (.agg #[.bool s6, .slice ao6 n6 cap6, .int .i64 ex6]) s z e) ∧ Below w1.heap.size w1 w' ∧ Hid (w'.heap[w.heap.size + 1 + 1]? = some (.cells #[.bool false, .slice none 0 0, .int .i64 0] 43 (0, 0))) ∧
      (w'.cell? ⟨w.heap.size + 1 + 1, 0, none⟩ = some (.bool false) ∧ w'.cell? ⟨w.heap.size + 1 + 1, 1, none⟩ = some (.slice none 0 0) ∧ w'.cell? ⟨w.heap.size + 1 + 1, 2, none⟩ = some (.int .i64 0)) ∧ (w'.frozen? ⟨w.heap.size + 1 + 1, 0, none⟩ = false ∧ w'.frozen? ⟨w.heap.size + 1 + 1, 1, none⟩ = false ∧ w'.frozen? ⟨w.heap.size + 1 + 1, 2, none⟩ = false) := fun s6 ao6 n6 cap6 ex6 w6 hN hb => by
    have k := c63n hN HZ.out.1
    rw [HZ.out.2] at k
    refine k.mono ?_
    rintro r w' ⟨rfl, hb2⟩
    have hb3 : Below w1.heap.size w1 w' := hb.trans (hb2.mono hb.size)
    have hblk := box_later H3.out.2.2.1 hb3 (by have := H3.out.2.2.2.1; omega)
    obtain ⟨f1, f2⟩ := box_cells hblk
    exact ⟨rfl, hN.later hb2, hb3, hblk, f1, f2⟩
  obtain ⟨⟨a0, a1, a2⟩, b0, b1, b2⟩ := HK.out w1 (Below.refl _ _)
  go_upto_region 3 with fail
  go_region_held3 (fun w' => ((w'.cell? ⟨w.heap.size, 0, none⟩ = some (.bool na) ∧ w'.cell? ⟨w.heap.size, 1, none⟩ = some (.slice ua un uc) ∧ w'.cell? ⟨w.heap.size, 2, none⟩ = some (.int .i64 ea)) ∧ (w'.cell? ⟨w.heap.size + 1, 0, none⟩ = some (.bool nb) ∧ w'.cell? ⟨w.heap.size + 1, 1, none⟩ = some (.slice va vn vc) ∧ w'.cell? ⟨w.heap.size + 1, 2, none⟩ = some (.int .i64 eb)))) (first | (with_reducible assumption) | exact ⟨⟨a0, a1, a2⟩, b0, b1, b2⟩ | (refine HK.out _ (Below.mono ?_ H1.out); with_reducible assumption) | (refine HK.out _ (below_store3 (Below.mono hb7 H1.out) (Nat.le_refl _) _ _ _)) | go_keep)
    (first | (go_at_call 82; refine (kn _ (by first | (with_reducible assumption) | exact hBR)).mono ?_; rintro r w5 ⟨ao5, n5, cap5, rfl, ho5, hb5⟩) | (go_at_call 67; refine (ks _ _ _ _ ho5 hb5).mono ?_; rintro r w6 ⟨s6, ao6, n6, cap6, ex6, rfl, hn6, hb6⟩) | (go_at_call 66; refine (kb _ _ _ _ _ _ hn6 hb6).mono ?_; rintro r w7 ⟨rfl, hN7, hb7, hblk7, ⟨x1, x2, x3⟩, x4, x5, x6⟩))
  have HF : Hid (Below w1.heap.size w1 w7) := hb7
  clear ho5 hb5 hn6 hb6 hb7 kn ks kb x1 x2 x3 x4 x5 x6 a0 a1 a2 b0 b1 b2 HK
  go_wp2
  refine bodyPost_ret (results_cell_tmp_row rfl _ _ (w.heap.size + 1 + 1) 43 #[.bool false, .slice none 0 0, .int .i64 0] (0, 0) _ rfl (store3 _ _ _ hblk7.out) Tryz.underlying43 rfl Tryz.info43) rfl ?_
  have hs := H3.out.2.2.2.1
  exact ⟨.agg #[.bool s6, .slice ao6 n6 cap6, .int .i64 ex6], by rw [HZ.out.2]; rfl, (hN7.out.store (by omega) _ _ _).mono (by omega), below_store3 (H3.out.2.2.2.2.trans (HF.out.mono H3.out.2.2.2.2.size)) (by omega) _ _ _⟩

theorem dlen_sumN (na : Bool) (x : Nat) (ea : Int) (nb : Bool) (y : Nat) (eb : Int) (hx : dlen x ≤ 500000) (hy : dlen y ≤ 500000) (ha : -4000000 ≤ ea ∧ ea ≤ 4000000) (hb : -4000000 ≤ eb ∧ eb ≤ 4000000) : dlen (sumN na x ea nb y eb).2.1 ≤ 1000000 := by
  unfold sumN
  have l1 : dlen (x * 2 ^ (ea - min ea eb).toNat) ≤ 760000 := by have := shl_len (x := x) (k := (ea - min ea eb).toNat) rfl; omega
  have l2 : dlen (y * 2 ^ (eb - min ea eb).toNat) ≤ 760000 := by have := shl_len (x := y) (k := (eb - min ea eb).toNat) rfl; omega
  have l3 := dlen_add_le (x * 2 ^ (ea - min ea eb).toNat) (y * 2 ^ (eb - min ea eb).toNat)
  split
  · show dlen y ≤ _; omega
  · split
    · show dlen x ≤ _; omega
    · split
      · show dlen (_ + _) ≤ _; omega
      · split
        · have := dlen_mono (Nat.sub_le (y * 2 ^ (eb - min ea eb).toNat) (x * 2 ^ (ea - min ea eb).toNat)); show dlen (_ - _) ≤ _; omega
        · have := dlen_mono (Nat.sub_le (x * 2 ^ (ea - min ea eb).toNat) (y * 2 ^ (eb - min ea eb).toNat)); show dlen (_ - _) ≤ _; omega

theorem sub_ok {na nb : Bool} {ua va : Option Addr} {uc vc x y : Nat} {ea eb : Int} {w : World} (h1 : Is w (.slice ua (dlen x) uc) x) (h2 : Is w (.slice va (dlen y) vc) y) (hx : dlen x ≤ 400000) (hy : dlen y ≤ 400000) (ha : -4000000 ≤ ea ∧ ea ≤ 4000000) (hb : -4000000 ≤ eb ∧ eb ≤ 4000000)
    (hoka : okN na (dlen x) x ea = true) (hokb : okN nb (dlen y) y eb = true) (hT : Tab32 w) :
    Calls Tryz.prog 70 #[.agg #[.bool na, .slice ua (dlen x) uc, .int .i64 ea], .agg #[.bool nb, .slice va (dlen y) vc, .int .i64 eb]] w fun r w' => Held w (sumN na x ea (!nb && decide (0 < dlen y)) y eb).1 (sumN na x ea (!nb && decide (0 < dlen y)) y eb).2.1 (sumN na x ea (!nb && decide (0 < dlen y)) y eb).2.2 r w' := by
  have k67 : ∀ W g, Below w.heap.size w W → W.heap[g]? = some (.cells #[.bool na, .slice ua (dlen x) uc, .int .i64 ea, .bool nb, .slice va (dlen y) vc, .int .i64 eb] 43 (0, 0)) → Calls Tryz.prog 61 #[.slice (some ⟨g, 0, none⟩) 2 2] W fun r w' => r = .returned (.bool true) ∧ Below W.heap.size W w' := fun W g hW hg => by
    have := maybe2 hg (h1.later hW) (h2.later hW) (by omega) (by omega)
    rw [hoka, hokb] at this
    exact this
  have kN : ∀ W, Below w.heap.size w W → Calls Tryz.prog 82 #[.agg #[.bool nb, .slice va (dlen y) vc, .int .i64 eb]] W fun r w' => ∃ v, r = .returned (.agg #[.bool (!nb && decide (0 < dlen y)), v, .int .i64 eb]) ∧ Own w' W.heap.size v y ∧ Below W.heap.size W w' := fun W hW => neg_ok (h2.later hW) (by omega)
  have hz : dlen (sumN na x ea (!nb && decide (0 < dlen y)) y eb).2.1 ≤ 35184372088832 := by
    have := dlen_sumN na x ea (!nb && decide (0 < dlen y)) y eb (by omega : dlen x ≤ 500000) (by omega : dlen y ≤ 500000) ha hb
    omega
  cases hok : okR (sumN na x ea (!nb && decide (0 < dlen y)) y eb).1 (sumN na x ea (!nb && decide (0 < dlen y)) y eb).2.1 (sumN na x ea (!nb && decide (0 < dlen y)) y eb).2.2
  · exact c21_f na nb ua va _ uc _ vc _ ea eb _ _ _ y w hz hok k67 kN (fun W v base hW ho => c87 (h1.later hW) ho.is (by omega) (by omega) ha hb (hT.later hW))
  · exact c21_t na nb ua va _ uc _ vc _ ea eb _ _ _ y w hz hok k67 kN (fun W v base hW ho => c87 (h1.later hW) ho.is (by omega) (by omega) ha hb (hT.later hW))
end Go.Proofs.YtdfkpjagnndfdaaGreatDoor
/- The library's contracts at this program that are used: the builder's text, a whole number's decimal digits. -/
namespace Go.Proofs
open Go.Shelf
end Go.Proofs
/- The builder of texts: its methods that write. -/
namespace Go.Proofs.YtdfkpjagnndfdaaGreatDoor
set_option linter.unusedVariables false
set_option linter.unusedSimpArgs false
open Go.RowKit

end Go.Proofs.YtdfkpjagnndfdaaGreatDoor
/- Show, of a number of one digit. -/
namespace Go.Proofs.YtdfkpjagnndfdaaGreatDoor
set_option linter.unusedVariables false
set_option linter.unusedSimpArgs false
open Go.RowKit

end Go.Proofs.YtdfkpjagnndfdaaGreatDoor
/- The numbers that the law's own small test makes. -/
namespace Go.Proofs.YtdfkpjagnndfdaaGreatDoor
set_option linter.unusedVariables false
set_option linter.unusedSimpArgs false
open Go.RowKit Go.Fl64

/-- a number that was made: its value, its digits readable -/
theorem Nrm.kn {w : World} {base : Nat} {a : Value} {s : Bool} {z x t : Nat} {e e' : Int} (h : Nrm w base a s z e) (h0 : z ≠ 0) (ht : tz z = t) (hx : z / 2 ^ t = x) (he : e + (t : Int) = e') :
    ∃ ao cap, a = .agg #[.bool s, .slice ao (dlen x) cap, .int .i64 e'] ∧ Is w (.slice ao (dlen x) cap) x := by
  subst ht hx he
  rcases h with ⟨h1, -⟩ | ⟨-, v, rfl, ho⟩
  · exact absurd h1 h0
  · obtain ⟨ao, cap, rfl, h1, h2, h3⟩ := ho.is
    exact ⟨ao, cap, rfl, ao, cap, rfl, h1, h2, h3⟩
theorem Nrm.odd {w : World} {base : Nat} {a : Value} {s : Bool} {z : Nat} {e : Int} (h : Nrm w base a s z e) (ho : z % 2 = 1) :
    ∃ ao cap, a = .agg #[.bool s, .slice ao (dlen z) cap, .int .i64 e] ∧ Is w (.slice ao (dlen z) cap) z :=
  h.kn (t := 0) (by intro e; subst e; simp at ho) (tz_odd ho) (by simp) (by simp)
theorem Nrm.nil {w : World} {base : Nat} {a : Value} {s : Bool} {e : Int} (h : Nrm w base a s 0 e) : a = .agg #[.bool false, .slice none 0 0, .int .i64 0] := by
  rcases h with ⟨-, h⟩ | ⟨h, -⟩
  · exact h
  · exact absurd rfl h
theorem is_nil (w : World) : Is w (.slice none 0 0) 0 := ⟨none, 0, by rw [dlen_zero], by rw [dlen_zero]; omega, by omega, 0, 0, fun h => by rw [dlen_zero] at h; omega, fun i hi => by rw [dlen_zero] at hi; omega⟩
end Go.Proofs.YtdfkpjagnndfdaaGreatDoor
/- Up, Show, Valid, Cmp at the numbers of the law's own small test. -/
namespace Go.Proofs.YtdfkpjagnndfdaaGreatDoor
set_option linter.unusedVariables false
set_option linter.unusedSimpArgs false
open Go.RowKit Go.Fl64

end Go.Proofs.YtdfkpjagnndfdaaGreatDoor
/- Show, Valid, Cmp at the numbers of the law's own small test. -/
namespace Go.Proofs.YtdfkpjagnndfdaaGreatDoor
set_option linter.unusedVariables false
set_option linter.unusedSimpArgs false
open Go.RowKit Go.Fl64

end Go.Proofs.YtdfkpjagnndfdaaGreatDoor
/- The law's own small test: it answers true. -/
namespace Go.Proofs.YtdfkpjagnndfdaaGreatDoor
set_option linter.unusedVariables false
set_option linter.unusedSimpArgs false
open Go.RowKit Go.Fl64

theorem Bx.lt {w3 wc : World} {g : Nat} {s : Bool} {ao : Option Addr} {n cap : Nat} {ex : Int} {sL : Bool} {zL : Nat} {eL : Int} (h : Bx w3 wc g s ao n cap ex sL zL eL) : g < wc.heap.size := lt_of_box h.1
/-- a number in its box stays -/
theorem Bx.later {w3 wc w' : World} {g : Nat} {s : Bool} {ao : Option Addr} {n cap : Nat} {ex : Int} {sL : Bool} {zL : Nat} {eL : Int} (h : Bx w3 wc g s ao n cap ex sL zL eL) (hb : Below wc.heap.size wc w') : Bx w3 w' g s ao n cap ex sL zL eL :=
  ⟨box_later h.1 hb h.lt, h.2.1, h.2.2.1.trans (hb.mono h.2.2.1.size), h.2.2.2.later hb⟩
theorem Bx.cells {w3 wc : World} {g : Nat} {s : Bool} {ao : Option Addr} {n cap : Nat} {ex : Int} {sL : Bool} {zL : Nat} {eL : Int} (h : Bx w3 wc g s ao n cap ex sL zL eL) :
    wc.cell? ⟨g, 0, none⟩ = some (.bool s) ∧ wc.cell? ⟨g, 1, none⟩ = some (.slice ao n cap) ∧ wc.cell? ⟨g, 2, none⟩ = some (.int .i64 ex) := (box_cells h.1).1

end Go.Proofs.YtdfkpjagnndfdaaGreatDoor
/- The document's Float, Of, Whole. -/
namespace Go.Proofs.YtdfkpjagnndfdaaGreatDoor
set_option linter.unusedVariables false
set_option linter.unusedSimpArgs false
open Go.RowKit Go.Fl64

theorem two_at (m : Nat) (w : World) (hm : m < 18446744073709551616) : At (w.alloc (Obj.cells #[Value.int IntKind.u32 ((m : Int) % 4294967296), Value.int IntKind.u32 ((m : Int) / 4294967296)] 63)) (some ⟨w.heap.size, 0, none⟩) 2 m := by
  have hM : Mk w (w.alloc (Obj.cells #[Value.int IntKind.u32 ((m : Int) % 4294967296), Value.int IntKind.u32 ((m : Int) / 4294967296)] 63)) 2 (dg m) := by
    refine ⟨(Below.refl _ _).alloc (Nat.le_refl _) _, by simp, World.rowIs_alloc w _ _ _ fun i hi => ?_⟩
    match i, hi with
    | 0, _ => simp [dg, B]
    | 1, _ => simp [dg, B]; omega
  exact hM.at
theorem Nr.shape {w : World} {base : Nat} {a : Value} {neg : Bool} {x : Nat} {e : Int} (h : Nr w base a neg x e) : ∃ s ao n cap ex, a = .agg #[.bool s, .slice ao n cap, .int .i64 ex] := by
  rcases h with ⟨_, rfl⟩ | ⟨_, ao, cap, rfl, -⟩
  · exact ⟨_, _, _, _, _, rfl⟩
  · exact ⟨_, _, _, _, _, rfl⟩
theorem cell_far3 {w : World} {g : Nat} {q : Addr} (h : q.block ≠ g) (a b c : Value) : (((w.setCell ⟨g, 0, none⟩ a).setCell ⟨g, 1, none⟩ b).setCell ⟨g, 2, none⟩ c).cell? q = w.cell? q := by
  have h1 : ∀ i, (⟨g, i, none⟩ : Addr) ≠ q := fun i e => h (by rw [← e])
  rw [World.cell?_setCell_other _ _ _ _ (h1 2), World.cell?_setCell_other _ _ _ _ (h1 1), World.cell?_setCell_other _ _ _ _ (h1 0)]
theorem Nr.store {w : World} {base : Nat} {a : Value} {neg : Bool} {x : Nat} {e : Int} (h : Nr w base a neg x e) {g : Nat} (hg : g < base) (p q r : Value) : Nr (((w.setCell ⟨g, 0, none⟩ p).setCell ⟨g, 1, none⟩ q).setCell ⟨g, 2, none⟩ r) base a neg x e := by
  rcases h with h | ⟨h0, g', cap, h1, h2, b, o, h3, h4⟩
  · exact .inl h
  · refine .inr ⟨h0, g', cap, h1, h2, b, o, h3, fun i hi => ?_⟩
    have h5 := h3 (by omega)
    simp only [Option.some.injEq, Addr.mk.injEq] at h5
    obtain ⟨rfl, rfl, -⟩ := h5
    rw [cell_far3 (by show g' ≠ g; omega)]
    exact h4 i hi
theorem Nr.mono {w : World} {base base' : Nat} {a : Value} {neg : Bool} {x : Nat} {e : Int} (h : Nr w base a neg x e) (hb : base' ≤ base) : Nr w base' a neg x e := by
  rcases h with h | ⟨h0, g', cap, h1, h2, h3⟩
  · exact .inl h
  · exact .inr ⟨h0, g', cap, h1, Nat.le_trans hb h2, h3⟩
theorem Nr.later {w w' : World} {base : Nat} {a : Value} {neg : Bool} {x : Nat} {e : Int} (h : Nr w base a neg x e) (hb : Below w.heap.size w w') : Nr w' base a neg x e := by
  rcases h with h | ⟨h0, g', cap, h1, h2, h3⟩
  · exact .inl h
  · exact .inr ⟨h0, g', cap, h1, h2, h3.later hb⟩

theorem and_2047 (x : Nat) (h : x < 18446744073709551616) : bits .and .u64 (x : Int) 2047 = ((x % 2048 : Nat) : Int) := by
  have e := u64_and_nat x 2047 h (by decide)
  rw [show ((2047 : Nat) : Int) = 2047 from rfl] at e
  rw [e]
  congr 1
  have := Nat.and_two_pow_sub_one_eq_mod x 11
  simpa using this

end Go.Proofs.YtdfkpjagnndfdaaGreatDoor
/- The document's Of. -/
namespace Go.Proofs.YtdfkpjagnndfdaaGreatDoor
set_option linter.unusedVariables false
set_option linter.unusedSimpArgs false
open Go.RowKit Go.Fl64

end Go.Proofs.YtdfkpjagnndfdaaGreatDoor
/- The law's same: the program's number and the document's, digit by digit. -/
namespace Go.Proofs.YtdfkpjagnndfdaaGreatDoor
set_option linter.unusedVariables false
set_option linter.unusedSimpArgs false
open Go.RowKit Go.Fl64

end Go.Proofs.YtdfkpjagnndfdaaGreatDoor
/- What the rows list, brought to the walks: the three tables' cells hold their numbers; and a world in which they do. -/
namespace Go.Proofs.YtdfkpjagnndfdaaGreatDoor
set_option linter.unusedVariables false
set_option linter.unusedSimpArgs false
open Go.RowKit Go.Fl64

theorem own : ownKnob Tryz.prog.godebug = none := by kernel_rfl
theorem g64 : Tryz.prog.globalNamed "math/bits.deBruijn64tab" = some 2 := by kernel_rfl
theorem g64t : (Tryz.prog.globals[2]?).map (·.type) = some 114 := by kernel_rfl
theorem g32 : Tryz.prog.globalNamed "math/bits.deBruijn32tab" = some 1 := by kernel_rfl
theorem g32t : (Tryz.prog.globals[1]?).map (·.type) = some 112 := by kernel_rfl
theorem cells114 : Tryz.prog.cellsOf 114 = 64 := by kernel_rfl
theorem cells130 : Tryz.prog.cellsOf 112 = 32 := by kernel_rfl
theorem cells5 : Tryz.prog.cellsOf 5 = 1 := by kernel_rfl
def zs64 : List Int := [0, 1, 56, 2, 57, 49, 28, 3, 61, 58, 42, 50, 38, 29, 17, 4, 62, 47, 59, 36, 45, 43, 51, 22, 53, 39, 33, 30, 24, 18, 12, 5, 63, 55, 48, 27, 60, 41, 37, 16, 46, 35, 44, 21, 52, 32, 23, 11, 54, 26, 40, 15, 34, 20, 31, 10, 25, 14, 19, 9, 13, 8, 7, 6]
def zs32 : List Int := [0, 1, 28, 2, 29, 14, 24, 3, 30, 22, 20, 15, 25, 17, 4, 8, 31, 27, 13, 23, 21, 19, 16, 7, 26, 12, 18, 6, 11, 5, 10, 9]
theorem zs64_at : ∀ i, i < 64 → zs64.getD i 0 = ((Lib.deBruijn64tab.getD i 0 : Nat) : Int) := by decide +kernel
theorem zs32_at : ∀ i, i < 32 → zs32.getD i 0 = ((Lib.deBruijn32tab.getD i 0 : Nat) : Int) := by decide +kernel
theorem tab64_of {W : World} (h : Lib.TabIs Tryz.prog W "math/bits.deBruijn64tab" .u8 zs64) : Ie.Tab W := by
  intro i hi
  have := h.cell g64 i (by exact hi)
  rw [zs64_at i hi] at this
  exact this
theorem tab32_of {W : World} (h : Lib.TabIs Tryz.prog W "math/bits.deBruijn32tab" .u8 zs32) : Tab32 W := by
  intro i hi
  have := h.cell g32 i (by exact hi)
  rw [zs32_at i hi] at this
  exact this
theorem laid_tail {P : Program} {W : World} {x : String × DataW Unit} {rest : List (String × DataW Unit)} (h : laidMet P (x :: rest) W) : laidMet P rest W := by
  obtain ⟨ps, ⟨g', t', cs, fuel, p, q, hg', ht', hvar, hd, hr, rfl⟩, hn, hc⟩ := h
  exact ⟨q, hr, (List.nodup_append.1 hn).2.1, fun b off hm => hc b off (List.mem_append_right _ hm)⟩

end Go.Proofs.YtdfkpjagnndfdaaGreatDoor
/- compare, where the signs are alike. -/
namespace Go.Proofs.YtdfkpjagnndfdaaGreatDoor
set_option linter.unusedVariables false
set_option linter.unusedSimpArgs false
open Go.RowKit Go.Fl64

end Go.Proofs.YtdfkpjagnndfdaaGreatDoor
/- compare and Cmp joined; Round. -/
namespace Go.Proofs.YtdfkpjagnndfdaaGreatDoor
set_option linter.unusedVariables false
set_option linter.unusedSimpArgs false
open Go.RowKit Go.Fl64

theorem cmpI_cases (x y : Int) : (x < y ∧ cmpI x y = -1) ∨ (y < x ∧ cmpI x y = 1) ∨ (x = y ∧ cmpI x y = 0) := by
  unfold cmpI
  by_cases h1 : x < y
  · rw [if_pos h1]; exact .inl ⟨h1, rfl⟩
  · rw [if_neg h1]
    by_cases h2 : y < x
    · rw [if_pos h2]; exact .inr (.inl ⟨h2, rfl⟩)
    · rw [if_neg h2]; exact .inr (.inr ⟨by omega, rfl⟩)
theorem c48 (m : Int) (hm : m = 1 ∨ m = 2 ∨ m = 3) (w : World) : Calls Tryz.prog 62 #[.int .i64 m] w fun r w' => r = .returned (.bool true) ∧ w' = w := by
  rcases hm with rfl | rfl | rfl
  all_goals go_enter Tryz.func62, Tryz.ntmps62
  all_goals go_wp2
  all_goals go_ret
  all_goals exact ⟨rfl, rfl⟩

set_option maxRecDepth 200000 in
theorem c24_1 (na : Bool) (ua : Option Addr) (un uc F : Nat) (ea mode : Int) (w : World)
    (k43 : ∀ W g, Below w.heap.size w W → W.heap[g]? = some (.cells #[.bool na, .slice ua un uc, .int .i64 ea] 43 (0, 0)) → Calls Tryz.prog 61 #[.slice (some ⟨g, 0, none⟩) 1 1] W fun r w' => r = .returned (.bool true) ∧ Below W.heap.size W w')
    (k48 : ∀ W, Calls Tryz.prog 62 #[.int .i64 mode] W fun r w' => r = .returned (.bool true) ∧ w' = W)
    (k49 : ∀ W, Below w.heap.size w W → Calls Tryz.prog 63 #[.agg #[.bool na, .slice ua un uc, .int .i64 ea], .int .i64 mode] W fun r w' => r = .returned (.float .f64 F) ∧ Below W.heap.size W w') :
    Calls Tryz.prog 46 #[.agg #[.bool na, .slice ua un uc, .int .i64 ea], .int .i64 mode] w fun r w' => r = .returned (.tuple #[.float .f64 F, .int .i64 0]) ∧ Below w.heap.size w w' := by
  obtain ⟨W, hW⟩ : ∃ W, W = w.alloc (.cells #[.bool na, .slice ua un uc, .int .i64 ea] 43) := ⟨_, rfl⟩
  have hBW : Below w.heap.size w W := by rw [hW]; exact (Below.refl _ _).alloc (Nat.le_refl _) _
  have hsz : W.heap.size = w.heap.size + 1 := by rw [hW]; simp
  have hbx : W.heap[w.heap.size]? = some (.cells #[.bool na, .slice ua un uc, .int .i64 ea] 43 (0, 0)) := by rw [hW]; exact heap_alloc_new _ _
  have k1 := k43 (W.alloc (.cells #[.bool na, .slice ua un uc, .int .i64 ea] 43)) (w.heap.size + 1) (hBW.alloc hBW.size _) (by rw [← hsz]; exact heap_alloc_new _ _)
  have HX : Hid (Below w.heap.size w W ∧ W.heap.size = w.heap.size + 1 ∧ W.heap[w.heap.size]? = some (.cells #[.bool na, .slice ua un uc, .int .i64 ea] 43 (0, 0))) := ⟨hBW, hsz, hbx⟩
  have HK : Hid (∀ W, Below w.heap.size w W → Calls Tryz.prog 63 #[.agg #[.bool na, .slice ua un uc, .int .i64 ea], .int .i64 mode] W fun r w' => r = .returned (.float .f64 F) ∧ Below W.heap.size W w') := k49
  clear hBW hsz hbx k43 k49
  go_enter Tryz.func46, Tryz.ntmps46
  go_wp2_with fail
  rw [← hW]
  clear hW
  refine k1.mono ?_
  rintro r w1 ⟨rfl, hb1⟩
  have HB1 : Hid (Below W.heap.size W w1) := ((Below.refl W.heap.size W).alloc (Nat.le_refl _) _).trans (hb1.mono (by simp))
  clear k1 hb1
  obtain ⟨⟨x0, x1, x2⟩, -⟩ := box_cells (box_later HX.out.2.2 HB1.out (by have := HX.out.2.1; omega))
  have HB2 : Hid (Below w.heap.size w w1) := HX.out.1.trans (HB1.out.mono HX.out.1.size)
  have k2 := k48 w1
  clear k48
  go_wp2_with fail
  refine k2.mono ?_
  rintro r w2 ⟨rfl, hw2⟩
  replace hw2 := hw2.symm
  subst hw2
  clear k2
  have k3 := HK.out w1 HB2.out
  go_wp2_with fail
  refine k3.mono ?_
  rintro r w3 ⟨rfl, hb3⟩
  have HB3 : Hid (Below w.heap.size w w3) := HB2.out.trans (hb3.mono HB2.out.size)
  clear k3 hb3 x0 x1 x2
  go_wp2_with fail
  refine bodyPost_ret (results_tmp2 rfl _ _ _) rfl ?_
  exact ⟨rfl, HB3.out⟩
end Go.Proofs.YtdfkpjagnndfdaaGreatDoor
/- The laws' give: a number with digits of its own. -/
namespace Go.Proofs.YtdfkpjagnndfdaaGreatDoor
set_option linter.unusedVariables false
set_option linter.unusedSimpArgs false
open Go.RowKit

theorem setCell_block {w : World} {g k : Nat} (i : Nat) (v : Value) (h : k ≠ g) : (w.setCell ⟨g, i, none⟩ v).heap[k]? = w.heap[k]? := by
  simp [World.setCell, Array.getElem?_modify, Ne.symm h]
/-- v is a slice in memory of its own (from block base on) that holds the lowest n digits of z -/
def Dn (w : World) (base : Nat) (v : Value) (n z : Nat) : Prop :=
  (v = .slice none 0 0 ∧ n = 0) ∨ ∃ g cap c, v = .slice (some ⟨g, 0, none⟩) n cap ∧ base ≤ g ∧ (n ≤ cap ∧ cap ≤ 9223372036854775807) ∧ w.heap[g]? = some (.cells c 63 (0, 0)) ∧ c.size = cap ∧ ∀ i, i < n → c[i]? = some (.int .u32 (dg z i : Nat))

/-- a number as the laws are handed it: n digits of z, in memory -/
structure Arg (w : World) (ao : Option Addr) (n cap z : Nat) : Prop where
  nil : n = 0 → (∃ ad, ao = some ad) ∨ (ao = none ∧ cap = 0)
  at_ : At w ao n z
  le : n ≤ cap
  small : n ≤ 35184372088832
theorem Arg.later {w w' : World} {ao : Option Addr} {n cap z : Nat} (h : Arg w ao n cap z) (hb : Below w.heap.size w w') : Arg w' ao n cap z := ⟨h.nil, h.at_.later hb, h.le, h.small⟩

theorem Dn.later {w w' : World} {base : Nat} {v : Value} {n z : Nat} (h : Dn w base v n z) (hb : Below w.heap.size w w') : Dn w' base v n z := by
  rcases h with h | ⟨g, cap, c, h0, h1, h2, h3, h4, h5⟩
  · exact .inl h
  · exact .inr ⟨g, cap, c, h0, h1, h2, (hb.block g (Array.getElem?_eq_some_iff.1 h3).1).trans h3, h4, h5⟩
theorem Dn.row {w : World} {base : Nat} {v : Value} {n z : Nat} (h : Dn w base v n z) {g : Nat} {cs : Array Value} {t : TypeId} {fr : Nat × Nat} (hg : w.heap[g]? = some (.cells cs t fr)) (ht : t ≠ 63) (cs' : Array Value) : Dn (w.setRow g cs') base v n z := by
  rcases h with h | ⟨g', cap, c, h0, h1, h2, h3, h4, h5⟩
  · exact .inl h
  · refine .inr ⟨g', cap, c, h0, h1, h2, ?_, h4, h5⟩
    rw [setRow_other]
    · exact h3
    · intro e
      subst e
      rw [h3] at hg
      simp only [Option.some.injEq, Obj.cells.injEq] at hg
      exact ht hg.2.1.symm
theorem Dn.mono {w : World} {base base' : Nat} {v : Value} {n z : Nat} (h : Dn w base v n z) (hb : base' ≤ base) : Dn w base' v n z := by
  rcases h with h | ⟨g, cap, c, h0, h1, h2⟩
  · exact .inl h
  · exact .inr ⟨g, cap, c, h0, by omega, h2⟩
theorem Dn.at {w : World} {base : Nat} {v : Value} {n z : Nat} (h : Dn w base v n z) : ∃ ao cap, v = .slice ao n cap ∧ n ≤ cap ∧ At w ao n z := by
  rcases h with ⟨rfl, rfl⟩ | ⟨g, cap, c, rfl, h1, h2, h3, h4, h5⟩
  · exact ⟨none, 0, rfl, by omega, 0, 0, fun h => by omega, fun i hi => by omega⟩
  · exact ⟨_, cap, rfl, h2.1, g, 0, fun _ => rfl, fun i hi => by rw [Nat.zero_add]; simp [World.cell?, h3, h5 i hi]⟩
end Go.Proofs.YtdfkpjagnndfdaaGreatDoor
/- Several numbers given at once: x, y := give(a), give(b). -/
namespace Go.Proofs.YtdfkpjagnndfdaaGreatDoor
set_option linter.unusedVariables false
set_option linter.unusedSimpArgs false
open Go.RowKit

end Go.Proofs.YtdfkpjagnndfdaaGreatDoor
/- Exact values: a sign, a whole number, an exponent; one form for each. -/
namespace Go.Proofs.YtdfkpjagnndfdaaGreatDoor
set_option linter.unusedVariables false
set_option linter.unusedSimpArgs false
open Go.RowKit

/-- a whole number with a sign -/
def sv (s : Bool) (x : Nat) : Int := if s then -(x : Int) else x
/-- the value in units of 2 to the -K -/
def vz (K : Nat) (s : Bool) (x : Nat) (e : Int) : Int := sv s x * ((2 ^ (e + K).toNat : Nat) : Int)

theorem sv_zero (s : Bool) : sv s 0 = 0 := by cases s <;> rfl
theorem sv_eq_zero {s : Bool} {x : Nat} : sv s x = 0 ↔ x = 0 := by
  cases s <;> simp [sv]
theorem sv_scale (s : Bool) (x k : Nat) : sv s (x * k) = sv s x * (k : Int) := by
  cases s <;> simp [sv, Int.natCast_mul, Int.neg_mul]
theorem two_pos (k : Nat) : (0 : Int) < ((2 ^ k : Nat) : Int) := by
  have := Nat.two_pow_pos k; omega
theorem vz_zero (K : Nat) (s : Bool) (e : Int) : vz K s 0 e = 0 := by unfold vz; rw [sv_zero, Int.zero_mul]
theorem vz_eq_zero {K : Nat} {s : Bool} {x : Nat} {e : Int} : vz K s x e = 0 ↔ x = 0 := by
  unfold vz
  constructor
  · intro h
    rcases Int.mul_eq_zero.1 h with h | h
    · exact sv_eq_zero.1 h
    · have := two_pos (e + K).toNat; omega
  · rintro rfl; rw [sv_zero, Int.zero_mul]
/-- a power of two moved from the exponent into the number -/
theorem vz_shift {K : Nat} {s : Bool} {x k : Nat} {e : Int} (h : 0 ≤ e + K) : vz K s (x * 2 ^ k) e = vz K s x (e + k) := by
  unfold vz
  rw [sv_scale, Int.mul_assoc, show (e + (k : Int) + K).toNat = k + (e + K).toNat by omega, Nat.pow_add, Int.natCast_mul]

/-- the one form -/
def cn (s : Bool) (z : Nat) (e : Int) : Bool × Nat × Int := if z = 0 then (false, 0, 0) else (s, z / 2 ^ tz z, e + tz z)

theorem vz_cn {K : Nat} {s : Bool} {z : Nat} {e : Int} (h : 0 ≤ e + K) : vz K (cn s z e).1 (cn s z e).2.1 (cn s z e).2.2 = vz K s z e := by
  unfold cn
  by_cases h0 : z = 0
  · subst h0; rw [if_pos rfl, vz_zero, vz_zero]
  · rw [if_neg h0]
    have h1 := (tz_spec z z (Nat.le_refl _) h0).1
    show vz K s (z / 2 ^ tz z) (e + tz z) = _
    rw [← vz_shift h, Nat.mul_comm, h1]

theorem odd_pow_eq {x x' a b : Nat} (hx : x % 2 = 1) (hx' : x' % 2 = 1) (h : x * 2 ^ a = x' * 2 ^ b) : x = x' ∧ a = b := by
  have key : ∀ {x x' a b : Nat}, x % 2 = 1 → a ≤ b → x * 2 ^ a = x' * 2 ^ b → x = x' ∧ a = b := by
    intro x x' a b hx hab h
    obtain ⟨d, rfl⟩ : ∃ d, b = a + d := ⟨b - a, by omega⟩
    have h1 : x = x' * 2 ^ d := by
      have : x * 2 ^ a = (x' * 2 ^ d) * 2 ^ a := by rw [h, Nat.pow_add]; grind
      exact Nat.eq_of_mul_eq_mul_right (Nat.two_pow_pos a) this
    cases d with
    | zero => simp at h1; exact ⟨h1, rfl⟩
    | succ d =>
      exfalso
      rw [Nat.pow_succ, ← Nat.mul_assoc] at h1
      omega
  rcases Nat.le_total a b with h1 | h1
  · exact key hx h1 h
  · have := key hx' h1 h.symm
    exact ⟨this.1.symm, this.2.symm⟩

theorem cn_eq {K : Nat} {s s' : Bool} {z z' : Nat} {e e' : Int} (h1 : 0 ≤ e + K) (h2 : 0 ≤ e' + K) (h : vz K s z e = vz K s' z' e') : cn s z e = cn s' z' e' := by
  by_cases h0 : z = 0
  · subst h0
    rw [vz_zero] at h
    obtain rfl := vz_eq_zero.1 h.symm
    simp [cn]
  · have h0' : z' ≠ 0 := fun e0 => by subst e0; rw [vz_zero] at h; exact h0 (vz_eq_zero.1 h)
    have v1 := vz_cn (s := s) (z := z) h1
    have v2 := vz_cn (s := s') (z := z') h2
    rw [← v1, ← v2] at h
    unfold cn at h ⊢
    rw [if_neg h0, if_neg h0'] at h ⊢
    have o1 := (tz_spec z z (Nat.le_refl _) h0).2
    have o2 := (tz_spec z' z' (Nat.le_refl _) h0').2
    generalize z / 2 ^ tz z = x at *
    generalize z' / 2 ^ tz z' = x' at *
    simp only at h
    have hp : 0 ≤ e + tz z + (K : Int) := by omega
    have hp' : 0 ≤ e' + tz z' + (K : Int) := by omega
    generalize e + (tz z : Int) = f at *
    generalize e' + (tz z' : Int) = f' at *
    unfold vz sv at h
    have e1 := two_pos (f + K).toNat
    have e2 := two_pos (f' + K).toNat
    have hb : s = s' ∧ x * 2 ^ (f + K).toNat = x' * 2 ^ (f' + K).toNat := by
      have p1 : (0 : Int) < (x : Int) * ((2 ^ (f + K).toNat : Nat) : Int) := Int.mul_pos (by omega) e1
      have p2 : (0 : Int) < (x' : Int) * ((2 ^ (f' + K).toNat : Nat) : Int) := Int.mul_pos (by omega) e2
      have c1 : ((x * 2 ^ (f + K).toNat : Nat) : Int) = (x : Int) * ((2 ^ (f + K).toNat : Nat) : Int) := Int.natCast_mul ..
      have c2 : ((x' * 2 ^ (f' + K).toNat : Nat) : Int) = (x' : Int) * ((2 ^ (f' + K).toNat : Nat) : Int) := Int.natCast_mul ..
      generalize (x : Int) * ((2 ^ (f + K).toNat : Nat) : Int) = A at *
      generalize (x' : Int) * ((2 ^ (f' + K).toNat : Nat) : Int) = A' at *
      have n1 : -(x : Int) * ((2 ^ (f + K).toNat : Nat) : Int) = -((x : Int) * ((2 ^ (f + K).toNat : Nat) : Int)) := Int.neg_mul ..
      have n2 : -(x' : Int) * ((2 ^ (f' + K).toNat : Nat) : Int) = -((x' : Int) * ((2 ^ (f' + K).toNat : Nat) : Int)) := Int.neg_mul ..
      cases s <;> cases s' <;> simp only [if_true, if_false, Bool.false_eq_true, Int.neg_mul] at h
      · exact ⟨rfl, by omega⟩
      · exfalso; omega
      · exfalso; omega
      · exact ⟨rfl, by omega⟩
    obtain ⟨rfl, hb⟩ := hb
    obtain ⟨rfl, hab⟩ := odd_pow_eq o1 o2 hb
    rw [show f = f' by omega]

theorem vz_sumN {K : Nat} {na nb : Bool} {x y : Nat} {ea eb : Int} (h1 : 0 ≤ ea + K) (h2 : 0 ≤ eb + K) :
    vz K (sumN na x ea nb y eb).1 (sumN na x ea nb y eb).2.1 (sumN na x ea nb y eb).2.2 = vz K na x ea + vz K nb y eb := by
  unfold sumN
  by_cases x0 : x = 0
  · subst x0; rw [if_pos rfl, vz_zero, Int.zero_add]
  · rw [if_neg x0]
    by_cases y0 : y = 0
    · subst y0; rw [if_pos rfl, vz_zero, Int.add_zero]
    · rw [if_neg y0]
      have hm : 0 ≤ min ea eb + (K : Int) := by omega
      have e1 : vz K na x ea = vz K na (x * 2 ^ (ea - min ea eb).toNat) (min ea eb) := by
        rw [vz_shift hm, show min ea eb + ((ea - min ea eb).toNat : Int) = ea by omega]
      have e2 : vz K nb y eb = vz K nb (y * 2 ^ (eb - min ea eb).toNat) (min ea eb) := by
        rw [vz_shift hm, show min ea eb + ((eb - min ea eb).toNat : Int) = eb by omega]
      rw [e1, e2]
      generalize x * 2 ^ (ea - min ea eb).toNat = X at *
      generalize y * 2 ^ (eb - min ea eb).toNat = Y at *
      unfold vz
      rw [← Int.add_mul]
      by_cases hs : na = nb
      · subst hs
        rw [if_pos rfl]
        congr 1
        cases na <;> simp [sv]
        omega
      · rw [if_neg hs]
        by_cases hlt : X < Y
        · rw [if_pos hlt]
          congr 1
          cases na <;> cases nb <;> simp [sv] at hs ⊢ <;> omega
        · rw [if_neg hlt]
          congr 1
          cases na <;> cases nb <;> simp [sv] at hs ⊢ <;> omega

/-- how far a number reaches: its lowest place, the place above its highest -/
def Fits (lo hi : Int) (x : Nat) (e : Int) : Prop := x = 0 ∨ (lo ≤ e ∧ e ≤ hi ∧ x < 2 ^ (hi - e).toNat)

theorem Fits.cn {lo hi : Int} {s : Bool} {z : Nat} {e : Int} (h : Fits lo hi z e) : Fits lo hi (cn s z e).2.1 (cn s z e).2.2 := by
  rcases h with rfl | ⟨h1, h2, h3⟩
  · left; simp [YtdfkpjagnndfdaaGreatDoor.cn]
  · unfold YtdfkpjagnndfdaaGreatDoor.cn
    by_cases h0 : z = 0
    · subst h0; left; simp
    · rw [if_neg h0]
      right
      have hs := (tz_spec z z (Nat.le_refl _) h0).1
      have ho := (tz_spec z z (Nat.le_refl _) h0).2
      have hq : 1 ≤ z / 2 ^ tz z := Nat.pos_of_ne_zero fun e0 => by rw [e0] at ho; simp at ho
      have ht : tz z < (hi - e).toNat := by
        refine Nat.lt_of_not_le fun h => ?_
        have h4 := Nat.pow_le_pow_right (n := 2) (by omega) h
        have h5 := Nat.mul_le_mul_left (2 ^ tz z) hq
        omega
      refine ⟨by show lo ≤ e + (tz z : Int); omega, by show e + (tz z : Int) ≤ hi; omega, ?_⟩
      show z / 2 ^ tz z < 2 ^ (hi - (e + (tz z : Int))).toNat
      refine (Nat.div_lt_iff_lt_mul (Nat.two_pow_pos _)).2 ?_
      rw [← Nat.pow_add, show (hi - (e + (tz z : Int))).toNat + tz z = (hi - e).toNat by omega]
      exact h3

theorem Fits.mono {lo hi lo' hi' : Int} {x : Nat} {e : Int} (h : Fits lo hi x e) (h1 : lo' ≤ lo) (h2 : hi ≤ hi') : Fits lo' hi' x e := by
  rcases h with h | ⟨h3, h4, h5⟩
  · exact .inl h
  · exact .inr ⟨by omega, by omega, Nat.lt_of_lt_of_le h5 (Nat.pow_le_pow_right (by omega) (by omega))⟩

theorem Fits.at {lo hi : Int} {x : Nat} {e m : Int} (h : Fits lo hi x e) (hm : m ≤ e) : x * 2 ^ (e - m).toNat < 2 ^ (hi - m).toNat := by
  rcases h with rfl | ⟨h3, h4, h5⟩
  · rw [Nat.zero_mul]; exact Nat.two_pow_pos _
  · rw [show (hi - m).toNat = (hi - e).toNat + (e - m).toNat by omega, Nat.pow_add]
    exact Nat.mul_lt_mul_of_pos_right h5 (Nat.two_pow_pos _)

theorem Fits.sum {lo hi : Int} {na nb : Bool} {x y : Nat} {ea eb : Int} (h1 : Fits lo hi x ea) (h2 : Fits lo hi y eb) :
    Fits lo (hi + 1) (sumN na x ea nb y eb).2.1 (sumN na x ea nb y eb).2.2 := by
  unfold sumN
  by_cases x0 : x = 0
  · rw [if_pos x0]; exact h2.mono (by omega) (by omega)
  · rw [if_neg x0]
    by_cases y0 : y = 0
    · rw [if_pos y0]; exact h1.mono (by omega) (by omega)
    · rw [if_neg y0]
      have a1 := h1.at (m := min ea eb) (by omega)
      have a2 := h2.at (m := min ea eb) (by omega)
      obtain ⟨p1, p2, -⟩ := h1.resolve_left x0
      obtain ⟨q1, q2, -⟩ := h2.resolve_left y0
      have hp : 2 ^ (hi + 1 - min ea eb).toNat = 2 ^ (hi - min ea eb).toNat * 2 := by
        rw [show (hi + 1 - min ea eb).toNat = (hi - min ea eb).toNat + 1 by omega, Nat.pow_succ]
      generalize x * 2 ^ (ea - min ea eb).toNat = X at *
      generalize y * 2 ^ (eb - min ea eb).toNat = Y at *
      have hall : ∀ Z, Z ≤ X + Y → Fits lo (hi + 1) Z (min ea eb) := fun Z hZ => .inr ⟨by omega, by omega, by omega⟩
      split
      · exact hall _ (Nat.le_refl _)
      · split
        · exact hall _ (by show Y - X ≤ X + Y; omega)
        · exact hall _ (by show X - Y ≤ X + Y; omega)

theorem Fits.mul {lo hi lo' hi' : Int} {x y : Nat} {ea eb : Int} (h1 : Fits lo hi x ea) (h2 : Fits lo' hi' y eb) : Fits (lo + lo') (hi + hi') (x * y) (ea + eb) := by
  rcases h1 with rfl | ⟨a1, a2, a3⟩
  · left; simp
  · rcases h2 with rfl | ⟨b1, b2, b3⟩
    · left; simp
    · right
      refine ⟨by omega, by omega, ?_⟩
      rw [show (hi + hi' - (ea + eb)).toNat = (hi - ea).toNat + (hi' - eb).toNat by omega, Nat.pow_add]
      exact Nat.mul_lt_mul_of_lt_of_le a3 (Nat.le_of_lt b3) (Nat.two_pow_pos _)

theorem Fits.dlen {lo hi : Int} {x : Nat} {e : Int} (h : Fits lo hi x e) (hb : hi - lo ≤ 65536) : dlen x ≤ 2048 := by
  rcases h with rfl | ⟨h1, h2, h3⟩
  · rw [dlen_zero]; omega
  · refine (dlen_le _ _).2 (Nat.lt_of_lt_of_le h3 ?_)
    have hB : ∀ n, B ^ n = 2 ^ (32 * n) := fun n => by
      have : (B : Nat) = 2 ^ 32 := by decide
      rw [this, ← Nat.pow_mul]
    have hn : (hi - e).toNat ≤ 32 * 2048 := by omega
    generalize 2048 = n at *
    rw [hB]
    exact Nat.pow_le_pow_right (by omega) hn

/-- what fits may be -/
theorem Fits.ok {lo hi : Int} {s : Bool} {z : Nat} {e : Int} (h : Fits lo hi z e) (hb : hi - lo ≤ 65536) (h1 : -65536 ≤ lo) (h2 : hi ≤ 65536) : okR s z e = true := by
  unfold okR
  by_cases h0 : z = 0
  · rw [if_pos h0]
  · rw [if_neg h0]
    have hc := h.cn (s := s)
    have hd := hc.dlen hb
    unfold YtdfkpjagnndfdaaGreatDoor.cn at hc hd
    rw [if_neg h0] at hc hd
    have ho := (tz_spec z z (Nat.le_refl _) h0).2
    simp only at hc hd
    generalize z / 2 ^ tz z = x at *
    have hx0 : x ≠ 0 := by omega
    obtain ⟨c1, c2, c3⟩ := hc.resolve_left hx0
    unfold okN
    rw [if_neg (fun e => hx0 (dlen_eq_zero.1 e))]
    have e0 : dg x 0 % 2 = 1 := by
      unfold dg
      rw [Nat.pow_zero, Nat.div_one]
      unfold B
      omega
    have e1 := dg_top hx0
    simp only [Bool.and_eq_true, decide_eq_true_eq, bne_iff_ne, ne_eq, beq_iff_eq]
    exact ⟨⟨⟨⟨hd, e1⟩, e0⟩, by omega⟩, by omega⟩
end Go.Proofs.YtdfkpjagnndfdaaGreatDoor
/- Numbers in memory by their one form, and what Add, Sub, Mul make of them. -/
namespace Go.Proofs.YtdfkpjagnndfdaaGreatDoor
set_option linter.unusedVariables false
set_option linter.unusedSimpArgs false
open Go.RowKit

/-- A is, in memory, the number t: sign, digits, exponent -/
def PN (w : World) (A : Value) (t : Bool × Nat × Int) : Prop := ∃ ao cap, A = .agg #[.bool t.1, .slice ao (dlen t.2.1) cap, .int .i64 t.2.2] ∧ Is w (.slice ao (dlen t.2.1) cap) t.2.1
/-- t may be -/
def Ok (t : Bool × Nat × Int) : Prop := okN t.1 (dlen t.2.1) t.2.1 t.2.2 = true

theorem PN.later {w w' : World} {A : Value} {t : Bool × Nat × Int} (h : PN w A t) (hb : Below w.heap.size w w') : PN w' A t := by
  obtain ⟨ao, cap, h1, h2⟩ := h
  exact ⟨ao, cap, h1, h2.later hb⟩
theorem PN.shape {w : World} {A : Value} {t : Bool × Nat × Int} (h : PN w A t) : ∃ s ao n cap e, A = .agg #[.bool s, .slice ao n cap, .int .i64 e] := by
  obtain ⟨ao, cap, h1, -⟩ := h
  exact ⟨_, _, _, _, _, h1⟩
theorem Nrm.pn {w : World} {base : Nat} {A : Value} {s : Bool} {z : Nat} {e : Int} (h : Nrm w base A s z e) : PN w A (cn s z e) := by
  unfold cn
  rcases h with ⟨rfl, rfl⟩ | ⟨h0, v, rfl, ho⟩
  · rw [if_pos rfl]
    exact ⟨none, 0, by rw [dlen_zero]; rfl, by rw [dlen_zero]; exact is_nil w⟩
  · rw [if_neg h0]
    obtain ⟨ao, cap, rfl, h1, h2, h3⟩ := ho.is
    exact ⟨ao, cap, rfl, ao, cap, rfl, h1, h2, h3⟩
theorem ok_cn {s : Bool} {z : Nat} {e : Int} (h : okR s z e = true) : Ok (cn s z e) := by
  unfold Ok cn
  unfold okR at h
  by_cases h0 : z = 0
  · rw [if_pos h0, dlen_zero]; rfl
  · rw [if_neg h0] at h ⊢; exact h
/-- what may be is its own form -/
theorem Ok.facts {t : Bool × Nat × Int} (h : Ok t) : dlen t.2.1 ≤ 2048 ∧ -65536 ≤ t.2.2 ∧ t.2.2 ≤ 65536 ∧ (t.2.1 = 0 → t = (false, 0, 0)) ∧ (t.2.1 ≠ 0 → t.2.1 % 2 = 1) := by
  obtain ⟨s, x, e⟩ := t
  unfold Ok okN at h
  simp only at h ⊢
  by_cases h0 : x = 0
  · subst h0
    rw [dlen_zero, if_pos rfl] at h
    simp at h
    obtain ⟨rfl, rfl⟩ := h
    rw [dlen_zero]
    exact ⟨by omega, by omega, by omega, fun _ => rfl, fun h => absurd rfl h⟩
  · rw [if_neg (fun e => h0 (dlen_eq_zero.1 e))] at h
    simp only [Bool.and_eq_true, decide_eq_true_eq, bne_iff_ne, ne_eq, beq_iff_eq] at h
    obtain ⟨⟨⟨⟨h1, h2⟩, h3⟩, h4⟩, h5⟩ := h
    refine ⟨h1, h4, h5, fun h => absurd h h0, fun _ => ?_⟩
    unfold dg at h3
    rw [Nat.pow_zero, Nat.div_one] at h3
    unfold B at h3
    omega
theorem cn_ok {t : Bool × Nat × Int} (h : Ok t) : cn t.1 t.2.1 t.2.2 = t := by
  obtain ⟨-, -, -, h1, h2⟩ := h.facts
  unfold cn
  by_cases h0 : t.2.1 = 0
  · rw [if_pos h0]; exact (h1 h0).symm
  · rw [if_neg h0, tz_odd (h2 h0)]
    simp

/-- a call of two numbers that answers a number and no error -/
def Op2 (f : FuncId) (t1 t2 t3 : Bool × Nat × Int) : Prop := ∀ W X Y, Tab32 W → PN W X t1 → PN W Y t2 → Calls Tryz.prog f #[X, Y] W fun r w' => ∃ s ao n cap e, r = .returned (.tuple #[.agg #[.bool s, .slice ao n cap, .int .i64 e], .int .i64 0]) ∧ PN w' (.agg #[.bool s, .slice ao n cap, .int .i64 e]) t3 ∧ Below W.heap.size W w'

theorem held_pn {w : World} {s : Bool} {z : Nat} {e : Int} {r : Ending} {w' : World} (h : Held w s z e r w') (hok : okR s z e = true) :
    ∃ s' ao n cap e', r = .returned (.tuple #[.agg #[.bool s', .slice ao n cap, .int .i64 e'], .int .i64 0]) ∧ PN w' (.agg #[.bool s', .slice ao n cap, .int .i64 e']) (cn s z e) ∧ Below w.heap.size w w' := by
  obtain ⟨A, rfl, hN, hb⟩ := h
  rw [hok]
  have hp := hN.pn
  obtain ⟨s', ao, n, cap, e', rfl⟩ := hp.shape
  exact ⟨s', ao, n, cap, e', rfl, hp, hb⟩

theorem add_op {t1 t2 : Bool × Nat × Int} (h1 : Ok t1) (h2 : Ok t2) (hok : okR (sumN t1.1 t1.2.1 t1.2.2 t2.1 t2.2.1 t2.2.2).1 (sumN t1.1 t1.2.1 t1.2.2 t2.1 t2.2.1 t2.2.2).2.1 (sumN t1.1 t1.2.1 t1.2.2 t2.1 t2.2.1 t2.2.2).2.2 = true) :
    Op2 48 t1 t2 (cn (sumN t1.1 t1.2.1 t1.2.2 t2.1 t2.2.1 t2.2.2).1 (sumN t1.1 t1.2.1 t1.2.2 t2.1 t2.2.1 t2.2.2).2.1 (sumN t1.1 t1.2.1 t1.2.2 t2.1 t2.2.1 t2.2.2).2.2) := by
  intro W X Y hT hX hY
  obtain ⟨ua, uc, rfl, i1⟩ := hX
  obtain ⟨va, vc, rfl, i2⟩ := hY
  obtain ⟨a1, a2, a3, -, -⟩ := h1.facts
  obtain ⟨b1, b2, b3, -, -⟩ := h2.facts
  have hl := dlen_sumN t1.1 t1.2.1 t1.2.2 t2.1 t2.2.1 t2.2.2 (by omega) (by omega) (by omega) (by omega)
  refine (c34_1 t1.1 t2.1 ua va _ uc _ vc t1.2.1 t2.2.1 _ t1.2.2 t2.2.2 _ _ W (by omega) (fun W' g hW hg => ?_) (fun W' hW => c87 (i1.later hW) (i2.later hW) (by omega) (by omega) (by omega) (by omega) (hT.later hW))).mono fun r w' h => held_pn h hok
  have := maybe2 hg (i1.later hW) (i2.later hW) (by omega) (by omega)
  unfold Ok at h1 h2
  rw [h1, h2] at this
  exact this

theorem sub_op {t1 t2 : Bool × Nat × Int} (h1 : Ok t1) (h2 : Ok t2) (hok : okR (sumN t1.1 t1.2.1 t1.2.2 (!t2.1 && decide (0 < dlen t2.2.1)) t2.2.1 t2.2.2).1 (sumN t1.1 t1.2.1 t1.2.2 (!t2.1 && decide (0 < dlen t2.2.1)) t2.2.1 t2.2.2).2.1 (sumN t1.1 t1.2.1 t1.2.2 (!t2.1 && decide (0 < dlen t2.2.1)) t2.2.1 t2.2.2).2.2 = true) :
    Op2 70 t1 t2 (cn (sumN t1.1 t1.2.1 t1.2.2 (!t2.1 && decide (0 < dlen t2.2.1)) t2.2.1 t2.2.2).1 (sumN t1.1 t1.2.1 t1.2.2 (!t2.1 && decide (0 < dlen t2.2.1)) t2.2.1 t2.2.2).2.1 (sumN t1.1 t1.2.1 t1.2.2 (!t2.1 && decide (0 < dlen t2.2.1)) t2.2.1 t2.2.2).2.2) := by
  intro W X Y hT hX hY
  obtain ⟨ua, uc, rfl, i1⟩ := hX
  obtain ⟨va, vc, rfl, i2⟩ := hY
  obtain ⟨a1, a2, a3, -, -⟩ := h1.facts
  obtain ⟨b1, b2, b3, -, -⟩ := h2.facts
  exact (sub_ok i1 i2 (by omega) (by omega) (by omega) (by omega) h1 h2 hT).mono fun r w' h => held_pn h hok

end Go.Proofs.YtdfkpjagnndfdaaGreatDoor
/- The document's size, Valid, kept. -/
namespace Go.Proofs.YtdfkpjagnndfdaaGreatDoor
set_option linter.unusedVariables false
set_option linter.unusedSimpArgs false
open Go.RowKit Go.Fl64

end Go.Proofs.YtdfkpjagnndfdaaGreatDoor
/- The document's Valid, of all numbers. -/
namespace Go.Proofs.YtdfkpjagnndfdaaGreatDoor
set_option linter.unusedVariables false
set_option linter.unusedSimpArgs false
open Go.RowKit Go.Fl64

end Go.Proofs.YtdfkpjagnndfdaaGreatDoor
/- An argument that is the document's number, opened. -/
namespace Go.Proofs.YtdfkpjagnndfdaaGreatDoor
set_option linter.unusedVariables false
set_option linter.unusedSimpArgs false
open Go.ChangeShapes Go.WideShapes Go.ChangeAt Go.RowKit Go.Joins

end Go.Proofs.YtdfkpjagnndfdaaGreatDoor
