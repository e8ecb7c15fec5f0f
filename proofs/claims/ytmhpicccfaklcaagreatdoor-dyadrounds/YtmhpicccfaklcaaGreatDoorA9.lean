/- Own work: contracts of the program's functions, part 9: L5 W42 G3 W43 L7 RB1 RB2 RB3 R7. -/
import Derived.Test.YtmhpicccfaklcaaGreatDoorA8
import Derived.Test.YtmhpicccfaklcaaGreatDoorA7
import Derived.Deep.CutRange
import Derived.Test.YtmhpicccfaklcaaGreatDoorA6
import Derived.Test.YtmhpicccfaklcaaGreatDoorA5
import Derived.Test.YtmhpicccfaklcaaGreatDoorA2
import Derived.Test.YtmhpicccfaklcaaGreatDoorA3

/- DyadRing: the law's walk. -/
namespace Go.Proofs.YtmhpicccfaklcaaGreatDoor
set_option linter.unusedVariables false
set_option linter.unusedSimpArgs false
open Go.RowKit Go.Fl64

/-- what several gives leave -/
def Given (W wx : World) (n : Nat) (ng : Nat → Bool) (ln z : Nat → Nat) (e : Nat → Int) (g : Nat → Nat) (v : Nat → Value) : Prop :=
  Below W.heap.size W wx ∧ ∀ k, k < n → Dn wx W.heap.size (v k) (ln k) (z k) ∧ W.heap.size ≤ g k ∧ wx.heap[g k]? = some (.cells #[.bool (ng k), v k, .int .i64 (e k)] 25 (0, 0))
theorem ord_of {ops : Array Oper} (h : ((List.range ops.size).all fun i => match ops[i]? with | some o => o.after.all (fun e => decide (e.on < i)) | none => true) = true) (i : Nat) (o : Oper) (ho : ops[i]? = some o) : ∀ e ∈ o.after, e.on < i := by
  intro e he
  have hi : i < ops.size := (Array.getElem?_eq_some_iff.1 ho).1
  have h1 := List.all_eq_true.1 h i (List.mem_range.2 hi)
  simp only [ho] at h1
  exact of_decide_eq_true (Array.all_eq_true_iff_forall_mem.1 h1 e he)
/-- one of three -/
def pick3 {α : Type} (a b c : α) : Nat → α
  | 0 => a
  | 1 => b
  | _ => c
theorem lt3 {k : Nat} (h : k < 3) : k = 0 ∨ k = 1 ∨ k = 2 := by omega

/-- a number's box, and the number in it -/
def Bn (w : World) (g : Nat) (s : Bool) (ao : Option Addr) (n cap : Nat) (e : Int) (t : Bool × Nat × Int) : Prop :=
  w.heap[g]? = some (.cells #[.bool s, .slice ao n cap, .int .i64 e] 25 (0, 0)) ∧ PN w (.agg #[.bool s, .slice ao n cap, .int .i64 e]) t
theorem Bn.later {w w' : World} {g : Nat} {s : Bool} {ao : Option Addr} {n cap : Nat} {e : Int} {t : Bool × Nat × Int} (h : Bn w g s ao n cap e t) (hb : Below w.heap.size w w') : Bn w' g s ao n cap e t :=
  ⟨box_later h.1 hb (Array.getElem?_eq_some_iff.1 h.1).1, h.2.later hb⟩
theorem Bn.new {w : World} {s : Bool} {ao : Option Addr} {n cap : Nat} {e : Int} {t : Bool × Nat × Int} (h : PN w (.agg #[.bool s, .slice ao n cap, .int .i64 e]) t) : Bn (w.alloc (.cells #[.bool s, .slice ao n cap, .int .i64 e] 25)) w.heap.size s ao n cap e t :=
  ⟨heap_alloc_new _ _, h.later ((Below.refl _ _).alloc (Nat.le_refl _) _)⟩
/-- calls of numbers that answer true, or one whole number -/
def Is2 (f : FuncId) (t1 t2 : Bool × Nat × Int) : Prop := ∀ W X Y, PN W X t1 → PN W Y t2 → Calls Tryz.prog f #[X, Y] W fun r w' => r = .returned (.bool true) ∧ Below W.heap.size W w'
def Is1 (f : FuncId) (t1 : Bool × Nat × Int) (v : Value) : Prop := ∀ W X, PN W X t1 → Calls Tryz.prog f #[X] W fun r w' => r = .returned v ∧ Below W.heap.size W w'
/-- a number that the law goes on with -/
def Fine (ng : Bool) (n z : Nat) (e : Int) : Prop := okN ng n z e = true ∧ n ≤ 200 ∧ -5000 ≤ e ∧ e ≤ 5000

end Go.Proofs.YtmhpicccfaklcaaGreatDoor

/- Abs, Neg: of numbers that may be, and refused. -/
namespace Go.Proofs.YtmhpicccfaklcaaGreatDoor
set_option linter.unusedVariables false
set_option linter.unusedSimpArgs false
open Go.RowKit

set_option maxHeartbeats 4000000 in
set_option maxRecDepth 200000 in
theorem abs_no (na : Bool) (ua : Option Addr) (un uc : Nat) (ea : Int) (w : World)
    (k43 : ∀ W g, Below w.heap.size w W → W.heap[g]? = some (.cells #[.bool na, .slice ua un uc, .int .i64 ea] 25 (0, 0)) → Calls Tryz.prog 47 #[.slice (some ⟨g, 0, none⟩) 1 1] W fun r w' => r = .returned (.bool false) ∧ Below W.heap.size W w') :
    Calls Tryz.prog 15 #[.agg #[.bool na, .slice ua un uc, .int .i64 ea]] w fun r w' => r = .returned (.agg #[.bool false, .slice none 0 0, .int .i64 0]) ∧ Below w.heap.size w w' := by
  obtain ⟨W, hW⟩ : ∃ W, W = (w.alloc (.cells #[.bool na, .slice ua un uc, .int .i64 ea] 25)).alloc (.cells #[.bool false, .slice none 0 0, .int .i64 0] 25) := ⟨_, rfl⟩
  have hBW : Below w.heap.size w W := by rw [hW]; exact ((Below.refl _ _).alloc (Nat.le_refl _) _).alloc (by simp) _
  have hbB : W.heap[w.heap.size + 1]? = some (.cells #[.bool false, .slice none 0 0, .int .i64 0] 25 (0, 0)) := by
    have := heap_alloc_new (w.alloc (.cells #[.bool na, .slice ua un uc, .int .i64 ea] 25)) (.cells #[.bool false, .slice none 0 0, .int .i64 0] 25)
    rw [hW]; simpa using this
  have hsz : W.heap.size = w.heap.size + 1 + 1 := by rw [hW]; simp
  have k1 := k43 (W.alloc (.cells #[.bool na, .slice ua un uc, .int .i64 ea] 25)) (w.heap.size + 1 + 1) (hBW.alloc hBW.size _) (by rw [← hsz]; exact heap_alloc_new _ _)
  have HX : Hid (Below w.heap.size w W ∧ W.heap.size = w.heap.size + 1 + 1 ∧ W.heap[w.heap.size + 1]? = some (.cells #[.bool false, .slice none 0 0, .int .i64 0] 25 (0, 0))) := ⟨hBW, hsz, hbB⟩
  clear hBW hsz hbB k43
  go_enter Tryz.func15, Tryz.ntmps15
  go_wp2_with fail
  rw [← hW]
  clear hW
  refine k1.mono ?_
  rintro r w1 ⟨rfl, hb1⟩
  have HB1 : Hid (Below W.heap.size W w1) := ((Below.refl W.heap.size W).alloc (Nat.le_refl _) _).trans (hb1.mono (by simp))
  have HC : Hid (w1.heap[w.heap.size + 1]? = some (.cells #[.bool false, .slice none 0 0, .int .i64 0] 25 (0, 0))) := box_later HX.out.2.2 HB1.out (by have := HX.out.2.1; omega)
  obtain ⟨⟨x1, x2, x3⟩, x4, x5, x6⟩ := box_cells HC.out
  clear k1 hb1
  go_wp2
  refine bodyPost_ret (results_cell_row rfl _ _ (w.heap.size + 1) 25 #[.bool false, .slice none 0 0, .int .i64 0] (0, 0) _ rfl (store3 _ _ _ HC.out) Tryz.underlying25 rfl Tryz.info25) rfl ?_
  obtain ⟨q1, q2, -⟩ := HX.out
  exact ⟨rfl, below_store3 (q1.trans (HB1.out.mono q1.size)) (by omega) _ _ _⟩

set_option maxHeartbeats 4000000 in
set_option maxRecDepth 200000 in
theorem neg_no (na : Bool) (ua : Option Addr) (un uc : Nat) (ea : Int) (w : World)
    (k43 : ∀ W g, Below w.heap.size w W → W.heap[g]? = some (.cells #[.bool na, .slice ua un uc, .int .i64 ea] 25 (0, 0)) → Calls Tryz.prog 47 #[.slice (some ⟨g, 0, none⟩) 1 1] W fun r w' => r = .returned (.bool false) ∧ Below W.heap.size W w') :
    Calls Tryz.prog 13 #[.agg #[.bool na, .slice ua un uc, .int .i64 ea]] w fun r w' => r = .returned (.agg #[.bool false, .slice none 0 0, .int .i64 0]) ∧ Below w.heap.size w w' := by
  obtain ⟨W, hW⟩ : ∃ W, W = (w.alloc (.cells #[.bool na, .slice ua un uc, .int .i64 ea] 25)).alloc (.cells #[.bool false, .slice none 0 0, .int .i64 0] 25) := ⟨_, rfl⟩
  have hBW : Below w.heap.size w W := by rw [hW]; exact ((Below.refl _ _).alloc (Nat.le_refl _) _).alloc (by simp) _
  have hbB : W.heap[w.heap.size + 1]? = some (.cells #[.bool false, .slice none 0 0, .int .i64 0] 25 (0, 0)) := by
    have := heap_alloc_new (w.alloc (.cells #[.bool na, .slice ua un uc, .int .i64 ea] 25)) (.cells #[.bool false, .slice none 0 0, .int .i64 0] 25)
    rw [hW]; simpa using this
  have hsz : W.heap.size = w.heap.size + 1 + 1 := by rw [hW]; simp
  have k1 := k43 (W.alloc (.cells #[.bool na, .slice ua un uc, .int .i64 ea] 25)) (w.heap.size + 1 + 1) (hBW.alloc hBW.size _) (by rw [← hsz]; exact heap_alloc_new _ _)
  have HX : Hid (Below w.heap.size w W ∧ W.heap.size = w.heap.size + 1 + 1 ∧ W.heap[w.heap.size + 1]? = some (.cells #[.bool false, .slice none 0 0, .int .i64 0] 25 (0, 0))) := ⟨hBW, hsz, hbB⟩
  clear hBW hsz hbB k43
  go_enter Tryz.func13, Tryz.ntmps13
  go_wp2_with fail
  rw [← hW]
  clear hW
  refine k1.mono ?_
  rintro r w1 ⟨rfl, hb1⟩
  have HB1 : Hid (Below W.heap.size W w1) := ((Below.refl W.heap.size W).alloc (Nat.le_refl _) _).trans (hb1.mono (by simp))
  have HC : Hid (w1.heap[w.heap.size + 1]? = some (.cells #[.bool false, .slice none 0 0, .int .i64 0] 25 (0, 0))) := box_later HX.out.2.2 HB1.out (by have := HX.out.2.1; omega)
  obtain ⟨⟨x1, x2, x3⟩, x4, x5, x6⟩ := box_cells HC.out
  clear k1 hb1
  go_wp2
  refine bodyPost_ret (results_cell_row rfl _ _ (w.heap.size + 1) 25 #[.bool false, .slice none 0 0, .int .i64 0] (0, 0) _ rfl (store3 _ _ _ HC.out) Tryz.underlying25 rfl Tryz.info25) rfl ?_
  obtain ⟨q1, q2, -⟩ := HX.out
  exact ⟨rfl, below_store3 (q1.trans (HB1.out.mono q1.size)) (by omega) _ _ _⟩

set_option maxHeartbeats 4000000 in
set_option maxRecDepth 200000 in
theorem abs_1 (na : Bool) (ua : Option Addr) (un uc x : Nat) (ea : Int) (w : World) (h1 : Is w (.slice ua un uc) x) (hx : dlen x ≤ 1000000)
    (k43 : ∀ W g, Below w.heap.size w W → W.heap[g]? = some (.cells #[.bool na, .slice ua un uc, .int .i64 ea] 25 (0, 0)) → Calls Tryz.prog 47 #[.slice (some ⟨g, 0, none⟩) 1 1] W fun r w' => r = .returned (.bool true) ∧ Below W.heap.size W w') :
    Calls Tryz.prog 15 #[.agg #[.bool na, .slice ua un uc, .int .i64 ea]] w fun r w' => ∃ v, r = .returned (.agg #[.bool false, v, .int .i64 ea]) ∧ Own w' w.heap.size v x ∧ Below w.heap.size w w' := by
  obtain ⟨W, hW⟩ : ∃ W, W = (w.alloc (.cells #[.bool na, .slice ua un uc, .int .i64 ea] 25)).alloc (.cells #[.bool false, .slice none 0 0, .int .i64 0] 25) := ⟨_, rfl⟩
  have hBW : Below w.heap.size w W := by rw [hW]; exact ((Below.refl _ _).alloc (Nat.le_refl _) _).alloc (by simp) _
  have hbA : W.heap[w.heap.size]? = some (.cells #[.bool na, .slice ua un uc, .int .i64 ea] 25 (0, 0)) := by
    rw [hW, Below.heap_alloc _ _ _ (by simp)]; exact heap_alloc_new _ _
  have hbB : W.heap[w.heap.size + 1]? = some (.cells #[.bool false, .slice none 0 0, .int .i64 0] 25 (0, 0)) := by
    have := heap_alloc_new (w.alloc (.cells #[.bool na, .slice ua un uc, .int .i64 ea] 25)) (.cells #[.bool false, .slice none 0 0, .int .i64 0] 25)
    rw [hW]; simpa using this
  have hsz : W.heap.size = w.heap.size + 1 + 1 := by rw [hW]; simp
  have k1 := k43 (W.alloc (.cells #[.bool na, .slice ua un uc, .int .i64 ea] 25)) (w.heap.size + 1 + 1) (hBW.alloc hBW.size _) (by rw [← hsz]; exact heap_alloc_new _ _)
  have HX : Hid (Below w.heap.size w W ∧ W.heap.size = w.heap.size + 1 + 1 ∧ W.heap[w.heap.size]? = some (.cells #[.bool na, .slice ua un uc, .int .i64 ea] 25 (0, 0)) ∧ W.heap[w.heap.size + 1]? = some (.cells #[.bool false, .slice none 0 0, .int .i64 0] 25 (0, 0))) := ⟨hBW, hsz, hbA, hbB⟩
  have HI : Hid (Is w (.slice ua un uc) x ∧ dlen x ≤ 1000000) := ⟨h1, hx⟩
  clear hBW hsz hbA hbB k43 h1 hx
  go_enter Tryz.func15, Tryz.ntmps15
  go_wp2_with fail
  rw [← hW]
  clear hW
  refine k1.mono ?_
  rintro r w1 ⟨rfl, hb1⟩
  have HB1 : Hid (Below W.heap.size W w1) := ((Below.refl W.heap.size W).alloc (Nat.le_refl _) _).trans (hb1.mono (by simp))
  have H3 : Hid (w1.heap[w.heap.size]? = some (.cells #[.bool na, .slice ua un uc, .int .i64 ea] 25 (0, 0)) ∧ w1.heap[w.heap.size + 1]? = some (.cells #[.bool false, .slice none 0 0, .int .i64 0] 25 (0, 0)) ∧ w.heap.size + 1 + 1 ≤ w1.heap.size ∧ Below w.heap.size w w1) := ⟨box_later HX.out.2.2.1 HB1.out (by have := HX.out.2.1; omega), box_later HX.out.2.2.2 HB1.out (by have := HX.out.2.1; omega), by have := HB1.out.size; have := HX.out.2.1; omega, HX.out.1.trans (HB1.out.mono HX.out.1.size)⟩
  clear k1 hb1
  have HK : Hid (∀ w', Below (w.heap.size + 1) w1 w' → (w'.cell? ⟨w.heap.size, 0, none⟩ = some (.bool na) ∧ w'.cell? ⟨w.heap.size, 1, none⟩ = some (.slice ua un uc) ∧ w'.cell? ⟨w.heap.size, 2, none⟩ = some (.int .i64 ea))) := fun w' hb => (box_cells (box_later H3.out.1 hb (by omega))).1
  have kC : ∀ w4, Below w1.heap.size w1 w4 → Calls Tryz.prog 51 #[.slice ua un uc] w4 fun r w' => ∃ ao n cap, r = .returned (.slice ao n cap) ∧ Own w' w1.heap.size (.slice ao n cap) x ∧ Below w1.heap.size w1 w' := fun w4 hb =>
    (clone_ok ((HI.out.1.later H3.out.2.2.2).later hb) (by have := HI.out.2; omega)).mono fun r w' ⟨v, e1, o1, o2⟩ => by
      obtain ⟨ao, cap, rfl, -, -, -⟩ := o1.is
      exact ⟨_, _, _, e1, o1.mono hb.size, hb.trans (o2.mono hb.size)⟩
  have hBR : Below w1.heap.size w1 w1.drew := (Below.refl _ _).drew
  have hBR1 : Below (w.heap.size + 1) w1 w1.drew := (Below.refl _ _).drew
  have H1 : Hid (w.heap.size + 1 ≤ w1.heap.size) := (by have := H3.out.2.2.1; omega : w.heap.size + 1 ≤ w1.heap.size)
  go_upto_region 3 with fail
  go_region_held3 (fun w' => w'.cell? ⟨w.heap.size, 0, none⟩ = some (.bool na) ∧ w'.cell? ⟨w.heap.size, 1, none⟩ = some (.slice ua un uc) ∧ w'.cell? ⟨w.heap.size, 2, none⟩ = some (.int .i64 ea)) (first | (with_reducible assumption) | exact HK.out _ hBR1 | (refine HK.out _ (Below.mono ?_ H1.out); with_reducible assumption) | (refine HK.out _ (below_store3 (Below.mono hb5 H1.out) (Nat.le_refl _) _ _ _)) | go_keep)
    (first | (go_at_call 51; refine (kC _ (by first | (with_reducible assumption) | exact hBR)).mono ?_; rintro r w5 ⟨ao5, n5, cap5, rfl, ho5, hb5⟩; have hblk5 := box_later H3.out.2.1 hb5 (by have := H3.out.2.2.1; omega); obtain ⟨⟨x1, x2, x3⟩, x4, x5, x6⟩ := box_cells hblk5))
  have HF : Hid (Below w1.heap.size w1 w5 ∧ Own w5 w1.heap.size (.slice ao5 n5 cap5) x ∧ w5.heap[w.heap.size + 1]? = some (.cells #[.bool false, .slice none 0 0, .int .i64 0] 25 (0, 0))) := ⟨hb5, ho5, hblk5⟩
  clear ho5 hb5 hblk5 x1 x2 x3 x4 x5 x6 kC HK hBR hBR1
  go_wp2
  refine bodyPost_ret (results_cell_row rfl _ _ (w.heap.size + 1) 25 #[.bool false, .slice ao5 n5 cap5, .int .i64 ea] (0, 0) _ rfl (store3 _ _ _ HF.out.2.2) Tryz.underlying25 rfl Tryz.info25) rfl ?_
  obtain ⟨-, -, q2, q1⟩ := H3.out
  exact ⟨_, rfl, (own_store3 HF.out.2.1 (by omega) _ _ _).mono (by omega), below_store3 (q1.trans (HF.out.1.mono q1.size)) (by omega) _ _ _⟩

set_option maxHeartbeats 4000000 in
set_option maxRecDepth 200000 in
theorem negw_1 (na : Bool) (ua : Option Addr) (un uc x : Nat) (ea : Int) (nn : Bool) (w : World)
    (k43 : ∀ W g, Below w.heap.size w W → W.heap[g]? = some (.cells #[.bool na, .slice ua un uc, .int .i64 ea] 25 (0, 0)) → Calls Tryz.prog 47 #[.slice (some ⟨g, 0, none⟩) 1 1] W fun r w' => r = .returned (.bool true) ∧ Below W.heap.size W w')
    (kN : ∀ W, Below w.heap.size w W → Calls Tryz.prog 48 #[.agg #[.bool na, .slice ua un uc, .int .i64 ea]] W fun r w' => ∃ v, r = .returned (.agg #[.bool nn, v, .int .i64 ea]) ∧ Own w' W.heap.size v x ∧ Below W.heap.size W w') :
    Calls Tryz.prog 13 #[.agg #[.bool na, .slice ua un uc, .int .i64 ea]] w fun r w' => ∃ v, r = .returned (.agg #[.bool nn, v, .int .i64 ea]) ∧ Own w' w.heap.size v x ∧ Below w.heap.size w w' := by
  obtain ⟨W, hW⟩ : ∃ W, W = (w.alloc (.cells #[.bool na, .slice ua un uc, .int .i64 ea] 25)).alloc (.cells #[.bool false, .slice none 0 0, .int .i64 0] 25) := ⟨_, rfl⟩
  have hBW : Below w.heap.size w W := by rw [hW]; exact ((Below.refl _ _).alloc (Nat.le_refl _) _).alloc (by simp) _
  have hbA : W.heap[w.heap.size]? = some (.cells #[.bool na, .slice ua un uc, .int .i64 ea] 25 (0, 0)) := by
    rw [hW, Below.heap_alloc _ _ _ (by simp)]; exact heap_alloc_new _ _
  have hbB : W.heap[w.heap.size + 1]? = some (.cells #[.bool false, .slice none 0 0, .int .i64 0] 25 (0, 0)) := by
    have := heap_alloc_new (w.alloc (.cells #[.bool na, .slice ua un uc, .int .i64 ea] 25)) (.cells #[.bool false, .slice none 0 0, .int .i64 0] 25)
    rw [hW]; simpa using this
  have hsz : W.heap.size = w.heap.size + 1 + 1 := by rw [hW]; simp
  have k1 := k43 (W.alloc (.cells #[.bool na, .slice ua un uc, .int .i64 ea] 25)) (w.heap.size + 1 + 1) (hBW.alloc hBW.size _) (by rw [← hsz]; exact heap_alloc_new _ _)
  have HX : Hid (Below w.heap.size w W ∧ W.heap.size = w.heap.size + 1 + 1 ∧ W.heap[w.heap.size]? = some (.cells #[.bool na, .slice ua un uc, .int .i64 ea] 25 (0, 0)) ∧ W.heap[w.heap.size + 1]? = some (.cells #[.bool false, .slice none 0 0, .int .i64 0] 25 (0, 0))) := ⟨hBW, hsz, hbA, hbB⟩
  have HKN : Hid (∀ W, Below w.heap.size w W → Calls Tryz.prog 48 #[.agg #[.bool na, .slice ua un uc, .int .i64 ea]] W fun r w' => ∃ v, r = .returned (.agg #[.bool nn, v, .int .i64 ea]) ∧ Own w' W.heap.size v x ∧ Below W.heap.size W w') := kN
  clear hBW hsz hbA hbB k43 kN
  go_enter Tryz.func13, Tryz.ntmps13
  go_wp2_with fail
  rw [← hW]
  clear hW
  refine k1.mono ?_
  rintro r w1 ⟨rfl, hb1⟩
  have HB1 : Hid (Below W.heap.size W w1) := ((Below.refl W.heap.size W).alloc (Nat.le_refl _) _).trans (hb1.mono (by simp))
  have HW1 : Hid (Below w.heap.size w w1) := HX.out.1.trans (HB1.out.mono HX.out.1.size)
  obtain ⟨⟨a0, a1, a2⟩, -⟩ := box_cells (box_later HX.out.2.2.1 HB1.out (by have := HX.out.2.1; omega))
  have k2 := HKN.out w1 HW1.out
  clear k1 hb1
  go_wp2_with fail
  refine k2.mono ?_
  rintro r w2 ⟨v, rfl, ho, hb2⟩
  obtain ⟨ao, cap, rfl, -, -, -⟩ := ho.is
  generalize dlen x = n2 at *
  have HC : Hid (w2.heap[w.heap.size + 1]? = some (.cells #[.bool false, .slice none 0 0, .int .i64 0] 25 (0, 0))) := box_later HX.out.2.2.2 (HB1.out.trans (hb2.mono HB1.out.size)) (by have := HX.out.2.1; omega)
  have HF : Hid (Own w2 w1.heap.size (.slice ao n2 cap) x ∧ Below w.heap.size w w2 ∧ w.heap.size + 1 < w1.heap.size) := ⟨ho, HW1.out.trans (hb2.mono HW1.out.size), by have := HB1.out.size; have := HX.out.2.1; omega⟩
  obtain ⟨⟨x1, x2, x3⟩, x4, x5, x6⟩ := box_cells HC.out
  clear k2 ho hb2 a0 a1 a2
  go_wp2
  refine bodyPost_ret (results_cell_row rfl _ _ (w.heap.size + 1) 25 #[.bool nn, .slice ao n2 cap, .int .i64 ea] (0, 0) _ rfl (store3 _ _ _ HC.out) Tryz.underlying25 rfl Tryz.info25) rfl ?_
  exact ⟨_, rfl, (own_store3 HF.out.1 HF.out.2.2 _ _ _).mono (by have := HF.out.2.2; omega), below_store3 HF.out.2.1 (by omega) _ _ _⟩

theorem abs_ok {na : Bool} {ua : Option Addr} {uc x : Nat} {ea : Int} {w : World} (h1 : Is w (.slice ua (dlen x) uc) x) (hx : dlen x ≤ 1000000) (hoka : okN na (dlen x) x ea = true) :
    Calls Tryz.prog 15 #[.agg #[.bool na, .slice ua (dlen x) uc, .int .i64 ea]] w fun r w' => ∃ v, r = .returned (.agg #[.bool false, v, .int .i64 ea]) ∧ Own w' w.heap.size v x ∧ Below w.heap.size w w' :=
  abs_1 na ua _ uc x ea w h1 hx (fun W g hW hg => by
    have := maybe1 hg (h1.later hW) (by omega)
    rw [hoka] at this
    exact this)
theorem negw_ok {na : Bool} {ua : Option Addr} {uc x : Nat} {ea : Int} {w : World} (h1 : Is w (.slice ua (dlen x) uc) x) (hx : dlen x ≤ 1000000) (hoka : okN na (dlen x) x ea = true) :
    Calls Tryz.prog 13 #[.agg #[.bool na, .slice ua (dlen x) uc, .int .i64 ea]] w fun r w' => ∃ v, r = .returned (.agg #[.bool (!na && decide (0 < dlen x)), v, .int .i64 ea]) ∧ Own w' w.heap.size v x ∧ Below w.heap.size w w' :=
  negw_1 na ua _ uc x ea _ w (fun W g hW hg => by
    have := maybe1 hg (h1.later hW) (by omega)
    rw [hoka] at this
    exact this) (fun W hW => neg_ok (h1.later hW) (by omega))
end Go.Proofs.YtmhpicccfaklcaaGreatDoor

/- Several numbers given at once, without their signs: x, y := Abs(give(a)), Abs(give(b)). -/
namespace Go.Proofs.YtmhpicccfaklcaaGreatDoor
set_option linter.unusedVariables false
set_option linter.unusedSimpArgs false
open Go.RowKit

theorem own_row_ty {w : World} {base x : Nat} {v : Value} (h : Own w base v x) {g : Nat} {cs : Array Value} {t : TypeId} {fr : Nat × Nat} (hg : w.heap[g]? = some (.cells cs t fr)) (ht : t ≠ 65) (cs' : Array Value) : Own (w.setRow g cs') base v x := by
  rcases h with h | ⟨g', cap, f, h0, h1, h2, h3, h4, h5⟩
  · exact .inl h
  · have h4' := h4
    obtain ⟨c, hc, hn, hf⟩ := h4'
    refine .inr ⟨g', cap, f, h0, h1, h2, h3, h4.of_block (setRow_other w g g' cs' ?_), h5⟩
    intro e
    subst e
    rw [hc] at hg
    simp only [Option.some.injEq, Obj.cells.injEq] at hg
    exact ht hg.2.1.symm

/-- the slot of value number j: a load, a give, an Abs -/
def aslot (ld gv ab : Nat → Tmp) (j : Nat) : Tmp := if j % 3 = 0 then ld (j / 3) else if j % 3 = 1 then gv (j / 3) else ab (j / 3)
def aval (W0 : World) (ng : Nat → Bool) (ao : Nat → Option Addr) (ln cp z : Nat → Nat) (e : Nat → Int) (j : Nat) (w : World) (u : Value) : Prop :=
  if j % 3 = 0 then u = .agg #[.bool (ng (j / 3)), .slice (ao (j / 3)) (ln (j / 3)) (cp (j / 3)), .int .i64 (e (j / 3))]
  else if j % 3 = 1 then ∃ v, u = .agg #[.bool (ng (j / 3)), v, .int .i64 (e (j / 3))] ∧ Dn w W0.heap.size v (ln (j / 3)) (z (j / 3))
  else ∃ v, u = .agg #[.bool false, v, .int .i64 (e (j / 3))] ∧ Own w W0.heap.size v (z (j / 3))

theorem abs_region {ops : Array Oper} {Q : Exit → Act → World → Prop} {id : Nat} (n : Nat) (src ld gv ab bx : Nat → Tmp) (gs : Nat → Nat) (ng : Nat → Bool) (ao : Nat → Option Addr) (ln cp z : Nat → Nat) (e : Nat → Int) (W0 : World) (a0 : Act)
    (hsz : ops.size = 3 * n + n + n) (hord : ∀ (i : Nat) (o : Oper), ops[i]? = some o → ∀ e ∈ o.after, e.on < i)
    (hsrc : ∀ k, k < n → a0.tmps[src k]? = some (.pointer (some ⟨gs k, 0, none⟩)) ∧ W0.heap[gs k]? = some (.cells #[.bool (ng k), .slice (ao k) (ln k) (cp k), .int .i64 (e k)] 24 (0, 0)) ∧ Arg W0 (ao k) (ln k) (cp k) (z k) ∧ dlen (z k) = ln k ∧ okN (ng k) (ln k) (z k) (e k) = true ∧ ln k ≤ 1000000)
    (hfree : ∀ k, k < n → (∀ j, j < 3 * n → src k ≠ aslot ld gv ab j) ∧ ∀ j, j < n → src k ≠ bx j)
    (hld : ∀ k, k < n → ∃ o, ops[3 * k]? = some o ∧ o.guard = none ∧ o.op = .load 24 (.tmp (src k)) ∧ o.dst = some (ld k))
    (hgv : ∀ k, k < n → ∃ o, ops[3 * k + 1]? = some o ∧ o.guard = none ∧ (∃ ts, o.op = .call { callee := .value (.func 9), args := #[.tmp (ld k)], argTypes := ts }) ∧ o.dst = some (gv k) ∧ ∃ e ∈ o.after, e.on = 3 * k ∧ Region.binds .any e = true)
    (hab : ∀ k, k < n → ∃ o, ops[3 * k + 2]? = some o ∧ o.guard = none ∧ (∃ ts, o.op = .call { callee := .value (.func 15), args := #[.tmp (gv k)], argTypes := ts }) ∧ o.dst = some (ab k) ∧ ∃ e ∈ o.after, e.on = 3 * k + 1 ∧ Region.binds .any e = true)
    (hal : ∀ k, k < n → ∃ o, ops[3 * n + k]? = some o ∧ o.guard = none ∧ o.op = .alloc 25 ∧ o.dst = some (bx k))
    (hst : ∀ k, k < n → ∃ o, ops[3 * n + n + k]? = some o ∧ o.guard = none ∧ o.op = .store 25 (.tmp (bx k)) (.tmp (ab k)) ∧ o.dst = none ∧ (∃ e ∈ o.after, e.on = 3 * n + k ∧ Region.binds .any e = true) ∧ (∃ e ∈ o.after, e.on = 3 * k + 2 ∧ Region.binds .any e = true))
    (hin : ∀ j, j < 3 * n → aslot ld gv ab j < a0.tmps.size) (hbin : ∀ k, k < n → bx k < a0.tmps.size)
    (hinj : ∀ j, j < 3 * n → ∀ j', j' < 3 * n → aslot ld gv ab j = aslot ld gv ab j' → j = j') (hbinj : ∀ k, k < n → ∀ k', k' < n → bx k = bx k' → k = k') (hsb : ∀ j, j < 3 * n → ∀ k, k < n → aslot ld gv ab j ≠ bx k)
    (hQ : ∀ (u v : Nat → Value) (g : Nat → Nat) (w : World), Below W0.heap.size W0 w → (∀ k, k < n → Own w W0.heap.size (v k) (z k) ∧ W0.heap.size ≤ g k ∧ w.heap[g k]? = some (.cells #[.bool false, v k, .int .i64 (e k)] 25 (0, 0))) →
      Q .normal (putL a0 ((List.range (3 * n)).map (fun j => (aslot ld gv ab j, u j)) ++ (List.range n).map (fun k => (bx k, .pointer (some ⟨g k, 0, none⟩))))) w) :
    (Code.region id ops true).wp Tryz.prog Q a0 W0 := by
  have sl0 : ∀ k, aslot ld gv ab (3 * k) = ld k := fun k => by unfold aslot; rw [if_pos (by omega), show 3 * k / 3 = k by omega]
  have sl1 : ∀ k, aslot ld gv ab (3 * k + 1) = gv k := fun k => by unfold aslot; rw [if_neg (by omega), if_pos (by omega), show (3 * k + 1) / 3 = k by omega]
  have sl2 : ∀ k, aslot ld gv ab (3 * k + 2) = ab k := fun k => by unfold aslot; rw [if_neg (by omega), if_neg (by omega), show (3 * k + 2) / 3 = k by omega]
  have va0 : ∀ k w u, aval W0 ng ao ln cp z e (3 * k) w u = (u = .agg #[.bool (ng k), .slice (ao k) (ln k) (cp k), .int .i64 (e k)]) := fun k w u => by unfold aval; rw [if_pos (by omega), show 3 * k / 3 = k by omega]
  have va1 : ∀ k w u, aval W0 ng ao ln cp z e (3 * k + 1) w u = ∃ v, u = .agg #[.bool (ng k), v, .int .i64 (e k)] ∧ Dn w W0.heap.size v (ln k) (z k) := fun k w u => by unfold aval; rw [if_neg (by omega), if_pos (by omega), show (3 * k + 1) / 3 = k by omega]
  have va2 : ∀ k w u, aval W0 ng ao ln cp z e (3 * k + 2) w u = ∃ v, u = .agg #[.bool false, v, .int .i64 (e k)] ∧ Own w W0.heap.size v (z k) := fun k w u => by unfold aval; rw [if_neg (by omega), if_neg (by omega), show (3 * k + 2) / 3 = k by omega]
  have hthree : ∀ j, ∃ k, j = 3 * k ∨ j = 3 * k + 1 ∨ j = 3 * k + 2 := fun j => ⟨j / 3, by omega⟩
  refine par_region follows_mixed (3 * n) n (aslot ld gv ab) bx (fun k => 3 * k + 2) (fun j => if j % 3 = 0 then [] else [j - 1]) 25 #[.bool false, .slice none 0 0, .int .i64 0] W0 a0 (aval W0 ng ao ln cp z e) hsz hord ?_ ?_ ?_ ?_ ?_ hal zero_num Tryz.info25 ?_ hin hbin (fun j j' hj hj' h => hinj j hj j' hj' h) (fun k k' hk hk' h => hbinj k hk k' hk' h) (fun j k hj hk => hsb j hj k hk) ?_
  · intro j w w' u hb h
    obtain ⟨k, rfl | rfl | rfl⟩ := hthree j
    · rw [va0] at h ⊢; exact h
    · rw [va1] at h ⊢
      obtain ⟨v, rfl, hd⟩ := h
      exact ⟨v, rfl, hd.later hb⟩
    · rw [va2] at h ⊢
      obtain ⟨v, rfl, hd⟩ := h
      exact ⟨v, rfl, hd.later hb⟩
  · intro j w u g cs cs' hg h
    obtain ⟨k, rfl | rfl | rfl⟩ := hthree j
    · rw [va0] at h ⊢; exact h
    · rw [va1] at h ⊢
      obtain ⟨v, rfl, hd⟩ := h
      exact ⟨v, rfl, hd.row hg (by decide) cs'⟩
    · rw [va2] at h ⊢
      obtain ⟨v, rfl, hd⟩ := h
      exact ⟨v, rfl, own_row_ty hd hg (by decide) cs'⟩
  · intro k hk w u h
    rw [va2] at h
    obtain ⟨v, rfl, hd⟩ := h
    obtain ⟨ao', cap', rfl, -, -, -⟩ := hd.is
    exact ⟨_, rfl, rfl, one3 rfl rfl⟩
  · intro j hj j' hj'
    obtain ⟨k, rfl | rfl | rfl⟩ := hthree j
    · rw [if_pos (by omega)] at hj'; cases hj'
    · rw [if_neg (by omega)] at hj'
      obtain rfl : j' = 3 * k + 1 - 1 := by simpa using hj'
      refine ⟨by omega, fun o ho => ?_⟩
      obtain ⟨o', ho', -, -, -, e, he, h1, h2⟩ := hgv k (by omega)
      obtain rfl : o' = o := Option.some.inj (ho'.symm.trans ho)
      exact ⟨e, he, by omega, h2⟩
    · rw [if_neg (by omega)] at hj'
      obtain rfl : j' = 3 * k + 2 - 1 := by simpa using hj'
      refine ⟨by omega, fun o ho => ?_⟩
      obtain ⟨o', ho', -, -, -, e, he, h1, h2⟩ := hab k (by omega)
      obtain rfl : o' = o := Option.some.inj (ho'.symm.trans ho)
      exact ⟨e, he, by omega, h2⟩
  · intro j hj a w hb hoth hdep
    obtain ⟨k, rfl | rfl | rfl⟩ := hthree j
    · obtain ⟨o, ho, hg, hop, hd⟩ := hld k (by omega)
      obtain ⟨s1, s2, s3⟩ := hsrc k (by omega)
      obtain ⟨f1, f2⟩ := hfree k (by omega)
      refine step_load ho hg hop (by rw [hoth _ f1 f2]; exact s1) ((hb.block _ (Array.getElem?_eq_some_iff.1 s2).1).trans s2) Tryz.underlying24 rfl Tryz.info24 ?_
      exact ⟨_, by rw [hd, sl0], by rw [va0], Below.refl _ _⟩
    · obtain ⟨o, ho, hg, ⟨ts, hop⟩, hd, -⟩ := hgv k (by omega)
      obtain ⟨s1, s2, s3, -⟩ := hsrc k (by omega)
      obtain ⟨u, hu, hv⟩ := hdep (3 * k + 1 - 1) (by rw [if_neg (by omega)]; simp)
      rw [show 3 * k + 1 - 1 = 3 * k by omega] at hu hv
      rw [va0] at hv
      subst hv
      rw [sl0] at hu
      refine step_call ho hg hop (enters Tryz.func9 (by kernel_rfl) (by kernel_rfl)) (vs := #[_]) (by simp only [List.map_toArray, List.map_cons, List.map_nil]; rw [eval_get hu]) ?_
      refine (give_ok (s3.later hb)).mono ?_
      rintro r w' ⟨v, rfl, hd', hb'⟩
      refine ⟨_, rfl, _, by rw [hd, sl1], ?_, hb'⟩
      rw [va1]
      exact ⟨v, rfl, hd'.mono hb.size⟩
    · obtain ⟨o, ho, hg, ⟨ts, hop⟩, hd, -⟩ := hab k (by omega)
      obtain ⟨s1, s2, s3, s4, s5, s6⟩ := hsrc k (by omega)
      obtain ⟨u, hu, hv⟩ := hdep (3 * k + 2 - 1) (by rw [if_neg (by omega)]; simp)
      rw [show 3 * k + 2 - 1 = 3 * k + 1 by omega] at hu hv
      rw [va1] at hv
      obtain ⟨v, rfl, hv⟩ := hv
      rw [sl1] at hu
      refine step_call ho hg hop (enters Tryz.func15 (by kernel_rfl) (by kernel_rfl)) (vs := #[_]) (by simp only [List.map_toArray, List.map_cons, List.map_nil]; rw [eval_get hu]) ?_
      rw [← s4] at hv
      have hI : ∃ ua uc, v = .slice ua (dlen (z k)) uc ∧ Is w (.slice ua (dlen (z k)) uc) (z k) := by
        rcases hv with ⟨rfl, h0⟩ | ⟨g, cap, c, rfl, h1, h2, h3, h4, h5⟩
        · have h0' := dlen_eq_zero.1 h0
          exact ⟨none, 0, by rw [h0], none, 0, rfl, by omega, by omega, 0, 0, fun h => by omega, fun i hi => by omega⟩
        · exact ⟨_, cap, rfl, _, cap, rfl, h2.1, h2.2, g, 0, fun _ => rfl, fun i hi => by rw [Nat.zero_add]; simp [World.cell?, h3, h5 i hi]⟩
      obtain ⟨ua, uc, rfl, hI⟩ := hI
      rw [← s4] at s5 s6
      refine (abs_ok hI s6 s5).mono ?_
      rintro r w' ⟨v', rfl, hd', hb'⟩
      refine ⟨_, rfl, _, by rw [hd, sl2], ?_, hb'⟩
      rw [va2]
      exact ⟨v', rfl, hd'.mono hb.size⟩
  · intro k hk
    obtain ⟨o, h1, h2, h3, h4, h5, h6⟩ := hst k hk
    exact ⟨by omega, o, h1, h2, by rw [h3, sl2], h4, h5, h6⟩
  · intro u g a w hb hu hg hs hd hoth
    have hv : ∀ k, ∃ v, k < n → Own w W0.heap.size v (z k) ∧ W0.heap.size ≤ g k ∧ w.heap[g k]? = some (.cells #[.bool false, v, .int .i64 (e k)] 25 (0, 0)) := fun k => by
      by_cases hk : k < n
      · have h1 := (hu (3 * k + 2) (by omega)).2
        obtain ⟨h2, h3, cs, h4, h5⟩ := hg k hk
        rw [va2] at h1
        obtain ⟨v, h6, h7⟩ := h1
        rw [h6] at h4
        simp only [Value.agg.injEq] at h4
        subst h4
        exact ⟨v, fun _ => ⟨h7, h3, h5⟩⟩
      · exact ⟨undef, fun h => absurd h hk⟩
    obtain ⟨v, hv⟩ := Classical.axiomOfChoice hv
    have ha : a = putL a0 ((List.range (3 * n)).map (fun j => (aslot ld gv ab j, u j)) ++ (List.range n).map (fun k => (bx k, .pointer (some ⟨g k, 0, none⟩)))) := by
      have hkeys : ((List.range (3 * n)).map (fun j => (aslot ld gv ab j, u j)) ++ (List.range n).map (fun k => (bx k, Value.pointer (some ⟨g k, 0, none⟩)))).map (·.1) = (List.range (3 * n)).map (aslot ld gv ab) ++ (List.range n).map bx := by
        simp [Function.comp_def]
      refine act_putL ?_ hs hd ?_ ?_
      · rw [hkeys, List.nodup_append]
        refine ⟨?_, ?_, ?_⟩
        · refine List.pairwise_map.2 ((List.nodup_range (n := 3 * n)).imp_of_mem ?_)
          intro x y hx hy hne he
          exact hne (hinj x (List.mem_range.1 hx) y (List.mem_range.1 hy) he)
        · refine List.pairwise_map.2 ((List.nodup_range (n := n)).imp_of_mem ?_)
          intro x y hx hy hne he
          exact hne (hbinj x (List.mem_range.1 hx) y (List.mem_range.1 hy) he)
        · intro x hx y hy
          obtain ⟨j, hj, rfl⟩ := List.mem_map.1 hx
          obtain ⟨k, hk, rfl⟩ := List.mem_map.1 hy
          exact hsb j (List.mem_range.1 hj) k (List.mem_range.1 hk)
      · intro p hp
        rcases List.mem_append.1 hp with h | h
        · obtain ⟨j, hj, rfl⟩ := List.mem_map.1 h
          exact (hu j (List.mem_range.1 hj)).1
        · obtain ⟨k, hk, rfl⟩ := List.mem_map.1 h
          exact (hg k (List.mem_range.1 hk)).1
      · intro s hsn
        rw [hkeys] at hsn
        refine hoth s (fun j hj he => hsn ?_) (fun k hk he => hsn ?_)
        · exact List.mem_append_left _ (List.mem_map.2 ⟨j, List.mem_range.2 hj, he.symm⟩)
        · exact List.mem_append_right _ (List.mem_map.2 ⟨k, List.mem_range.2 hk, he.symm⟩)
    rw [ha]
    exact hQ u v g w hb hv
end Go.Proofs.YtmhpicccfaklcaaGreatDoor

/- Root, of numbers that may be and are not below nought. -/
namespace Go.Proofs.YtmhpicccfaklcaaGreatDoor
set_option linter.unusedVariables false
set_option linter.unusedSimpArgs false
open Go.RowKit

set_option maxHeartbeats 4000000 in
set_option maxRecDepth 200000 in
theorem c29_1 (ua : Option Addr) (un uc Q : Nat) (ea place : Int) (bb : Bool) (w : World) (hT : Tab32 w) (hQ : dlen Q ≤ 900000) (hp : -65536 ≤ place ∧ place ≤ 65536)
    (k43 : ∀ W g, Below w.heap.size w W → W.heap[g]? = some (.cells #[.bool false, .slice ua un uc, .int .i64 ea] 25 (0, 0)) → Calls Tryz.prog 47 #[.slice (some ⟨g, 0, none⟩) 1 1] W fun r w' => r = .returned (.bool true) ∧ Below W.heap.size W w')
    (kR : ∀ W, Below w.heap.size w W → Calls Tryz.prog 85 #[.agg #[.bool false, .slice ua un uc, .int .i64 ea], .int .i64 place] W fun r w' => ∃ v m, r = .returned (.tuple #[v, .bool (bb && decide (m * m = Q))]) ∧ Own w' W.heap.size v m ∧ m * m ≤ Q ∧ Q < (m + 1) * (m + 1) ∧ Below W.heap.size W w') :
    Calls Tryz.prog 34 #[.agg #[.bool false, .slice ua un uc, .int .i64 ea], .int .i64 place] w fun r w' => ∃ m, (m * m ≤ Q ∧ Q < (m + 1) * (m + 1)) ∧ Held3 w false m (-place) (bb && decide (m * m = Q)) r w' := by
  obtain ⟨W, hW⟩ : ∃ W, W = (w.alloc (.cells #[.bool false, .slice ua un uc, .int .i64 ea] 25)).alloc (.cells #[.bool false, .slice none 0 0, .int .i64 0] 25) := ⟨_, rfl⟩
  have hBW : Below w.heap.size w W := by rw [hW]; exact ((Below.refl _ _).alloc (Nat.le_refl _) _).alloc (by simp) _
  have hbA : W.heap[w.heap.size]? = some (.cells #[.bool false, .slice ua un uc, .int .i64 ea] 25 (0, 0)) := by
    rw [hW, Below.heap_alloc _ _ _ (by simp)]; exact heap_alloc_new _ _
  have hbB : W.heap[w.heap.size + 1]? = some (.cells #[.bool false, .slice none 0 0, .int .i64 0] 25 (0, 0)) := by
    have := heap_alloc_new (w.alloc (.cells #[.bool false, .slice ua un uc, .int .i64 ea] 25)) (.cells #[.bool false, .slice none 0 0, .int .i64 0] 25)
    rw [hW]; simpa using this
  have hsz : W.heap.size = w.heap.size + 1 + 1 := by rw [hW]; simp
  have k1 := k43 (W.alloc (.cells #[.bool false, .slice ua un uc, .int .i64 ea] 25)) (w.heap.size + 1 + 1) (hBW.alloc hBW.size _) (by rw [← hsz]; exact heap_alloc_new _ _)
  have HX : Hid (Below w.heap.size w W ∧ W.heap.size = w.heap.size + 1 + 1 ∧ W.heap[w.heap.size]? = some (.cells #[.bool false, .slice ua un uc, .int .i64 ea] 25 (0, 0)) ∧ W.heap[w.heap.size + 1]? = some (.cells #[.bool false, .slice none 0 0, .int .i64 0] 25 (0, 0))) := ⟨hBW, hsz, hbA, hbB⟩
  have HKR : Hid (∀ W, Below w.heap.size w W → Calls Tryz.prog 85 #[.agg #[.bool false, .slice ua un uc, .int .i64 ea], .int .i64 place] W fun r w' => ∃ v m, r = .returned (.tuple #[v, .bool (bb && decide (m * m = Q))]) ∧ Own w' W.heap.size v m ∧ m * m ≤ Q ∧ Q < (m + 1) * (m + 1) ∧ Below W.heap.size W w') := kR
  have HT : Hid (Tab32 w ∧ dlen Q ≤ 900000 ∧ -65536 ≤ place ∧ place ≤ 65536) := ⟨hT, hQ, hp⟩
  have k94 := c94 place
  clear hBW hsz hbA hbB k43 kR hT hQ
  go_enter Tryz.func34, Tryz.ntmps34
  go_wp2_with fail
  rw [← hW]
  clear hW
  refine k1.mono ?_
  rintro r w1 ⟨rfl, hb1⟩
  have HB1 : Hid (Below W.heap.size W w1) := ((Below.refl W.heap.size W).alloc (Nat.le_refl _) _).trans (hb1.mono (by simp))
  have HW1 : Hid (Below w.heap.size w w1) := HX.out.1.trans (HB1.out.mono HX.out.1.size)
  obtain ⟨⟨a0, a1, a2⟩, -⟩ := box_cells (box_later HX.out.2.2.1 HB1.out (by have := HX.out.2.1; omega))
  clear k1 hb1
  go_wp2_with fail
  refine (k94 w1 hp).mono ?_
  rintro r w1' ⟨rfl, hw⟩
  replace hw := hw.symm
  subst hw
  clear k94
  have k2 := HKR.out w1 HW1.out
  go_wp2_with fail
  refine k2.mono ?_
  rintro r w2 ⟨v, m, rfl, ho, hm1, hm2, hb2⟩
  have HB2 : Hid (Below W.heap.size W w2) := HB1.out.trans (hb2.mono HB1.out.size)
  have HW2 : Hid (Below w.heap.size w w2 ∧ m * m ≤ Q ∧ Q < (m + 1) * (m + 1) ∧ Own w2 w1.heap.size v m) := ⟨HW1.out.trans (hb2.mono HW1.out.size), hm1, hm2, ho⟩
  have hml : dlen m ≤ 900000 := by
    have : m ≤ Q := Nat.le_trans (Nat.le_mul_self m) hm1
    exact Nat.le_trans (dlen_mono this) HT.out.2.1
  obtain ⟨b', hb'⟩ : ∃ b', b' = (bb && decide (m * m = Q)) := ⟨_, rfl⟩
  have k96 := c96 (neg := false) (exact := b') (place := place) (HT.out.1.later HW2.out.1) ho.is hml (by omega) (by omega)
  rw [← hb']
  have HBB : Hid (b' = (bb && decide (m * m = Q))) := hb'
  obtain ⟨ao, cap, rfl, -, -, -⟩ := ho.is
  generalize dlen m = nm at *
  clear k2 ho hm1 hm2 hb2 a0 a1 a2 hml hb'
  simp only [Bool.false_and, if_false, Bool.false_eq_true] at k96
  go_wp2_with fail
  refine k96.mono ?_
  clear k96
  rintro r w4 ⟨A, rfl, hN, hB4⟩
  have HB4 : Hid (Below W.heap.size W w4) := HB2.out.trans (hB4.mono HB2.out.size)
  have HN4 : Hid (Nrm w4 W.heap.size A false m (-place)) := hN.mono HB2.out.size
  have HC4 : Hid (w4.heap[w.heap.size + 1]? = some (.cells #[.bool false, .slice none 0 0, .int .i64 0] 25 (0, 0))) := box_later HX.out.2.2.2 HB4.out (by have := HX.out.2.1; omega)
  obtain ⟨⟨x1, x2, x3⟩, x4, x5, x6⟩ := box_cells HC4.out
  obtain ⟨s', ao, n, cap, ex, hsh⟩ := HN4.out.shape
  clear hN hB4
  have HF : Hid (∀ p q r, Nrm (((w4.setCell ⟨w.heap.size + 1, 0, none⟩ p).setCell ⟨w.heap.size + 1, 1, none⟩ q).setCell ⟨w.heap.size + 1, 2, none⟩ r) w.heap.size A false m (-place) ∧ Below w.heap.size w (((w4.setCell ⟨w.heap.size + 1, 0, none⟩ p).setCell ⟨w.heap.size + 1, 1, none⟩ q).setCell ⟨w.heap.size + 1, 2, none⟩ r)) := fun p q r =>
    ⟨(HN4.out.store (by have := HX.out.2.1; omega) _ _ _).mono (by have := HX.out.2.1; omega), below_store3 (HX.out.1.trans (HB4.out.mono HX.out.1.size)) (by omega) _ _ _⟩
  cases hok : okR false m (-place)
  · have hNil : Nil = .agg #[.bool false, .slice none 0 0, .int .i64 0] := rfl
    clear hsh
    go_wp2
    refine bodyPost_ret (results_cell_tmp2_row rfl _ _ (w.heap.size + 1) 25 #[.bool false, .slice none 0 0, .int .i64 0] (0, 0) _ rfl (store3 _ _ _ HC4.out) Tryz.underlying25 rfl Tryz.info25) rfl ?_
    exact ⟨m, ⟨HW2.out.2.1, HW2.out.2.2.1⟩, A, by rw [hok]; simp [hNil], HF.out _ _ _⟩
  · subst hsh
    go_wp2
    refine bodyPost_ret (results_cell_tmp2_row rfl _ _ (w.heap.size + 1) 25 #[.bool s', .slice ao n cap, .int .i64 ex] (0, 0) _ rfl (store3 _ _ _ HC4.out) Tryz.underlying25 rfl Tryz.info25) rfl ?_
    exact ⟨m, ⟨HW2.out.2.1, HW2.out.2.2.1⟩, _, by rw [hok, ← HBB.out]; simp, HF.out _ _ _⟩

theorem root_ok {ua : Option Addr} {uc x : Nat} {ea place : Int} {w : World} (h1 : Is w (.slice ua (dlen x) uc) x) (hT : Tab32 w) (hx : dlen x ≤ 2048) (hoka : okN false (dlen x) x ea = true) (ha : -65536 ≤ ea ∧ ea ≤ 65536) (hp : -65536 ≤ place ∧ place ≤ 65536) :
    Calls Tryz.prog 34 #[.agg #[.bool false, .slice ua (dlen x) uc, .int .i64 ea], .int .i64 place] w fun r w' => ∃ m, (m * m ≤ rtQ x ea place ∧ rtQ x ea place < (m + 1) * (m + 1)) ∧ Held3 w false m (-place) (decide (0 ≤ ea + 2 * place ∨ x = 0) && decide (m * m = rtQ x ea place)) r w' := by
  have hq : dlen (rtQ x ea place) ≤ 900000 := by
    unfold rtQ
    split
    · have := shl_len (x := x) (k := (ea + 2 * place).toNat) rfl; omega
    · exact Nat.le_trans (dlen_mono (Nat.div_le_self ..)) (by omega)
  refine c29_1 ua _ uc _ ea place _ w hT hq hp (fun W g hW hg => ?_) (fun W hW => ?_)
  · have := maybe1 hg (h1.later hW) (by omega)
    rw [hoka] at this
    exact this
  · exact c102 (neg := false) (h1.later hW) (by omega) (by omega) (by omega) (by omega)
end Go.Proofs.YtmhpicccfaklcaaGreatDoor

/- DyadLeast: the law's walk. -/
namespace Go.Proofs.YtmhpicccfaklcaaGreatDoor
set_option linter.unusedVariables false
set_option linter.unusedSimpArgs false
open Go.RowKit Go.Fl64

theorem lt2 {k : Nat} (h : k < 2) : k = 0 ∨ k = 1 := by omega
/-- one of two -/
def pick2 {α : Type} (a b : α) : Nat → α
  | 0 => a
  | _ => b
/-- Cmp's answer -/
def Cm2 (t1 t2 : Bool × Nat × Int) (c : Int) : Prop := ∀ W X Y, PN W X t1 → PN W Y t2 → Calls Tryz.prog 23 #[X, Y] W fun r w' => r = .returned (.int .i64 c) ∧ Below W.heap.size W w'
/-- numbers that the law goes on with -/
def Fine2 (ng : Nat → Bool) (ln z : Nat → Nat) (e : Nat → Int) : Prop := okN (ng 0) (ln 0) (z 0) (e 0) = true ∧ okN (ng 1) (ln 1) (z 1) (e 1) = true ∧ ln 0 ≤ 100 ∧ ln 1 ≤ 100 ∧ ln 1 ≠ 0 ∧ max (e 0) (e 1) ≤ 3000 ∧ -3000 ≤ min (e 0) (e 1)
end Go.Proofs.YtmhpicccfaklcaaGreatDoor

/- The document's product and order. -/
namespace Go.Proofs.YtmhpicccfaklcaaGreatDoor
set_option linter.unusedVariables false
set_option linter.unusedSimpArgs false
open Go.RowKit

/-- v is a slice that holds the digits of x (whatever its room) -/
def Ir (w : World) (v : Value) (x : Nat) : Prop := ∃ ao cap, v = .slice ao (dlen x) cap ∧ dlen x ≤ cap ∧ At w ao (dlen x) x
theorem Is.ir {w : World} {v : Value} {x : Nat} (h : Is w v x) : Ir w v x := by
  obtain ⟨ao, cap, h1, h2, h3, h4⟩ := h
  exact ⟨ao, cap, h1, h2, h4⟩
theorem Ir.later {w w' : World} {v : Value} {x : Nat} (h : Ir w v x) (hb : Below w.heap.size w w') : Ir w' v x := by
  obtain ⟨ao, cap, h1, h2, h3⟩ := h
  exact ⟨ao, cap, h1, h2, h3.later hb⟩
theorem Ir.nil (w : World) (ao : Option Addr) (cap : Nat) : Ir w (.slice ao 0 cap) 0 := ⟨ao, cap, by rw [dlen_zero], by rw [dlen_zero]; omega, 0, 0, fun h => by rw [dlen_zero] at h; omega, fun i hi => by rw [dlen_zero] at hi; omega⟩

theorem Mk.drewN {w wr : World} {n : Nat} {f : Nat → Nat} (h : Mk w wr n f) (d : Nat) : Mk w (wr.drewN d) n f :=
  ⟨⟨h.below.os, h.below.tape, h.below.output, h.below.size, h.below.block⟩, h.size, h.row⟩

theorem mul_word2 {c f d e : Nat} (hc : c < B) (hf : f < B) (hd : d < B) (he : e < B) :
    IntKind.u64.wrap (IntKind.u64.wrap (IntKind.u64.wrap (IntKind.u64.wrap (d : Int) * IntKind.u64.wrap (e : Int)) + IntKind.u64.wrap (f : Int)) + (c : Int)) = ((c + f + e * d : Nat) : Int) := by
  obtain ⟨h1, h2, h3⟩ := mac_fits hc hf hd he
  rw [wrap_d hd, wrap_d he, wrap_d hf, ← Int.natCast_mul, Nat.mul_comm d e]
  generalize e * d = m at *
  rw [IntKind.wrap_u64, IntKind.wrap_u64, IntKind.wrap_u64]
  omega

set_option maxHeartbeats 4000000 in
set_option maxRecDepth 200000 in
theorem rprod_1 (ao bo : Option Addr) (ba oa bb ob na nb ca cb x y : Nat) (w : World) (ha : ao = some ⟨ba, oa, none⟩) (hb : bo = some ⟨bb, ob, none⟩) (hna0 : 0 < na) (hnb0 : 0 < nb) (hna : na ≤ 1000000000) (hnb : nb ≤ 1000000000) (hx : dlen x = na) (hy : dlen y = nb)
    (hca : ∀ i, i < na → w.cell? ⟨ba, oa + i, none⟩ = some (.int .u32 (dg x i : Nat))) (hcb : ∀ i, i < nb → w.cell? ⟨bb, ob + i, none⟩ = some (.int .u32 (dg y i : Nat))) :
    Calls Tryz.prog 179 #[.slice ao na ca, .slice bo nb cb] w fun e w' => ∃ v, e = .returned v ∧ Own w' w.heap.size v (x * y) ∧ Below w.heap.size w w' := by
  subst ha hb
  have hmk := run_make_row' (P := Tryz.prog) 22 65 (.int .u32 0) 4 Tryz.underlying22 Tryz.info65 rfl .i64 .i64 (na + nb) (by omega) (by omega)
  rw [show ((na + nb : Nat) : Int) = (na : Int) + nb by omega] at hmk
  have HX : Hid (dlen x = na) := hx
  have HY : Hid (dlen y = nb) := hy
  have z1 : ((na : Int) == 0) = false := by simp; omega
  have z2 : ((nb : Int) == 0) = false := by simp; omega
  clear hx hy
  go_enter Tryz.func179, Tryz.ntmps179
  go_wp2
  clear hmk z1 z2
  go_loopw [6] (fun c wr => ∃ i : Nat, i ≤ na ∧ c = .int .i64 i ∧ Mk w wr (na + nb) (dg (x % B ^ i * y))) (fun c _ => na - (intOf c).toNat)
  case atStart => exact ⟨0, Nat.zero_le _, rfl, (Mk.start w _).congr fun t ht => by simp [Nat.mod_one, dg]⟩
  case round =>
    obtain ⟨i, hi, rfl, hO⟩ := hrel
    by_cases hia : i < na
    · have g1 := hO.old (hca i hia)
      have hii : (i : Int) < (na : Int) := by omega
      have HO : Hid (Mk w wr (na + nb) (dg (x % B ^ i * y))) := hO
      generalize hd : dg x i = d at *
      have HD : Hid (dg x i = d) := hd
      have HDL : Hid (d < B) := hd ▸ dg_lt _ _
      clear hd hO
      go_wp2
      go_loopw [7, 8] (fun c s wi => ∃ j : Nat, j ≤ nb ∧ c = .int .u64 (macc (x % B ^ i * y / B ^ i) y d j : Nat) ∧ s = .int .i64 j ∧ Mk w wi (na + nb) (mid x y i j)) (fun _ s _ => nb - (intOf s).toNat)
      case atStart => exact ⟨0, Nat.zero_le _, by rw [macc_zero]; rfl, rfl, HO.out.congr fun t ht => by
          unfold mid
          by_cases e : t < i + 0
          · rw [if_pos e, prod_low (by omega)]
          · rw [if_neg e]⟩
      case round =>
        obtain ⟨j, hj, rfl, rfl, hM⟩ := hrel
        by_cases hjb : j < nb
        · have g4 := hM.old (hcb j hjb)
          have g1' := hM.old (hca i hia)
          rw [HD.out] at g1'
          have hji : (j : Int) < (nb : Int) := by omega
          have g2 := hM.cell (i := i + j) (by omega)
          have g3 := hM.frozen (i + j)
          have hcl := macc_le (x % B ^ i * y / B ^ i) y d j
          have ef : mid x y i j (i + j) = dg (x % B ^ i * y) (i + j) := if_neg (by omega)
          rw [ef] at g2
          generalize hf : dg (x % B ^ i * y) (i + j) = f at *
          generalize he : dg y j = e at *
          generalize hc : macc (x % B ^ i * y / B ^ i) y d j = c at *
          have HE : Hid (dg (x % B ^ i * y) (i + j) = f ∧ dg y j = e ∧ macc (x % B ^ i * y / B ^ i) y d j = c) := ⟨hf, he, hc⟩
          have HL : Hid (c < B ∧ f < B ∧ e < B) := ⟨by have := HDL.out; omega, hf ▸ dg_lt _ _, he ▸ dg_lt _ _⟩
          have HM : Hid (Mk w wr (na + nb) (mid x y i j)) := hM
          clear hf he hc hcl hM hca hcb ef g1
          go_wp2
          go_quiet (fail)
          have g2' : (wr.drewN nq).cell? ⟨w.heap.size, i + j, none⟩ = some (.int .u32 (f : Nat)) := g2
          have g3' : (wr.drewN nq).frozen? ⟨w.heap.size, i + j, none⟩ = false := g3
          have HM2 : Hid (Mk w (wr.drewN nq) (na + nb) (mid x y i j)) := HM.out.drewN nq
          generalize wr.drewN nq = wq at *
          clear g1' g2 g3 g4
          go_wp2
          exact mul_round HM2.out (mul_word2 HL.out.1 HL.out.2.1 HDL.out HL.out.2.2) HD.out HE.out hjb
        · obtain rfl : j = nb := by omega
          have g2 := hM.cell (i := i + j) (by omega)
          have g3 := hM.frozen (i + j)
          have HM : Hid (Mk w wr (na + j) (mid x y i j)) := hM
          generalize hf : mid x y i j (i + j) = f at *
          generalize hc : macc (x % B ^ i * y / B ^ i) y d j = c at *
          have HC : Hid (macc (x % B ^ i * y / B ^ i) y d j = c) := hc
          clear hf hc hM hca hcb g1
          go_wp2
          exact mul_row HM.out HY.out HD.out HDL.out (by rw [HC.out]) hia
    · obtain rfl : i = na := by omega
      have hE : Mk w wr (i + nb) (dg (x * y)) := by
        have e : x % B ^ i = x := Nat.mod_eq_of_lt (by rw [← HX.out]; exact lt_dlen x)
        rw [e] at hO
        exact hO
      have hA := hE.at
      have hL : dlen (x * y) ≤ i + nb := by
        have h1 := prod_lt x y i
        rw [Nat.mod_eq_of_lt (by rw [← HX.out]; exact lt_dlen x), HY.out] at h1
        exact (dlen_le _ _).2 h1
      have HC : Hid (Mk w wr (i + nb) (dg (x * y))) := hE
      have k40 := r40 (some ⟨w.heap.size, 0, none⟩) (i + nb) (i + nb) (x * y) wr hL (Nat.le_refl _) (by omega) hA
      clear hO hca hcb hE hA
      go_wp2_with (first | (go_at_call 111; refine k40.mono ?_; rintro e w' ⟨rfl, rfl⟩))
      go_ret
      exact ⟨_, rfl, HC.out.own hL (by omega), HC.out.below⟩

set_option maxRecDepth 200000 in
theorem rprod_0 (ao bo : Option Addr) (na nb ca cb : Nat) (w : World) (h : na = 0 ∨ nb = 0) :
    Calls Tryz.prog 179 #[.slice ao na ca, .slice bo nb cb] w fun e w' => e = .returned (.slice none 0 0) ∧ w' = w := by
  by_cases h1 : na = 0
  · subst h1
    go_enter Tryz.func179, Tryz.ntmps179
    go_wp2
    go_ret
    exact ⟨rfl, rfl⟩
  · obtain rfl : nb = 0 := h.resolve_left h1
    have z1 : ((na : Int) == 0) = false := by simp; omega
    go_enter Tryz.func179, Tryz.ntmps179
    go_wp2
    go_ret
    exact ⟨rfl, rfl⟩

theorem rprod {u v : Value} {x y : Nat} {w : World} (h1 : Ir w u x) (h2 : Ir w v y) (hx : dlen x ≤ 1000000000) (hy : dlen y ≤ 1000000000) :
    Calls Tryz.prog 179 #[u, v] w fun e w' => ∃ v, e = .returned v ∧ Own w' w.heap.size v (x * y) ∧ Below w.heap.size w w' := by
  obtain ⟨ao, ca, rfl, a1, ba, oa, a3, a4⟩ := h1
  obtain ⟨bo, cb, rfl, b1, bb, ob, b3, b4⟩ := h2
  by_cases h : x = 0 ∨ y = 0
  · refine (rprod_0 ao bo _ _ ca cb w (h.imp (fun e => by rw [e, dlen_zero]) (fun e => by rw [e, dlen_zero]))).mono ?_
    rintro e w' ⟨rfl, rfl⟩
    refine ⟨_, rfl, .inl ⟨rfl, ?_⟩, Below.refl _ _⟩
    rcases h with h | h <;> rw [h] <;> simp
  · have hx0 : 0 < dlen x := Nat.pos_of_ne_zero fun e => h (.inl (dlen_eq_zero.1 e))
    have hy0 : 0 < dlen y := Nat.pos_of_ne_zero fun e => h (.inr (dlen_eq_zero.1 e))
    exact rprod_1 ao bo ba oa bb ob _ _ ca cb x y w (a3 hx0) (b3 hy0) hx0 hy0 hx hy rfl rfl a4 b4

set_option maxRecDepth 200000 in
theorem rord_1 (ao bo : Option Addr) (na nb ca cb : Nat) (w : World) (h : na ≠ nb) (hna : na ≤ 1000000000) (hnb : nb ≤ 1000000000) :
    Calls Tryz.prog 162 #[.slice ao na ca, .slice bo nb cb] w fun e w' => e = .returned (.int .i64 (cmpI na nb)) ∧ w' = w := by
  have h'' : ((na : Int) != (nb : Int)) = true := by simp; omega
  unfold cmpI
  by_cases hlt : (na : Int) < (nb : Int)
  · rw [if_pos hlt]
    go_enter Tryz.func162, Tryz.ntmps162
    go_wp2
    go_ret
    exact ⟨rfl, rfl⟩
  · rw [if_neg hlt, if_pos (by omega)]
    go_enter Tryz.func162, Tryz.ntmps162
    go_wp2
    go_ret
    exact ⟨rfl, rfl⟩

set_option maxRecDepth 200000 in
theorem rord_2 (ao bo : Option Addr) (ba oa bb ob n ca cb x y : Nat) (w : World) (ha : 0 < n → ao = some ⟨ba, oa, none⟩) (hb : 0 < n → bo = some ⟨bb, ob, none⟩) (hn : n ≤ 1000000000) (hx : dlen x = n) (hy : dlen y = n)
    (hca : ∀ i, i < n → w.cell? ⟨ba, oa + i, none⟩ = some (.int .u32 (dg x i : Nat))) (hcb : ∀ i, i < n → w.cell? ⟨bb, ob + i, none⟩ = some (.int .u32 (dg y i : Nat))) :
    Calls Tryz.prog 162 #[.slice ao n ca, .slice bo n cb] w fun e w' => e = .returned (.int .i64 (cmpI x y)) ∧ ∃ d, w' = w.drewN d := by
  have h'' : ((n : Int) != (n : Int)) = false := by simp
  have HXY : Hid (dlen x = n ∧ dlen y = n) := ⟨hx, hy⟩
  clear hx hy
  go_enter Tryz.func162, Tryz.ntmps162
  go_wp2
  go_loopw [5] (fun i wr => ∃ (j d : Nat), j ≤ n ∧ i = .int .i64 ((j : Int) - 1) ∧ wr = w.drewN d ∧ Hid (x / B ^ j = y / B ^ j)) (fun i _ => (intOf i + 1).toNat)
  case atStart => exact ⟨n, 0, Nat.le_refl _, rfl, rfl, (by rw [Nat.div_eq_of_lt ((dlen_le n x).1 (by rw [HXY.out.1]; omega)), Nat.div_eq_of_lt ((dlen_le n y).1 (by rw [HXY.out.2]; omega))] : x / B ^ n = y / B ^ n)⟩
  case round =>
    obtain ⟨j, d, hj, rfl, rfl, hh⟩ := hrel
    by_cases hj0 : j = 0
    · subst hj0
      have e : x = y := by have := hh.out; simpa using this
      have HE : Hid (cmpI x y = 0) := (by subst e; unfold cmpI; simp : cmpI x y = 0)
      clear hh e hca hcb
      go_wp2
      go_ret
      rw [HE.out]
      exact ⟨rfl, d, rfl⟩
    · obtain ⟨i, rfl⟩ : ∃ i, j = i + 1 := ⟨j - 1, by omega⟩
      have hi : i < n := by omega
      obtain rfl := ha (by omega)
      obtain rfl := hb (by omega)
      have g1 : (w.drewN d).cell? ⟨ba, oa + i, none⟩ = some (.int .u32 (dg x i : Nat)) := hca i hi
      have g2 : (w.drewN d).cell? ⟨bb, ob + i, none⟩ = some (.int .u32 (dg y i : Nat)) := hcb i hi
      have hii : (i : Int) < (n : Int) := by omega
      have ei : ((i + 1 : Nat) : Int) - 1 = (i : Int) := by omega
      rw [ei]
      generalize hdx : dg x i = dx at *
      generalize hdy : dg y i = dy at *
      have HD : Hid (dg x i = dx ∧ dg y i = dy) := ⟨hdx, hdy⟩
      clear hca hcb hdx hdy ei
      have HW : Hid (∃ d', w.drewN d = w.drewN d') := ⟨d, rfl⟩
      generalize w.drewN d = wd at *
      by_cases hne : dx = dy
      · subst hne
        have t1 : ((dx : Int) != (dx : Int)) = false := by simp
        go_wp2
        go_quiet (fail)
        go_wp2
        obtain ⟨d', rfl⟩ := HW.out
        exact ⟨⟨i, _, by omega, rfl, World.drewN_drewN .., (top_step hh.out (HD.out.1.trans HD.out.2.symm) : x / B ^ i = y / B ^ i)⟩, by simp [intOf]⟩
      · have t1 : ((dx : Int) != (dy : Int)) = true := by simp; omega
        by_cases hlt : dx < dy
        · have t2 : (dx : Int) < (dy : Int) := by omega
          have HC : Hid (cmpI x y = -1) := by
            have h1 := HD.out
            have := lt_of_top (i := i) hh.out (by omega)
            show cmpI x y = -1
            unfold cmpI
            rw [if_pos (by omega)]
          go_wp2
          go_quiet (fail)
          go_wp2
          have HV : Hid (∃ d', wd.drewN nq = w.drewN d') := by
            obtain ⟨d', e⟩ := HW.out
            exact ⟨_, by rw [e]; exact World.drewN_drewN ..⟩
          have g1' : (wd.drewN nq).cell? ⟨ba, oa + i, none⟩ = some (.int .u32 (dx : Nat)) := g1
          have g2' : (wd.drewN nq).cell? ⟨bb, ob + i, none⟩ = some (.int .u32 (dy : Nat)) := g2
          generalize wd.drewN nq = wq at *
          go_quiet (fail)
          go_wp2
          go_ret
          obtain ⟨d', e⟩ := HV.out
          rw [HC.out, e]
          exact ⟨rfl, _, World.drewN_drewN ..⟩
        · have t2 : ¬ (dx : Int) < (dy : Int) := by omega
          have HC : Hid (cmpI x y = 1) := by
            have h1 := HD.out
            have := lt_of_top (i := i) hh.out.symm (by omega)
            show cmpI x y = 1
            unfold cmpI
            rw [if_neg (by omega), if_pos (by omega)]
          go_wp2
          go_quiet (fail)
          go_wp2
          have HV : Hid (∃ d', wd.drewN nq = w.drewN d') := by
            obtain ⟨d', e⟩ := HW.out
            exact ⟨_, by rw [e]; exact World.drewN_drewN ..⟩
          have g1' : (wd.drewN nq).cell? ⟨ba, oa + i, none⟩ = some (.int .u32 (dx : Nat)) := g1
          have g2' : (wd.drewN nq).cell? ⟨bb, ob + i, none⟩ = some (.int .u32 (dy : Nat)) := g2
          generalize wd.drewN nq = wq at *
          go_quiet (fail)
          go_wp2
          go_ret
          obtain ⟨d', e⟩ := HV.out
          rw [HC.out, e]
          exact ⟨rfl, _, World.drewN_drewN ..⟩

theorem rord {u v : Value} {x y : Nat} {w : World} (h1 : Ir w u x) (h2 : Ir w v y) (hx : dlen x ≤ 1000000000) (hy : dlen y ≤ 1000000000) :
    Calls Tryz.prog 162 #[u, v] w fun e w' => e = .returned (.int .i64 (cmpI x y)) ∧ ∃ d, w' = w.drewN d := by
  obtain ⟨ao, ca, rfl, a1, ba, oa, a3, a4⟩ := h1
  obtain ⟨bo, cb, rfl, b1, bb, ob, b3, b4⟩ := h2
  by_cases h : dlen x = dlen y
  · rw [← h] at b3 b4 ⊢
    exact rord_2 ao bo ba oa bb ob _ ca cb x y w a3 b3 hx rfl h.symm a4 b4
  · refine (rord_1 ao bo _ _ ca cb w h hx hy).mono ?_
    rintro e w' ⟨rfl, rfl⟩
    refine ⟨congrArg Ending.returned (congrArg (Value.int IntKind.i64) ?_), 0, rfl⟩
    unfold cmpI
    rcases Nat.lt_or_gt_of_ne h with h2 | h2
    · have := lt_of_dlen h2
      rw [if_pos (by omega), if_pos (by omega)]
    · have := lt_of_dlen h2
      rw [if_neg (by omega), if_pos (by omega), if_neg (by omega), if_pos (by omega)]
end Go.Proofs.YtmhpicccfaklcaaGreatDoor

/- The document's sum and less. -/
namespace Go.Proofs.YtmhpicccfaklcaaGreatDoor
set_option linter.unusedVariables false
set_option linter.unusedSimpArgs false
open Go.RowKit

/-- a digit appended to a row -/
theorem row_step {w wr w' : World} {j z : Nat} {q : Int} {v v' : Value} (hq : q = (dg z j : Nat)) (hB : Below w.heap.size w wr) (ho : wr.ownsRow w.heap.size 65 1 v j (cells z j))
    (ho' : w'.ownsRow w.heap.size 65 1 v' (j + 1) (cells z j ++ [.int .u32 q])) (hg : (wr.alloc (.cells #[.int .u32 q] 65)).grownBy w' v.ownBlock) :
    w'.ownsRow w.heap.size 65 1 v' (j + 1) (cells z (j + 1)) ∧ Below w.heap.size w w' :=
  ⟨by rw [cells_succ, ← hq]; exact ho', (hB.alloc hB.size _).grown hg (by simp; have := hB.size; omega) (fun k hk => (ho.lt k hk).1)⟩

theorem addc_top {x y n : Nat} (hx : x < B ^ n) (hy : y < B ^ n) : addc x y n = (x + y) / B ^ n := by
  unfold addc
  rw [Nat.mod_eq_of_lt hx, Nat.mod_eq_of_lt hy]

set_option maxHeartbeats 4000000 in
set_option maxRecDepth 200000 in
theorem rsum_1 (ao bo : Option Addr) (ba oa bb ob na nb ca cb x y N : Nat) (w : World) (ha : 0 < na → ao = some ⟨ba, oa, none⟩) (hb : 0 < nb → bo = some ⟨bb, ob, none⟩) (hN : N = max na nb) (hNb : N ≤ 1000000000) (hx : dlen x = na) (hy : dlen y = nb)
    (hca : ∀ i, i < na → w.cell? ⟨ba, oa + i, none⟩ = some (.int .u32 (dg x i : Nat))) (hcb : ∀ i, i < nb → w.cell? ⟨bb, ob + i, none⟩ = some (.int .u32 (dg y i : Nat))) :
    Calls Tryz.prog 109 #[.slice ao na ca, .slice bo nb cb] w fun e w' => ∃ v, e = .returned v ∧ Ir w' v (x + y) ∧ Below w.heap.size w w' := by
  have HXY : Hid (dlen x = na ∧ dlen y = nb ∧ N = max na nb) := ⟨hx, hy, hN⟩
  have HCA : Hid (∀ i, i < na → w.cell? ⟨ba, oa + i, none⟩ = some (.int .u32 (dg x i : Nat))) := hca
  have HCB : Hid (∀ i, i < nb → w.cell? ⟨bb, ob + i, none⟩ = some (.int .u32 (dg y i : Nat))) := hcb
  have hNa : na ≤ N := by omega
  have hNb2 : nb ≤ N := by omega
  clear hx hy hca hcb hN
  go_enter Tryz.func109, Tryz.ntmps109
  go_wp2
  go_loopw [5, 6, 7] (fun v c i wr => ∃ j : Nat, j ≤ N ∧ c = .int .u64 (addc x y j : Nat) ∧ i = .int .i64 j ∧ wr.ownsRow w.heap.size 65 1 v j (cells (x + y) j) ∧ Below w.heap.size w wr) (fun _ _ i _ => N - (intOf i).toNat)
  case atStart => exact ⟨0, Nat.zero_le _, by rw [addc_zero]; rfl, rfl, World.ownsRow_nil .., Below.refl _ _⟩
  case round =>
    obtain ⟨j, hj, rfl, rfl, ho, hB⟩ := hrel
    have HO : Hid (wr.ownsRow w.heap.size 65 1 u5 j (cells (x + y) j)) := ho
    have HB : Hid (Below w.heap.size w wr) := hB
    have hbs : w.heap.size ≤ wr.heap.size := hB.size
    have HL : Hid (dg x j < B ∧ dg y j < B ∧ addc x y j ≤ 1) := ⟨dg_lt _ _, dg_lt _ _, addc_le _ _ _⟩
    by_cases hjN : j < N
    · -- what comes to the carry, from both
      have hkey : ∀ (dx dy c Q : Nat), dg x j = dx → dg y j = dy → addc x y j = c → Q = c + dx + dy → ((Q : Int) % 4294967296 = (dg (x + y) j : Nat)) ∧ ((Q : Int) / 4294967296 = (addc x y (j + 1) : Nat)) := by
        rintro dx dy c Q rfl rfl rfl rfl
        rw [dg_add, addc_succ]
        unfold B
        omega
      have HKY : Hid (∀ (dx dy c Q : Nat), dg x j = dx → dg y j = dy → addc x y j = c → Q = c + dx + dy → ((Q : Int) % 4294967296 = (dg (x + y) j : Nat)) ∧ ((Q : Int) / 4294967296 = (addc x y (j + 1) : Nat))) := hkey
      obtain ⟨i0, hi0, hz0, hz1, hz2⟩ := info_parts Tryz.info65
      have e64 : ∀ q : Int, 0 ≤ q → q < 18446744073709551616 → IntKind.u64.wrap q = q := fun q h1 h2 => by rw [IntKind.wrap_u64]; omega
      by_cases hja : j < na
      · obtain rfl := ha (by omega)
        have g1 := (hB.cell (World.block_lt_of_cell? _ _ (HCA.out j hja))).trans (HCA.out j hja)
        have hji : (j : Int) < (na : Int) := by omega
        by_cases hjb : j < nb
        · obtain rfl := hb (by omega)
          have g4 := (hB.cell (World.block_lt_of_cell? _ _ (HCB.out j hjb))).trans (HCB.out j hjb)
          have hji2 : (j : Int) < (nb : Int) := by omega
          generalize hd : dg x j = d at *
          generalize hd1 : dg y j = d1 at *
          generalize hc : addc x y j = c at *
          obtain ⟨K, hK⟩ : ∃ K : Nat, K = c + d := ⟨_, rfl⟩
          obtain ⟨Q, hQ⟩ : ∃ Q : Nat, Q = c + d + d1 := ⟨_, rfl⟩
          have w1 : IntKind.u64.wrap (d : Int) = (d : Int) := wrap_d HL.out.1
          have w2 : IntKind.u64.wrap (d1 : Int) = (d1 : Int) := wrap_d HL.out.2.1
          have hl := HL.out
          unfold B at hl
          have w3 : IntKind.u64.wrap ((c : Int) + (d : Int)) = (K : Int) := by rw [e64 _ (by omega) (by omega)]; omega
          have w4 : IntKind.u64.wrap ((K : Int) + (d1 : Int)) = (Q : Int) := by rw [e64 _ (by omega) (by omega)]; omega
          have HD : Hid ((Q : Int) % 4294967296 = (dg (x + y) j : Nat) ∧ (Q : Int) / 4294967296 = (addc x y (j + 1) : Nat)) := HKY.out d d1 c Q rfl rfl rfl hQ
          clear hd hd1 hc hB hl hkey e64 hK hQ
          go_wp2_with (at_builtin; refine wpList_append_own _ rfl _ _ 22 rfl w.heap.size 65 i0 (.int .u32 0) 1 4 Tryz.underlying22 hi0 hz0 hz1 hz2 rfl (by decide) _ _ _ rfl (ho.alloc _) ⟨wr.heap.size, 0, none⟩ 1 1 [.int .u32 ((Q : Int) % 4294967296)] rfl rfl (cell_one_new _ _ _) (by intro u hu; simp at hu; subst hu; rfl) (by unfold maxLen; omega) (by omega) (by simp; omega) ?_)
          intro v' w5 hown5 hgrow _
          obtain ⟨r1, r2⟩ := row_step HD.out.1 HB.out HO.out hown5 hgrow
          have HR : Hid (w5.ownsRow w.heap.size 65 1 v' (j + 1) (cells (x + y) (j + 1)) ∧ Below w.heap.size w w5) := ⟨r1, r2⟩
          clear hown5 hgrow r1 r2 ho
          go_wp2
          exact ⟨⟨j + 1, by omega, by rw [HD.out.2], by simp, HR.out⟩, by simp [intOf]; omega⟩
        · have hji2 : ¬ (j : Int) < (nb : Int) := by omega
          have hd1 : dg y j = 0 := dg_past (by rw [HXY.out.2.1]; omega)
          generalize hd : dg x j = d at *
          generalize hc : addc x y j = c at *
          obtain ⟨Q, hQ⟩ : ∃ Q : Nat, Q = c + d + 0 := ⟨_, rfl⟩
          have w1 : IntKind.u64.wrap (d : Int) = (d : Int) := wrap_d HL.out.1
          have hl := HL.out
          unfold B at hl
          have w3 : IntKind.u64.wrap ((c : Int) + (d : Int)) = (Q : Int) := by rw [e64 _ (by omega) (by omega)]; omega
          have HD : Hid ((Q : Int) % 4294967296 = (dg (x + y) j : Nat) ∧ (Q : Int) / 4294967296 = (addc x y (j + 1) : Nat)) := HKY.out d 0 c Q rfl hd1 rfl hQ
          clear hd hd1 hc hB hl hkey e64 hQ
          go_wp2_with (at_builtin; refine wpList_append_own _ rfl _ _ 22 rfl w.heap.size 65 i0 (.int .u32 0) 1 4 Tryz.underlying22 hi0 hz0 hz1 hz2 rfl (by decide) _ _ _ rfl (ho.alloc _) ⟨wr.heap.size, 0, none⟩ 1 1 [.int .u32 ((Q : Int) % 4294967296)] rfl rfl (cell_one_new _ _ _) (by intro u hu; simp at hu; subst hu; rfl) (by unfold maxLen; omega) (by omega) (by simp; omega) ?_)
          intro v' w5 hown5 hgrow _
          obtain ⟨r1, r2⟩ := row_step HD.out.1 HB.out HO.out hown5 hgrow
          have HR : Hid (w5.ownsRow w.heap.size 65 1 v' (j + 1) (cells (x + y) (j + 1)) ∧ Below w.heap.size w w5) := ⟨r1, r2⟩
          clear hown5 hgrow r1 r2 ho
          go_wp2
          exact ⟨⟨j + 1, by omega, by rw [HD.out.2], by simp, HR.out⟩, by simp [intOf]; omega⟩
      · have hji : ¬ (j : Int) < (na : Int) := by omega
        have hjb : j < nb := by have := HXY.out.2.2; omega
        obtain rfl := hb (by omega)
        have g4 := (hB.cell (World.block_lt_of_cell? _ _ (HCB.out j hjb))).trans (HCB.out j hjb)
        have hji2 : (j : Int) < (nb : Int) := by omega
        have hd : dg x j = 0 := dg_past (by rw [HXY.out.1]; omega)
        generalize hd1 : dg y j = d1 at *
        generalize hc : addc x y j = c at *
        obtain ⟨Q, hQ⟩ : ∃ Q : Nat, Q = c + 0 + d1 := ⟨_, rfl⟩
        have w2 : IntKind.u64.wrap (d1 : Int) = (d1 : Int) := wrap_d HL.out.2.1
        have hl := HL.out
        unfold B at hl
        have w4 : IntKind.u64.wrap ((c : Int) + (d1 : Int)) = (Q : Int) := by rw [e64 _ (by omega) (by omega)]; omega
        have HD : Hid ((Q : Int) % 4294967296 = (dg (x + y) j : Nat) ∧ (Q : Int) / 4294967296 = (addc x y (j + 1) : Nat)) := HKY.out 0 d1 c Q hd rfl rfl hQ
        clear hd hd1 hc hB hl hkey e64 hQ
        go_wp2_with (at_builtin; refine wpList_append_own _ rfl _ _ 22 rfl w.heap.size 65 i0 (.int .u32 0) 1 4 Tryz.underlying22 hi0 hz0 hz1 hz2 rfl (by decide) _ _ _ rfl (ho.alloc _) ⟨wr.heap.size, 0, none⟩ 1 1 [.int .u32 ((Q : Int) % 4294967296)] rfl rfl (cell_one_new _ _ _) (by intro u hu; simp at hu; subst hu; rfl) (by unfold maxLen; omega) (by omega) (by simp; omega) ?_)
        intro v' w5 hown5 hgrow _
        obtain ⟨r1, r2⟩ := row_step HD.out.1 HB.out HO.out hown5 hgrow
        have HR : Hid (w5.ownsRow w.heap.size 65 1 v' (j + 1) (cells (x + y) (j + 1)) ∧ Below w.heap.size w w5) := ⟨r1, r2⟩
        clear hown5 hgrow r1 r2 ho
        go_wp2
        exact ⟨⟨j + 1, by omega, by rw [HD.out.2], by simp, HR.out⟩, by simp [intOf]; omega⟩
    · obtain rfl : j = N := by omega
      have hjna : ¬ (j : Int) < (na : Int) := by omega
      have hjnb : ¬ (j : Int) < (nb : Int) := by omega
      obtain ⟨l1, l2, l3⟩ := HXY.out
      have hxl : x < B ^ j := (dlen_le j x).1 (by omega)
      have hyl : y < B ^ j := (dlen_le j y).1 (by omega)
      have htop := addc_top hxl hyl
      have hc1 := HL.out.2.2
      by_cases hc0 : addc x y j = 0
      · have hlen : dlen (x + y) = j := by
          have h1 : x + y < B ^ j := by
            rw [hc0] at htop
            exact (Nat.div_eq_zero_iff.1 htop.symm).resolve_left (by have := Bpow_pos j; omega)
          have h2 : dlen (x + y) ≤ j := (dlen_le _ _).2 h1
          have h3 : dlen x ≤ dlen (x + y) := dlen_mono (by omega)
          have h4 : dlen y ≤ dlen (x + y) := dlen_mono (by omega)
          omega
        rw [hc0]
        obtain ⟨ao', cap', rfl, hcp, hA⟩ := at_of_row ho
        have HR : Hid (Ir wr (.slice ao' j cap') (x + y)) := ⟨ao', cap', by rw [hlen], by omega, by rw [hlen]; exact hA⟩
        clear ho hB hlen htop hxl hyl l1 l2 l3 hA hc0 hc1
        go_wp2
        go_ret
        exact ⟨_, rfl, HR.out, HB.out⟩
      · have hc : addc x y j = 1 := by omega
        have hlen : dlen (x + y) = j + 1 := by
          have h1 : B ^ j ≤ x + y := by
            rw [hc] at htop
            refine Nat.le_of_not_lt fun h => ?_
            rw [Nat.div_eq_of_lt h] at htop; omega
          have h2 : ¬ dlen (x + y) ≤ j := fun h => by have := (dlen_le _ _).1 h; omega
          have h3 := dlen_add_le x y
          omega
        have hdg : dg (x + y) j = 1 := by
          rw [dg_add, dg_past (x := x) (by omega), dg_past (x := y) (by omega), hc]
          decide
        have HD : Hid ((1 : Int) = (dg (x + y) j : Nat)) := (by rw [hdg]; rfl : (1 : Int) = (dg (x + y) j : Nat))
        have HLN : Hid (dlen (x + y) = j + 1) := hlen
        rw [hc]
        obtain ⟨i0, hi0, hz0, hz1, hz2⟩ := info_parts Tryz.info65
        clear hB hlen htop hxl hyl l1 l2 l3 hc0 hc1 hc hdg
        go_wp2_with (at_builtin; refine wpList_append_own _ rfl _ _ 22 rfl w.heap.size 65 i0 (.int .u32 0) 1 4 Tryz.underlying22 hi0 hz0 hz1 hz2 rfl (by decide) _ _ _ rfl (ho.alloc _) ⟨wr.heap.size, 0, none⟩ 1 1 [.int .u32 1] rfl rfl (cell_one_new _ _ _) (by intro u hu; simp at hu; subst hu; rfl) (by unfold maxLen; omega) (by omega) (by simp; omega) ?_)
        intro v' w5 hown5 hgrow _
        obtain ⟨r1, r2⟩ := row_step HD.out HB.out HO.out hown5 hgrow
        obtain ⟨ao', cap', rfl, hcp, hA⟩ := at_of_row r1
        have HR : Hid (Ir w5 (.slice ao' (j + 1) cap') (x + y) ∧ Below w.heap.size w w5) := ⟨⟨ao', cap', by rw [HLN.out], by rw [HLN.out]; omega, by rw [HLN.out]; exact hA⟩, r2⟩
        clear hown5 hgrow r1 r2 ho hA hcp
        go_wp2
        go_ret
        exact ⟨_, rfl, HR.out⟩

theorem rsum {u v : Value} {x y : Nat} {w : World} (h1 : Ir w u x) (h2 : Ir w v y) (hx : dlen x ≤ 1000000000) (hy : dlen y ≤ 1000000000) :
    Calls Tryz.prog 109 #[u, v] w fun e w' => ∃ v, e = .returned v ∧ Ir w' v (x + y) ∧ Below w.heap.size w w' := by
  obtain ⟨ao, ca, rfl, a1, ba, oa, a3, a4⟩ := h1
  obtain ⟨bo, cb, rfl, b1, bb, ob, b3, b4⟩ := h2
  exact rsum_1 ao bo ba oa bb ob _ _ ca cb x y _ w a3 b3 rfl (by omega) rfl rfl a4 b4
end Go.Proofs.YtmhpicccfaklcaaGreatDoor

/- The document's less and up. -/
namespace Go.Proofs.YtmhpicccfaklcaaGreatDoor
set_option linter.unusedVariables false
set_option linter.unusedSimpArgs false
open Go.RowKit

set_option maxHeartbeats 4000000 in
set_option maxRecDepth 200000 in
theorem rless_1 (ao bo : Option Addr) (ba oa bb ob na nb ca cb x y : Nat) (w : World) (ha : 0 < na → ao = some ⟨ba, oa, none⟩) (hb : 0 < nb → bo = some ⟨bb, ob, none⟩) (hna : na ≤ 1000000000) (hx : dlen x = na) (hy : dlen y = nb) (hle : y ≤ x)
    (hca : ∀ i, i < na → w.cell? ⟨ba, oa + i, none⟩ = some (.int .u32 (dg x i : Nat))) (hcb : ∀ i, i < nb → w.cell? ⟨bb, ob + i, none⟩ = some (.int .u32 (dg y i : Nat))) :
    Calls Tryz.prog 185 #[.slice ao na ca, .slice bo nb cb] w fun e w' => ∃ v, e = .returned v ∧ Ir w' v (x - y) ∧ Below w.heap.size w w' := by
  have hnb : nb ≤ na := by have := dlen_mono hle; omega
  have HXY : Hid (dlen x = na ∧ dlen y = nb) := ⟨hx, hy⟩
  have HWS : Hid (wsub x y na = x - y) := wsub_of_le (by rw [← hx]; exact lt_dlen x) hle
  have HCA : Hid (∀ i, i < na → w.cell? ⟨ba, oa + i, none⟩ = some (.int .u32 (dg x i : Nat))) := hca
  have HCB : Hid (∀ i, i < nb → w.cell? ⟨bb, ob + i, none⟩ = some (.int .u32 (dg y i : Nat))) := hcb
  clear hx hy hca hcb hle
  go_enter Tryz.func185, Tryz.ntmps185
  go_wp2
  go_loopw [5, 6, 7] (fun v c i wr => ∃ j : Nat, j ≤ na ∧ c = .int .u64 (subb x y j : Nat) ∧ i = .int .i64 j ∧ wr.ownsRow w.heap.size 65 1 v j (cells (x - y) j) ∧ Below w.heap.size w wr) (fun _ _ i _ => na - (intOf i).toNat)
  case atStart => exact ⟨0, Nat.zero_le _, by rw [subb_zero]; rfl, rfl, World.ownsRow_nil .., Below.refl _ _⟩
  case round =>
    obtain ⟨j, hj, rfl, rfl, ho, hB⟩ := hrel
    have HO : Hid (wr.ownsRow w.heap.size 65 1 u5 j (cells (x - y) j)) := ho
    have HB : Hid (Below w.heap.size w wr) := hB
    have hbs : w.heap.size ≤ wr.heap.size := hB.size
    by_cases hja : j < na
    · have HL : Hid (dg x j < B ∧ dg y j < B ∧ subb x y j ≤ 1) := ⟨dg_lt _ _, dg_lt _ _, subb_le _ _ _⟩
      have HKY : Hid (∀ (dx dy c : Nat) (Q : Int), dg x j = dx → dg y j = dy → subb x y j = c → Q = ((dx : Int) - c - dy) % 18446744073709551616 → (Q % 4294967296 = (dg (x - y) j : Nat)) ∧ (Q / 9223372036854775808 = (subb x y (j + 1) : Nat))) := by
        intro dx dy c Q e1 e2 e3 e4
        have h1 : dg (x - y) j = (dg x j + B + B - dg y j - subb x y j) % B := by rw [← HWS.out, dg_wsub hja]
        have h2 := subb_succ x y j
        obtain ⟨l1, l2, l3⟩ := HL.out
        rw [e1, e2, e3] at h1 h2
        rw [e1] at l1
        rw [e2] at l2
        rw [e3] at l3
        unfold B at *
        rw [h1, h2]
        by_cases hlt : dx < dy + c
        · rw [if_pos hlt]; omega
        · rw [if_neg hlt]; omega
      obtain rfl := ha (by omega)
      have g1 := (hB.cell (World.block_lt_of_cell? _ _ (HCA.out j hja))).trans (HCA.out j hja)
      have hji : (j : Int) < (na : Int) := by omega
      obtain ⟨i0, hi0, hz0, hz1, hz2⟩ := info_parts Tryz.info65
      by_cases hjb : j < nb
      · obtain rfl := hb (by omega)
        have g4 := (hB.cell (World.block_lt_of_cell? _ _ (HCB.out j hjb))).trans (HCB.out j hjb)
        have hji2 : (j : Int) < (nb : Int) := by omega
        generalize hd : dg x j = d at *
        generalize hd1 : dg y j = d1 at *
        generalize hc : subb x y j = c at *
        obtain ⟨K, hK⟩ : ∃ K : Int, K = ((d : Int) - c) % 18446744073709551616 := ⟨_, rfl⟩
        obtain ⟨Q, hQ⟩ : ∃ Q : Int, Q = ((d : Int) - c - d1) % 18446744073709551616 := ⟨_, rfl⟩
        have w1 : IntKind.u64.wrap (d : Int) = (d : Int) := wrap_d HL.out.1
        have w2 : IntKind.u64.wrap (d1 : Int) = (d1 : Int) := wrap_d HL.out.2.1
        have w3 : IntKind.u64.wrap ((d : Int) - (c : Int)) = K := by rw [IntKind.wrap_u64]; omega
        have w4 : IntKind.u64.wrap (K - (d1 : Int)) = Q := by rw [IntKind.wrap_u64]; omega
        have HD : Hid (Q % 4294967296 = (dg (x - y) j : Nat) ∧ Q / 9223372036854775808 = (subb x y (j + 1) : Nat)) := HKY.out d d1 c Q rfl rfl rfl hQ
        clear hd hd1 hc hB hK hQ
        go_wp2_with (at_builtin; refine wpList_append_own _ rfl _ _ 22 rfl w.heap.size 65 i0 (.int .u32 0) 1 4 Tryz.underlying22 hi0 hz0 hz1 hz2 rfl (by decide) _ _ _ rfl (ho.alloc _) ⟨wr.heap.size, 0, none⟩ 1 1 [.int .u32 (Q % 4294967296)] rfl rfl (cell_one_new _ _ _) (by intro u hu; simp at hu; subst hu; rfl) (by unfold maxLen; omega) (by omega) (by simp; omega) ?_)
        intro v' w5 hown5 hgrow _
        obtain ⟨r1, r2⟩ := row_step HD.out.1 HB.out HO.out hown5 hgrow
        have HR : Hid (w5.ownsRow w.heap.size 65 1 v' (j + 1) (cells (x - y) (j + 1)) ∧ Below w.heap.size w w5) := ⟨r1, r2⟩
        clear hown5 hgrow r1 r2 ho
        go_wp2
        exact ⟨⟨j + 1, by omega, by rw [HD.out.2], by simp, HR.out⟩, by simp [intOf]; omega⟩
      · have hji2 : ¬ (j : Int) < (nb : Int) := by omega
        have hd1 : dg y j = 0 := dg_past (by rw [HXY.out.2]; omega)
        generalize hd : dg x j = d at *
        generalize hc : subb x y j = c at *
        obtain ⟨Q, hQ⟩ : ∃ Q : Int, Q = ((d : Int) - c - ((0 : Nat) : Int)) % 18446744073709551616 := ⟨_, rfl⟩
        have w1 : IntKind.u64.wrap (d : Int) = (d : Int) := wrap_d HL.out.1
        have w3 : IntKind.u64.wrap ((d : Int) - (c : Int)) = Q := by rw [IntKind.wrap_u64]; omega
        have HD : Hid (Q % 4294967296 = (dg (x - y) j : Nat) ∧ Q / 9223372036854775808 = (subb x y (j + 1) : Nat)) := HKY.out d 0 c Q rfl hd1 rfl hQ
        clear hd hd1 hc hB hQ
        go_wp2_with (at_builtin; refine wpList_append_own _ rfl _ _ 22 rfl w.heap.size 65 i0 (.int .u32 0) 1 4 Tryz.underlying22 hi0 hz0 hz1 hz2 rfl (by decide) _ _ _ rfl (ho.alloc _) ⟨wr.heap.size, 0, none⟩ 1 1 [.int .u32 (Q % 4294967296)] rfl rfl (cell_one_new _ _ _) (by intro u hu; simp at hu; subst hu; rfl) (by unfold maxLen; omega) (by omega) (by simp; omega) ?_)
        intro v' w5 hown5 hgrow _
        obtain ⟨r1, r2⟩ := row_step HD.out.1 HB.out HO.out hown5 hgrow
        have HR : Hid (w5.ownsRow w.heap.size 65 1 v' (j + 1) (cells (x - y) (j + 1)) ∧ Below w.heap.size w w5) := ⟨r1, r2⟩
        clear hown5 hgrow r1 r2 ho
        go_wp2
        exact ⟨⟨j + 1, by omega, by rw [HD.out.2], by simp, HR.out⟩, by simp [intOf]; omega⟩
    · obtain rfl : j = na := by omega
      obtain ⟨ao', cap', rfl, hcp, hA⟩ := at_of_row ho
      have hL : dlen (x - y) ≤ j := by have := HXY.out.1; rw [← this]; exact dlen_mono (Nat.sub_le ..)
      have HR : Hid (Ir wr (.slice ao' (dlen (x - y)) cap') (x - y)) := ⟨ao', cap', rfl, by omega, at_short hA hL⟩
      have k40 := r40 ao' j cap' (x - y) wr hL hcp (by omega) hA
      generalize subb x y j = c at *
      clear ho hB hA
      go_wp2_with (first | (go_at_call 111; refine k40.mono ?_; rintro e w' ⟨rfl, rfl⟩))
      go_ret
      exact ⟨_, rfl, HR.out, HB.out⟩

theorem rless {u v : Value} {x y : Nat} {w : World} (h1 : Ir w u x) (h2 : Ir w v y) (hx : dlen x ≤ 1000000000) (hle : y ≤ x) :
    Calls Tryz.prog 185 #[u, v] w fun e w' => ∃ v, e = .returned v ∧ Ir w' v (x - y) ∧ Below w.heap.size w w' := by
  obtain ⟨ao, ca, rfl, a1, ba, oa, a3, a4⟩ := h1
  obtain ⟨bo, cb, rfl, b1, bb, ob, b3, b4⟩ := h2
  exact rless_1 ao bo ba oa bb ob _ _ ca cb x y w a3 b3 hx rfl rfl hle a4 b4

theorem made_row {w : World} {z n : Nat} (hn : n ≤ maxLen) (h : ∀ i, i < n → dg z i = 0) : (w.alloc (.cells (madeCells #[.int .u32 0] n) 65)).ownsRow w.heap.size 65 1 (.slice (some ⟨w.heap.size, 0, none⟩) n n) n (cells z n) := by
  obtain ⟨c, hc, hs, hf⟩ := World.rowIs_made w (.int .u32 0) n 65
  refine ⟨by rw [cells_length, Nat.mul_one], .inr ⟨w.heap.size, n, c, rfl, Nat.le_refl _, hc, Nat.le_refl _, hn, by omega, ?_⟩⟩
  apply List.ext_getElem?
  intro i
  rw [Nat.mul_one, List.getElem?_take]
  by_cases hi : i < n
  · rw [if_pos hi, Array.getElem?_toList, hf i hi, cells_get hi, h i hi]; rfl
  · rw [if_neg hi, List.getElem?_eq_none (by rw [cells_length]; omega)]

theorem up_word {d c p : Nat} (hd : d < B) (hp : p < 32) (hc : c < 2 ^ p) : bits .or .u64 (IntKind.u64.wrap (IntKind.u64.wrap (d : Int) * 2 ^ p)) (IntKind.u64.wrap (c : Int)) = ((c + d * 2 ^ p : Nat) : Int) := by
  have h1 := shl_word hd hp
  have h2 := two_small hp
  have h3 := mul_small hd h2
  have hcB : c < B := by unfold B; omega
  rw [h1, wrap_d hcB, u64_or_nat _ _ (by omega) (by unfold B at hcB; omega), or_add (p := p) (Nat.mul_mod_left ..) hc, Nat.add_comm]

set_option maxHeartbeats 4000000 in
set_option maxRecDepth 200000 in
theorem rup_1 (b o cap n x k whole part : Nat) (w : World) (hn0 : 0 < n) (hn : n ≤ 1000000000) (hk : k ≤ 1000000000) (hwh : k / 32 = whole) (hpa : k % 32 = part) (hx : dlen x = n) (hcell : ∀ i, i < n → w.cell? ⟨b, o + i, none⟩ = some (.int .u32 (dg x i : Nat))) :
    Calls Tryz.prog 110 #[.slice (some ⟨b, o, none⟩) n cap, .int .i64 k] w fun e w' => ∃ v, e = .returned v ∧ Ir w' v (x * 2 ^ k) ∧ Below w.heap.size w w' := by
  have hq : (k : Int).tdiv 32 = ((k / 32 : Nat) : Int) := by rw [Int.tdiv_eq_ediv_of_nonneg (by omega)]; rfl
  have hr : (k : Int).tmod 32 = ((k % 32 : Nat) : Int) := by rw [Int.tmod_eq_emod_of_nonneg (by omega)]; rfl
  rw [hwh] at hq
  rw [hpa] at hr
  have hwb : whole ≤ 1000000000 := by omega
  have hpb : part < 32 := by omega
  have hmk := run_make_row' (P := Tryz.prog) 22 65 (.int .u32 0) 4 Tryz.underlying22 Tryz.info65 rfl .i64 .i64 whole (by omega) (by omega)
  have hn0' : ((n : Int) == 0) = false := by simp; omega
  have HN : Hid (dlen x = n ∧ k / 32 = whole ∧ k % 32 = part) := ⟨hx, hwh, hpa⟩
  have HZ : Hid (∀ i, i < whole → dg (x * 2 ^ k) i = 0) := fun i hi => by rw [shl_split, hwh, dg_shl_low hi]
  have HCA : Hid (∀ i, i < n → w.cell? ⟨b, o + i, none⟩ = some (.int .u32 (dg x i : Nat))) := hcell
  have HST : Hid (∀ j, dg (x * 2 ^ k) (whole + j) = (mulc x (2 ^ part) j + dg x j * 2 ^ part) % B) := fun j => by rw [shl_split, hwh, hpa, dg_shl, dg_mul]
  clear hx hwh hpa hcell
  go_enter Tryz.func110, Tryz.ntmps110
  go_wp2
  clear hmk
  go_loopw [5, 7, 8] (fun v c i wr => ∃ j : Nat, j ≤ n ∧ c = .int .u32 (mulc x (2 ^ part) j : Nat) ∧ i = .int .i64 j ∧ wr.ownsRow w.heap.size 65 1 v (whole + j) (cells (x * 2 ^ k) (whole + j)) ∧ Below w.heap.size w wr) (fun _ _ i _ => n - (intOf i).toNat)
  case atStart => exact ⟨0, Nat.zero_le _, by rw [mulc_zero]; rfl, rfl, made_row (by unfold maxLen; omega) HZ.out, (Below.refl _ _).alloc (Nat.le_refl _) _⟩
  case round =>
    obtain ⟨j, hj, rfl, rfl, ho, hB⟩ := hrel
    have HO : Hid (wr.ownsRow w.heap.size 65 1 u5 (whole + j) (cells (x * 2 ^ k) (whole + j))) := ho
    have HB : Hid (Below w.heap.size w wr) := hB
    have hbs : w.heap.size ≤ wr.heap.size := hB.size
    obtain ⟨i0, hi0, hz0, hz1, hz2⟩ := info_parts Tryz.info65
    by_cases hja : j < n
    · have g1 := (hB.cell (World.block_lt_of_cell? _ _ (HCA.out j hja))).trans (HCA.out j hja)
      have hji : (j : Int) < (n : Int) := by omega
      have hcl := mulc_lt (x := x) (i := j) (Nat.two_pow_pos part)
      have hdl := dg_lt x j
      have hst := HST.out j
      have hsc := mulc_succ x (2 ^ part) j
      have h2 := two_small hpb
      generalize hd : dg x j = d at *
      generalize hc : mulc x (2 ^ part) j = c at *
      have h3 := mul_small hdl h2
      obtain ⟨T, hT⟩ : ∃ T : Nat, T = c + d * 2 ^ part := ⟨_, rfl⟩
      have w1 : bits .or .u64 (IntKind.u64.wrap (IntKind.u64.wrap (d : Int) * 2 ^ part)) (IntKind.u64.wrap (c : Int)) = (T : Int) := by rw [hT]; exact up_word hdl hpb hcl
      have HD : Hid ((T : Int) % 4294967296 = (dg (x * 2 ^ k) (whole + j) : Nat) ∧ (T : Int) / 4294967296 % 4294967296 = (mulc x (2 ^ part) (j + 1) : Nat)) := by
        refine ⟨?_, ?_⟩
        · rw [hst, ← hT]; unfold B; omega
        · rw [hsc, ← hT]; unfold B; omega
      clear hd hc hB hcl hdl hst hsc h2 h3 hT
      go_wp2_with (at_builtin; refine wpList_append_own _ rfl _ _ 22 rfl w.heap.size 65 i0 (.int .u32 0) 1 4 Tryz.underlying22 hi0 hz0 hz1 hz2 rfl (by decide) _ _ _ rfl (ho.alloc _) ⟨wr.heap.size, 0, none⟩ 1 1 [.int .u32 ((T : Int) % 4294967296)] rfl rfl (cell_one_new _ _ _) (by intro u hu; simp at hu; subst hu; rfl) (by unfold maxLen; omega) (by omega) (by simp; omega) ?_)
      intro v' w5 hown5 hgrow _
      obtain ⟨r1, r2⟩ := row_step HD.out.1 HB.out HO.out hown5 hgrow
      have HR : Hid (w5.ownsRow w.heap.size 65 1 v' (whole + (j + 1)) (cells (x * 2 ^ k) (whole + (j + 1))) ∧ Below w.heap.size w w5) := ⟨r1, r2⟩
      clear hown5 hgrow r1 r2 ho
      go_wp2
      exact ⟨⟨j + 1, by omega, by rw [HD.out.2], by simp, HR.out⟩, by simp [intOf]; omega⟩
    · obtain rfl : j = n := by omega
      have hcl := mulc_lt (x := x) (i := j) (Nat.two_pow_pos part)
      have hst := HST.out j
      rw [dg_past (x := x) (i := j) (by rw [HN.out.1]; omega), Nat.zero_mul, Nat.add_zero] at hst
      have h2 := two_small hpb
      have hL : dlen (x * 2 ^ k) ≤ whole + j + 1 := by have := shl_len (k := k) HN.out.1; rw [HN.out.2.1] at this; exact this
      generalize hc : mulc x (2 ^ part) j = c at *
      have HD : Hid ((c : Int) = (dg (x * 2 ^ k) (whole + j) : Nat)) := (by rw [hst]; unfold B; omega : (c : Int) = (dg (x * 2 ^ k) (whole + j) : Nat))
      have HL : Hid (dlen (x * 2 ^ k) ≤ whole + j + 1) := hL
      clear hc hB hcl hst h2 hL
      go_wp2_with (at_builtin; refine wpList_append_own _ rfl _ _ 22 rfl w.heap.size 65 i0 (.int .u32 0) 1 4 Tryz.underlying22 hi0 hz0 hz1 hz2 rfl (by decide) _ _ _ rfl (ho.alloc _) ⟨wr.heap.size, 0, none⟩ 1 1 [.int .u32 (c : Int)] rfl rfl (cell_one_new _ _ _) (by intro u hu; simp at hu; subst hu; rfl) (by unfold maxLen; omega) (by omega) (by simp; omega) ?_)
      intro v' w5 hown5 hgrow _
      obtain ⟨r1, r2⟩ := row_step HD.out HB.out HO.out hown5 hgrow
      obtain ⟨ao', cap', rfl, hcp, hA⟩ := at_of_row r1
      have HR : Hid (Ir w5 (.slice ao' (dlen (x * 2 ^ k)) cap') (x * 2 ^ k) ∧ Below w.heap.size w w5) := ⟨⟨ao', cap', rfl, by have := HL.out; omega, at_short hA HL.out⟩, r2⟩
      have k40 := r40 ao' (whole + j + 1) cap' (x * 2 ^ k) w5 HL.out hcp (by omega) hA
      clear hown5 hgrow r1 r2 ho hA hcp
      go_wp2_with (first | (go_at_call 111; refine k40.mono ?_; rintro e w' ⟨rfl, rfl⟩))
      go_ret
      exact ⟨_, rfl, HR.out⟩

set_option maxRecDepth 200000 in
theorem rup_0 (ao : Option Addr) (cap : Nat) (k : Int) (w : World) :
    Calls Tryz.prog 110 #[.slice ao 0 cap, .int .i64 k] w fun e w' => e = .returned (.slice none 0 0) ∧ w' = w := by
  go_enter Tryz.func110, Tryz.ntmps110
  go_wp2
  go_ret
  exact ⟨rfl, rfl⟩

theorem rup {v : Value} {x : Nat} {w : World} (h : Ir w v x) (k : Nat) (hx : dlen x ≤ 1000000000) (hk : k ≤ 1000000000) :
    Calls Tryz.prog 110 #[v, .int .i64 k] w fun e w' => ∃ v, e = .returned v ∧ Ir w' v (x * 2 ^ k) ∧ Below w.heap.size w w' := by
  obtain ⟨ao, cap, rfl, h1, b, o, h3, h4⟩ := h
  by_cases h0 : x = 0
  · subst h0
    rw [dlen_zero]
    refine (rup_0 ao cap k w).mono ?_
    rintro e w' ⟨rfl, rfl⟩
    exact ⟨_, rfl, by rw [Nat.zero_mul]; exact Ir.nil _ _ _, Below.refl _ _⟩
  · have hl : 0 < dlen x := Nat.pos_of_ne_zero fun e => h0 (dlen_eq_zero.1 e)
    obtain rfl := h3 hl
    exact rup_1 b o cap _ x k _ _ w hl hx hk rfl rfl rfl h4
end Go.Proofs.YtmhpicccfaklcaaGreatDoor

/- The document's kept and Make. -/
namespace Go.Proofs.YtmhpicccfaklcaaGreatDoor
set_option linter.unusedVariables false
set_option linter.unusedSimpArgs false
open Go.RowKit Go.Fl64

theorem two29 {w W : World} (a b : Obj) (hW : W = (w.alloc a).alloc b) : W.heap[w.heap.size]? = some a ∧ W.heap[w.heap.size + 1]? = some b ∧ W.heap.size = w.heap.size + 1 + 1 ∧ Below w.heap.size w W := by
  subst hW
  refine ⟨?_, ?_, by simp, ((Below.refl _ _).alloc (Nat.le_refl _) _).alloc (by simp) _⟩
  · rw [Below.heap_alloc _ _ _ (by simp)]; exact heap_alloc_new _ _
  · have := heap_alloc_new (w.alloc a) b
    simpa using this

set_option maxRecDepth 200000 in
theorem r41 (s : Bool) (ao : Option Addr) (n cap : Nat) (e : Int) (V : Bool) (w : World)
    (k17 : ∀ W, Below w.heap.size w W → Calls Tryz.prog 11 #[.agg #[.bool s, .slice ao n cap, .int .i64 e]] W fun r w' => r = .returned (.bool V) ∧ Below W.heap.size W w') :
    Calls Tryz.prog 80 #[.agg #[.bool s, .slice ao n cap, .int .i64 e]] w fun r w' => r = .returned (.tuple #[if V then .agg #[.bool s, .slice ao n cap, .int .i64 e] else .agg #[.bool false, .slice none 0 0, .int .i64 0], .int .i64 (if V then 0 else 2)]) ∧ Below w.heap.size w w' := by
  obtain ⟨W, hW⟩ : ∃ W, W = (w.alloc (.cells #[.bool s, .slice ao n cap, .int .i64 e] 24)).alloc (.cells #[.bool false, .slice none 0 0, .int .i64 0] 24) := ⟨_, rfl⟩
  obtain ⟨hA, hB, hsz, hBW⟩ := two29 _ _ hW
  have k := k17 W hBW
  obtain ⟨⟨a0, a1, a2⟩, -⟩ := box_cells29 hA
  rw [hW] at a0 a1 a2
  have HX : Hid (Below w.heap.size w W ∧ W.heap.size = w.heap.size + 1 + 1 ∧ W.heap[w.heap.size]? = some (.cells #[.bool s, .slice ao n cap, .int .i64 e] 24 (0, 0)) ∧ W.heap[w.heap.size + 1]? = some (.cells #[.bool false, .slice none 0 0, .int .i64 0] 24 (0, 0))) := ⟨hBW, hsz, hA, hB⟩
  clear k17 hA hB hsz hBW
  go_enter Tryz.func80, Tryz.ntmps80
  go_wp2_with fail
  rw [← hW]
  clear hW a0 a1 a2
  refine k.mono ?_
  rintro r w1 ⟨rfl, hb1⟩
  have HA : Hid (w1.heap[w.heap.size]? = some (.cells #[.bool s, .slice ao n cap, .int .i64 e] 24 (0, 0))) := box_later HX.out.2.2.1 hb1 (by have := HX.out.2.1; omega)
  have HBx : Hid (w1.heap[w.heap.size + 1]? = some (.cells #[.bool false, .slice none 0 0, .int .i64 0] 24 (0, 0))) := box_later HX.out.2.2.2 hb1 (by have := HX.out.2.1; omega)
  have HB1 : Hid (Below w.heap.size w w1) := HX.out.1.trans (hb1.mono HX.out.1.size)
  obtain ⟨⟨a0, a1, a2⟩, -⟩ := box_cells29 HA.out
  obtain ⟨⟨b0, b1, b2⟩, b3, b4, b5⟩ := box_cells29 HBx.out
  clear k hb1
  cases V
  · go_wp2_with fail
    refine bodyPost_ret (results_cell_tmp_row rfl _ _ (w.heap.size + 1) 24 #[.bool false, .slice none 0 0, .int .i64 0] (0, 0) _ rfl (store3_29 _ _ _ HBx.out) Tryz.underlying24 rfl Tryz.info24) rfl ?_
    exact ⟨rfl, below_store3 HB1.out (by omega) _ _ _⟩
  · go_wp2_with fail
    refine bodyPost_ret (results_cell_tmp_row rfl _ _ (w.heap.size + 1) 24 #[.bool s, .slice ao n cap, .int .i64 e] (0, 0) _ rfl (store3_29 _ _ _ HBx.out) Tryz.underlying24 rfl Tryz.info24) rfl ?_
    exact ⟨rfl, below_store3 HB1.out (by omega) _ _ _⟩

theorem tz_in {x : Nat} (hx0 : x ≠ 0) : tz x / 32 < dlen x := by
  have h1 := (tz_spec _ x (Nat.le_refl _) hx0)
  have h2 : 2 ^ tz x ≤ x := by
    have h3 : 1 ≤ x / 2 ^ tz x := Nat.pos_of_ne_zero fun e0 => by have := h1.2; rw [e0] at this; simp at this
    have := Nat.mul_le_mul_left (2 ^ tz x) h3
    omega
  have h4 := lt_bl x
  have h5 : tz x < bl x := Nat.lt_of_not_le fun h6 => by
    have := Nat.pow_le_pow_right (n := 2) (by omega) h6
    omega
  have hd0 : dlen x ≠ 0 := fun e => hx0 (dlen_eq_zero.1 e)
  have := bl_top hx0
  have := bl_le32 (dg_lt x (dlen x - 1))
  omega

/-- what the document's Make answers of digits that are not all noughts -/
def Mk29 (w w' : World) (neg V : Bool) (y : Nat) (E : Int) (r : Ending) : Prop :=
  ∃ g cap, r = .returned (.tuple #[if V then .agg #[.bool neg, .slice (some ⟨g, 0, none⟩) (dlen y) cap, .int .i64 E] else .agg #[.bool false, .slice none 0 0, .int .i64 0], .int .i64 (if V then 0 else 2)]) ∧ w.heap.size < g ∧ At w' (some ⟨g, 0, none⟩) (dlen y) y
theorem lt_of_box' {w : World} {g : Nat} {o : Obj} (h : w.heap[g]? = some o) : g < w.heap.size := (Array.getElem?_eq_some_iff.1 h).1

end Go.Proofs.YtmhpicccfaklcaaGreatDoor
