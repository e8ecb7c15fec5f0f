/- Own work: contracts of the program's functions, part 18: SO4 SO5 SO6 SO7. -/
import Derived.Test.YtcoclopllbfjcaaGreatDoorA17
import Derived.Test.YtcoclopllbfjcaaGreatDoorA14

/- The document's ends multiplied. -/
namespace Go.Proofs.YtcoclopllbfjcaaGreatDoor
set_option linter.unusedVariables false
set_option linter.unusedSimpArgs false
open Go.RowKit Go.Fl64
attribute [local go_sem] run_store_flt

set_option maxHeartbeats 8000000 in
set_option maxRecDepth 200000 in
theorem dtimes_z1 (i j eA eB : Int) (sA sB : Bool) (aoA aoB : Option Addr) (nA capA nB capB : Nat) (sa sb : Int) (w : World) (ka : ∀ W, Below w.heap.size w W → Calls Tryz.prog 86 #[.agg #[.int .i64 i, .bool sA, .slice aoA nA capA, .int .i64 eA]] W fun r w' => r = .returned (.int .i64 sa) ∧ Below W.heap.size W w') (kb : ∀ W, Below w.heap.size w W → Calls Tryz.prog 86 #[.agg #[.int .i64 j, .bool sB, .slice aoB nB capB, .int .i64 eB]] W fun r w' => r = .returned (.int .i64 sb) ∧ Below W.heap.size W w') (hz : sa = 0) :
    Calls Tryz.prog 38 #[.agg #[.int .i64 i, .bool sA, .slice aoA nA capA, .int .i64 eA], .agg #[.int .i64 j, .bool sB, .slice aoB nB capB, .int .i64 eB]] w fun r w' => r = .returned (.agg #[.int .i64 0, .bool false, .slice none 0 0, .int .i64 0]) ∧ Below w.heap.size w w' := by
  obtain ⟨W, hW⟩ : ∃ W, W = ((w.alloc (.cells #[.int .i64 i, .bool sA, .slice aoA nA capA, .int .i64 eA] 61)).alloc (.cells #[.int .i64 j, .bool sB, .slice aoB nB capB, .int .i64 eB] 61)).alloc (.cells #[.int .i64 0, .bool false, .slice none 0 0, .int .i64 0] 61) := ⟨_, rfl⟩
  have HX : Hid (Below w.heap.size w W ∧ EnB W (w.heap.size) (.int .i64 i) (.bool sA) (.slice aoA nA capA) (.int .i64 eA) ∧ EnB W (w.heap.size + 1) (.int .i64 j) (.bool sB) (.slice aoB nB capB) (.int .i64 eB) ∧ EnB W (w.heap.size + 1 + 1) (.int .i64 0) (.bool false) (.slice none 0 0) (.int .i64 0)) := by
    rw [hW]
    refine ⟨(((Below.refl _ _).alloc (Nat.le_refl _) _).alloc (by simp) _).alloc (by simp; omega) _, ((EnB.new _ _ _ _ _).alloc _).alloc _, ?_, ?_⟩
    · have := (EnB.new (w.alloc (.cells #[.int .i64 i, .bool sA, .slice aoA nA capA, .int .i64 eA] 61)) (.int .i64 j) (.bool sB) (.slice aoB nB capB) (.int .i64 eB)).alloc (.cells #[.int .i64 0, .bool false, .slice none 0 0, .int .i64 0] 61)
      simpa using this
    · have := EnB.new ((w.alloc (.cells #[.int .i64 i, .bool sA, .slice aoA nA capA, .int .i64 eA] 61)).alloc (.cells #[.int .i64 j, .bool sB, .slice aoB nB capB, .int .i64 eB] 61)) (.int .i64 0) (.bool false) (.slice none 0 0) (.int .i64 0)
      simpa using this
  have HKK : Hid (∀ w', Below W.heap.size W w' → (w'.cell? ⟨w.heap.size, 0, none⟩ = some (.int .i64 i) ∧ w'.cell? ⟨w.heap.size, 1, none⟩ = some (.bool sA) ∧ w'.cell? ⟨w.heap.size, 2, none⟩ = some (.slice aoA nA capA) ∧ w'.cell? ⟨w.heap.size, 3, none⟩ = some (.int .i64 eA)) ∧ (w'.cell? ⟨w.heap.size + 1, 0, none⟩ = some (.int .i64 j) ∧ w'.cell? ⟨w.heap.size + 1, 1, none⟩ = some (.bool sB) ∧ w'.cell? ⟨w.heap.size + 1, 2, none⟩ = some (.slice aoB nB capB) ∧ w'.cell? ⟨w.heap.size + 1, 3, none⟩ = some (.int .i64 eB))) := fun w' h => ⟨(HX.out.2.1.box h).facts.1, (HX.out.2.2.1.box h).facts.1⟩
  have HKA : Hid (∀ W, Below w.heap.size w W → Calls Tryz.prog 86 #[.agg #[.int .i64 i, .bool sA, .slice aoA nA capA, .int .i64 eA]] W fun r w' => r = .returned (.int .i64 sa) ∧ Below W.heap.size W w') := ka
  have HKB : Hid (∀ W, Below w.heap.size w W → Calls Tryz.prog 86 #[.agg #[.int .i64 j, .bool sB, .slice aoB nB capB, .int .i64 eB]] W fun r w' => r = .returned (.int .i64 sb) ∧ Below W.heap.size W w') := kb
  clear ka kb
  obtain ⟨⟨a0, a1, a2, a3⟩, b0, b1, b2, b3⟩ := HKK.out W (Below.refl _ _)
  have kk := HKA.out W HX.out.1
  go_enter Tryz.func38, Tryz.ntmps38
  go_upto_region 1 with fail
  rw [← hW]
  clear hW
  go_wp2_with fail
  refine kk.mono ?_
  rintro r w1 ⟨rfl, hb⟩
  have HB1 : Hid (Below W.heap.size W w1) := hb
  clear kk hb a0 a1 a2 a3 b0 b1 b2 b3
  obtain ⟨⟨a0, a1, a2, a3⟩, b0, b1, b2, b3⟩ := HKK.out w1 HB1.out
  subst hz
  obtain ⟨⟨x0, x1, x2, x3⟩, x4, x5, x6, x7⟩ := (HX.out.2.2.2.box HB1.out).facts
  have HF : Hid (EnB w1 (w.heap.size + 1 + 1) (.int .i64 0) (.bool false) (.slice none 0 0) (.int .i64 0) ∧ Below w.heap.size w w1) := ⟨HX.out.2.2.2.box HB1.out, HX.out.1.trans (HB1.out.mono HX.out.1.size)⟩
  clear HX HKK HKA HKB a0 a1 a2 a3 b0 b1 b2 b3
  go_wp2
  refine bodyPost_ret (results_cell_row rfl _ _ (w.heap.size + 1 + 1) 61 #[.int .i64 0, .bool false, .slice none 0 0, .int .i64 0] (0, 0) _ rfl (HF.out.1.set _ _ _ _) Tryz.underlying61 rfl en_info) rfl ?_
  exact ⟨rfl, below_store4 HF.out.2 (by omega) _ _ _ _⟩
set_option maxHeartbeats 8000000 in
set_option maxRecDepth 200000 in
theorem dtimes_z2 (i j eA eB : Int) (sA sB : Bool) (aoA aoB : Option Addr) (nA capA nB capB : Nat) (sa sb : Int) (w : World) (ka : ∀ W, Below w.heap.size w W → Calls Tryz.prog 86 #[.agg #[.int .i64 i, .bool sA, .slice aoA nA capA, .int .i64 eA]] W fun r w' => r = .returned (.int .i64 sa) ∧ Below W.heap.size W w') (kb : ∀ W, Below w.heap.size w W → Calls Tryz.prog 86 #[.agg #[.int .i64 j, .bool sB, .slice aoB nB capB, .int .i64 eB]] W fun r w' => r = .returned (.int .i64 sb) ∧ Below W.heap.size W w') (hsa : sa ≠ 0) (hz : sb = 0) :
    Calls Tryz.prog 38 #[.agg #[.int .i64 i, .bool sA, .slice aoA nA capA, .int .i64 eA], .agg #[.int .i64 j, .bool sB, .slice aoB nB capB, .int .i64 eB]] w fun r w' => r = .returned (.agg #[.int .i64 0, .bool false, .slice none 0 0, .int .i64 0]) ∧ Below w.heap.size w w' := by
  obtain ⟨W, hW⟩ : ∃ W, W = ((w.alloc (.cells #[.int .i64 i, .bool sA, .slice aoA nA capA, .int .i64 eA] 61)).alloc (.cells #[.int .i64 j, .bool sB, .slice aoB nB capB, .int .i64 eB] 61)).alloc (.cells #[.int .i64 0, .bool false, .slice none 0 0, .int .i64 0] 61) := ⟨_, rfl⟩
  have HX : Hid (Below w.heap.size w W ∧ EnB W (w.heap.size) (.int .i64 i) (.bool sA) (.slice aoA nA capA) (.int .i64 eA) ∧ EnB W (w.heap.size + 1) (.int .i64 j) (.bool sB) (.slice aoB nB capB) (.int .i64 eB) ∧ EnB W (w.heap.size + 1 + 1) (.int .i64 0) (.bool false) (.slice none 0 0) (.int .i64 0)) := by
    rw [hW]
    refine ⟨(((Below.refl _ _).alloc (Nat.le_refl _) _).alloc (by simp) _).alloc (by simp; omega) _, ((EnB.new _ _ _ _ _).alloc _).alloc _, ?_, ?_⟩
    · have := (EnB.new (w.alloc (.cells #[.int .i64 i, .bool sA, .slice aoA nA capA, .int .i64 eA] 61)) (.int .i64 j) (.bool sB) (.slice aoB nB capB) (.int .i64 eB)).alloc (.cells #[.int .i64 0, .bool false, .slice none 0 0, .int .i64 0] 61)
      simpa using this
    · have := EnB.new ((w.alloc (.cells #[.int .i64 i, .bool sA, .slice aoA nA capA, .int .i64 eA] 61)).alloc (.cells #[.int .i64 j, .bool sB, .slice aoB nB capB, .int .i64 eB] 61)) (.int .i64 0) (.bool false) (.slice none 0 0) (.int .i64 0)
      simpa using this
  have HKK : Hid (∀ w', Below W.heap.size W w' → (w'.cell? ⟨w.heap.size, 0, none⟩ = some (.int .i64 i) ∧ w'.cell? ⟨w.heap.size, 1, none⟩ = some (.bool sA) ∧ w'.cell? ⟨w.heap.size, 2, none⟩ = some (.slice aoA nA capA) ∧ w'.cell? ⟨w.heap.size, 3, none⟩ = some (.int .i64 eA)) ∧ (w'.cell? ⟨w.heap.size + 1, 0, none⟩ = some (.int .i64 j) ∧ w'.cell? ⟨w.heap.size + 1, 1, none⟩ = some (.bool sB) ∧ w'.cell? ⟨w.heap.size + 1, 2, none⟩ = some (.slice aoB nB capB) ∧ w'.cell? ⟨w.heap.size + 1, 3, none⟩ = some (.int .i64 eB))) := fun w' h => ⟨(HX.out.2.1.box h).facts.1, (HX.out.2.2.1.box h).facts.1⟩
  have HKA : Hid (∀ W, Below w.heap.size w W → Calls Tryz.prog 86 #[.agg #[.int .i64 i, .bool sA, .slice aoA nA capA, .int .i64 eA]] W fun r w' => r = .returned (.int .i64 sa) ∧ Below W.heap.size W w') := ka
  have HKB : Hid (∀ W, Below w.heap.size w W → Calls Tryz.prog 86 #[.agg #[.int .i64 j, .bool sB, .slice aoB nB capB, .int .i64 eB]] W fun r w' => r = .returned (.int .i64 sb) ∧ Below W.heap.size W w') := kb
  clear ka kb
  obtain ⟨⟨a0, a1, a2, a3⟩, b0, b1, b2, b3⟩ := HKK.out W (Below.refl _ _)
  have kk := HKA.out W HX.out.1
  go_enter Tryz.func38, Tryz.ntmps38
  go_upto_region 1 with fail
  rw [← hW]
  clear hW
  go_wp2_with fail
  refine kk.mono ?_
  rintro r w1 ⟨rfl, hb⟩
  have HB1 : Hid (Below W.heap.size W w1) := hb
  clear kk hb a0 a1 a2 a3 b0 b1 b2 b3
  obtain ⟨⟨a0, a1, a2, a3⟩, b0, b1, b2, b3⟩ := HKK.out w1 HB1.out
  have e1 : (sa == 0) = false := by simp [hsa]
  have kk := HKB.out w1 (HX.out.1.trans (HB1.out.mono HX.out.1.size))
  go_wp2_with fail
  refine kk.mono ?_
  rintro r w2 ⟨rfl, hb⟩
  have HB2 : Hid (Below W.heap.size W w2) := HB1.out.trans (hb.mono HB1.out.size)
  clear kk hb HB1 a0 a1 a2 a3 b0 b1 b2 b3
  obtain ⟨⟨a0, a1, a2, a3⟩, b0, b1, b2, b3⟩ := HKK.out w2 HB2.out
  subst hz
  obtain ⟨⟨x0, x1, x2, x3⟩, x4, x5, x6, x7⟩ := (HX.out.2.2.2.box HB2.out).facts
  have HF : Hid (EnB w2 (w.heap.size + 1 + 1) (.int .i64 0) (.bool false) (.slice none 0 0) (.int .i64 0) ∧ Below w.heap.size w w2) := ⟨HX.out.2.2.2.box HB2.out, HX.out.1.trans (HB2.out.mono HX.out.1.size)⟩
  clear HX HKK HKA HKB a0 a1 a2 a3 b0 b1 b2 b3
  go_wp2
  refine bodyPost_ret (results_cell_row rfl _ _ (w.heap.size + 1 + 1) 61 #[.int .i64 0, .bool false, .slice none 0 0, .int .i64 0] (0, 0) _ rfl (HF.out.1.set _ _ _ _) Tryz.underlying61 rfl en_info) rfl ?_
  exact ⟨rfl, below_store4 HF.out.2 (by omega) _ _ _ _⟩
set_option maxHeartbeats 8000000 in
set_option maxRecDepth 200000 in
theorem dtimes_i1 (i j eA eB : Int) (sA sB : Bool) (aoA aoB : Option Addr) (nA capA nB capB : Nat) (sa sb : Int) (c : Int) (w : World) (ka : ∀ W, Below w.heap.size w W → Calls Tryz.prog 86 #[.agg #[.int .i64 i, .bool sA, .slice aoA nA capA, .int .i64 eA]] W fun r w' => r = .returned (.int .i64 sa) ∧ Below W.heap.size W w') (kb : ∀ W, Below w.heap.size w W → Calls Tryz.prog 86 #[.agg #[.int .i64 j, .bool sB, .slice aoB nB capB, .int .i64 eB]] W fun r w' => r = .returned (.int .i64 sb) ∧ Below W.heap.size W w') (hsa : sa ≠ 0) (hsb : sb ≠ 0) (hc : IntKind.i64.wrap (sa * sb) = c) (hij : i ≠ 0) :
    Calls Tryz.prog 38 #[.agg #[.int .i64 i, .bool sA, .slice aoA nA capA, .int .i64 eA], .agg #[.int .i64 j, .bool sB, .slice aoB nB capB, .int .i64 eB]] w fun r w' => r = .returned (.agg #[.int .i64 c, .bool false, .slice none 0 0, .int .i64 0]) ∧ Below w.heap.size w w' := by
  obtain ⟨W, hW⟩ : ∃ W, W = ((w.alloc (.cells #[.int .i64 i, .bool sA, .slice aoA nA capA, .int .i64 eA] 61)).alloc (.cells #[.int .i64 j, .bool sB, .slice aoB nB capB, .int .i64 eB] 61)).alloc (.cells #[.int .i64 0, .bool false, .slice none 0 0, .int .i64 0] 61) := ⟨_, rfl⟩
  have HX : Hid (Below w.heap.size w W ∧ EnB W (w.heap.size) (.int .i64 i) (.bool sA) (.slice aoA nA capA) (.int .i64 eA) ∧ EnB W (w.heap.size + 1) (.int .i64 j) (.bool sB) (.slice aoB nB capB) (.int .i64 eB) ∧ EnB W (w.heap.size + 1 + 1) (.int .i64 0) (.bool false) (.slice none 0 0) (.int .i64 0)) := by
    rw [hW]
    refine ⟨(((Below.refl _ _).alloc (Nat.le_refl _) _).alloc (by simp) _).alloc (by simp; omega) _, ((EnB.new _ _ _ _ _).alloc _).alloc _, ?_, ?_⟩
    · have := (EnB.new (w.alloc (.cells #[.int .i64 i, .bool sA, .slice aoA nA capA, .int .i64 eA] 61)) (.int .i64 j) (.bool sB) (.slice aoB nB capB) (.int .i64 eB)).alloc (.cells #[.int .i64 0, .bool false, .slice none 0 0, .int .i64 0] 61)
      simpa using this
    · have := EnB.new ((w.alloc (.cells #[.int .i64 i, .bool sA, .slice aoA nA capA, .int .i64 eA] 61)).alloc (.cells #[.int .i64 j, .bool sB, .slice aoB nB capB, .int .i64 eB] 61)) (.int .i64 0) (.bool false) (.slice none 0 0) (.int .i64 0)
      simpa using this
  have HKK : Hid (∀ w', Below W.heap.size W w' → (w'.cell? ⟨w.heap.size, 0, none⟩ = some (.int .i64 i) ∧ w'.cell? ⟨w.heap.size, 1, none⟩ = some (.bool sA) ∧ w'.cell? ⟨w.heap.size, 2, none⟩ = some (.slice aoA nA capA) ∧ w'.cell? ⟨w.heap.size, 3, none⟩ = some (.int .i64 eA)) ∧ (w'.cell? ⟨w.heap.size + 1, 0, none⟩ = some (.int .i64 j) ∧ w'.cell? ⟨w.heap.size + 1, 1, none⟩ = some (.bool sB) ∧ w'.cell? ⟨w.heap.size + 1, 2, none⟩ = some (.slice aoB nB capB) ∧ w'.cell? ⟨w.heap.size + 1, 3, none⟩ = some (.int .i64 eB))) := fun w' h => ⟨(HX.out.2.1.box h).facts.1, (HX.out.2.2.1.box h).facts.1⟩
  have HKA : Hid (∀ W, Below w.heap.size w W → Calls Tryz.prog 86 #[.agg #[.int .i64 i, .bool sA, .slice aoA nA capA, .int .i64 eA]] W fun r w' => r = .returned (.int .i64 sa) ∧ Below W.heap.size W w') := ka
  have HKB : Hid (∀ W, Below w.heap.size w W → Calls Tryz.prog 86 #[.agg #[.int .i64 j, .bool sB, .slice aoB nB capB, .int .i64 eB]] W fun r w' => r = .returned (.int .i64 sb) ∧ Below W.heap.size W w') := kb
  clear ka kb
  obtain ⟨⟨a0, a1, a2, a3⟩, b0, b1, b2, b3⟩ := HKK.out W (Below.refl _ _)
  have kk := HKA.out W HX.out.1
  go_enter Tryz.func38, Tryz.ntmps38
  go_upto_region 1 with fail
  rw [← hW]
  clear hW
  go_wp2_with fail
  refine kk.mono ?_
  rintro r w1 ⟨rfl, hb⟩
  have HB1 : Hid (Below W.heap.size W w1) := hb
  clear kk hb a0 a1 a2 a3 b0 b1 b2 b3
  obtain ⟨⟨a0, a1, a2, a3⟩, b0, b1, b2, b3⟩ := HKK.out w1 HB1.out
  have e1 : (sa == 0) = false := by simp [hsa]
  have kk := HKB.out w1 (HX.out.1.trans (HB1.out.mono HX.out.1.size))
  go_wp2_with fail
  refine kk.mono ?_
  rintro r w2 ⟨rfl, hb⟩
  have HB2 : Hid (Below W.heap.size W w2) := HB1.out.trans (hb.mono HB1.out.size)
  clear kk hb HB1 a0 a1 a2 a3 b0 b1 b2 b3
  obtain ⟨⟨a0, a1, a2, a3⟩, b0, b1, b2, b3⟩ := HKK.out w2 HB2.out
  have e2 : (sb == 0) = false := by simp [hsb]
  have e3 : (i != 0) = true := by simp [hij]
  clear hij
  have hR : Below W.heap.size W w2.drew := HB2.out.drew
  have qa : ∀ W', Below W.heap.size W W' → Calls Tryz.prog 86 #[.agg #[.int .i64 i, .bool sA, .slice aoA nA capA, .int .i64 eA]] W' fun r w' => r = .returned (.int .i64 sa) ∧ Below W.heap.size W w' := fun W' h => (HKA.out W' (HX.out.1.trans (h.mono HX.out.1.size))).mono fun r w' ⟨e1, e2⟩ => ⟨e1, h.trans (e2.mono h.size)⟩
  have qb : ∀ W', Below W.heap.size W W' → Calls Tryz.prog 86 #[.agg #[.int .i64 j, .bool sB, .slice aoB nB capB, .int .i64 eB]] W' fun r w' => r = .returned (.int .i64 sb) ∧ Below W.heap.size W w' := fun W' h => (HKB.out W' (HX.out.1.trans (h.mono HX.out.1.size))).mono fun r w' ⟨e1, e2⟩ => ⟨e1, h.trans (e2.mono h.size)⟩
  clear HKA HKB
  go_upto_region 4 with fail
  go_region_held3 (fun w' => (w'.cell? ⟨w.heap.size, 0, none⟩ = some (.int .i64 i) ∧ w'.cell? ⟨w.heap.size, 1, none⟩ = some (.bool sA) ∧ w'.cell? ⟨w.heap.size, 2, none⟩ = some (.slice aoA nA capA) ∧ w'.cell? ⟨w.heap.size, 3, none⟩ = some (.int .i64 eA)) ∧ (w'.cell? ⟨w.heap.size + 1, 0, none⟩ = some (.int .i64 j) ∧ w'.cell? ⟨w.heap.size + 1, 1, none⟩ = some (.bool sB) ∧ w'.cell? ⟨w.heap.size + 1, 2, none⟩ = some (.slice aoB nB capB) ∧ w'.cell? ⟨w.heap.size + 1, 3, none⟩ = some (.int .i64 eB))) (first | (with_reducible assumption) | (with_reducible exact HKK.out _ hR) | (with_reducible refine HKK.out _ ?_; with_reducible assumption) | (refine ⟨⟨?_, ?_, ?_, ?_⟩, ?_, ?_, ?_, ?_⟩ <;> (change World.cell? (World.setCell (World.setCell (World.setCell (World.setCell _ _ _) _ _) _ _) _ _) _ = _; rw [World.cell?_setCell_other _ _ _ _ (by simp), World.cell?_setCell_other _ _ _ _ (by simp), World.cell?_setCell_other _ _ _ _ (by simp), World.cell?_setCell_other _ _ _ _ (by simp)]; first | exact (HKK.out _ B).1.1 | exact (HKK.out _ B).1.2.1 | exact (HKK.out _ B).1.2.2.1 | exact (HKK.out _ B).1.2.2.2 | exact (HKK.out _ B).2.1 | exact (HKK.out _ B).2.2.1 | exact (HKK.out _ B).2.2.2.1 | exact (HKK.out _ B).2.2.2.2)) | go_keep)
    (first | (go_at_call 86; with_reducible refine (qa _ (by first | (with_reducible assumption) | exact hR)).mono ?_; rintro r v1 ⟨rfl, B⟩)
           | (go_at_call 86; with_reducible refine (qb _ (by with_reducible assumption)).mono ?_; rintro r v2 ⟨rfl, hq⟩; replace B := hq; obtain ⟨⟨x0, x1, x2, x3⟩, x4, x5, x6, x7⟩ := (HX.out.2.2.2.box hq).facts; clear hq))
  have HF : Hid (EnB v2 (w.heap.size + 1 + 1) (.int .i64 0) (.bool false) (.slice none 0 0) (.int .i64 0) ∧ Below w.heap.size w v2) := ⟨HX.out.2.2.2.box B, HX.out.1.trans (B.mono HX.out.1.size)⟩
  clear HX HKK qa qb a0 a1 a2 a3 b0 b1 b2 b3 B hR x0 x1 x2 x3 x4 x5 x6 x7
  go_wp2_with fail
  refine bodyPost_ret (results_cell_row rfl _ _ (w.heap.size + 1 + 1) 61 #[.int .i64 c, .bool false, .slice none 0 0, .int .i64 0] (0, 0) _ rfl (HF.out.1.set _ _ _ _) Tryz.underlying61 rfl en_info) rfl ?_
  first | exact ⟨rfl, below_store4 HF.out.2 (by omega) _ _ _ _⟩ | exact ⟨rfl, (below_store4 HF.out.2 (by omega) _ _ _ _).drew⟩
set_option maxHeartbeats 8000000 in
set_option maxRecDepth 200000 in
theorem dtimes_i2 (i j eA eB : Int) (sA sB : Bool) (aoA aoB : Option Addr) (nA capA nB capB : Nat) (sa sb : Int) (c : Int) (w : World) (ka : ∀ W, Below w.heap.size w W → Calls Tryz.prog 86 #[.agg #[.int .i64 i, .bool sA, .slice aoA nA capA, .int .i64 eA]] W fun r w' => r = .returned (.int .i64 sa) ∧ Below W.heap.size W w') (kb : ∀ W, Below w.heap.size w W → Calls Tryz.prog 86 #[.agg #[.int .i64 j, .bool sB, .slice aoB nB capB, .int .i64 eB]] W fun r w' => r = .returned (.int .i64 sb) ∧ Below W.heap.size W w') (hsa : sa ≠ 0) (hsb : sb ≠ 0) (hc : IntKind.i64.wrap (sa * sb) = c) (hij : j ≠ 0) (h0 : Hid (i = 0)) :
    Calls Tryz.prog 38 #[.agg #[.int .i64 i, .bool sA, .slice aoA nA capA, .int .i64 eA], .agg #[.int .i64 j, .bool sB, .slice aoB nB capB, .int .i64 eB]] w fun r w' => r = .returned (.agg #[.int .i64 c, .bool false, .slice none 0 0, .int .i64 0]) ∧ Below w.heap.size w w' := by
  obtain ⟨W, hW⟩ : ∃ W, W = ((w.alloc (.cells #[.int .i64 i, .bool sA, .slice aoA nA capA, .int .i64 eA] 61)).alloc (.cells #[.int .i64 j, .bool sB, .slice aoB nB capB, .int .i64 eB] 61)).alloc (.cells #[.int .i64 0, .bool false, .slice none 0 0, .int .i64 0] 61) := ⟨_, rfl⟩
  have HX : Hid (Below w.heap.size w W ∧ EnB W (w.heap.size) (.int .i64 i) (.bool sA) (.slice aoA nA capA) (.int .i64 eA) ∧ EnB W (w.heap.size + 1) (.int .i64 j) (.bool sB) (.slice aoB nB capB) (.int .i64 eB) ∧ EnB W (w.heap.size + 1 + 1) (.int .i64 0) (.bool false) (.slice none 0 0) (.int .i64 0)) := by
    rw [hW]
    refine ⟨(((Below.refl _ _).alloc (Nat.le_refl _) _).alloc (by simp) _).alloc (by simp; omega) _, ((EnB.new _ _ _ _ _).alloc _).alloc _, ?_, ?_⟩
    · have := (EnB.new (w.alloc (.cells #[.int .i64 i, .bool sA, .slice aoA nA capA, .int .i64 eA] 61)) (.int .i64 j) (.bool sB) (.slice aoB nB capB) (.int .i64 eB)).alloc (.cells #[.int .i64 0, .bool false, .slice none 0 0, .int .i64 0] 61)
      simpa using this
    · have := EnB.new ((w.alloc (.cells #[.int .i64 i, .bool sA, .slice aoA nA capA, .int .i64 eA] 61)).alloc (.cells #[.int .i64 j, .bool sB, .slice aoB nB capB, .int .i64 eB] 61)) (.int .i64 0) (.bool false) (.slice none 0 0) (.int .i64 0)
      simpa using this
  have HKK : Hid (∀ w', Below W.heap.size W w' → (w'.cell? ⟨w.heap.size, 0, none⟩ = some (.int .i64 i) ∧ w'.cell? ⟨w.heap.size, 1, none⟩ = some (.bool sA) ∧ w'.cell? ⟨w.heap.size, 2, none⟩ = some (.slice aoA nA capA) ∧ w'.cell? ⟨w.heap.size, 3, none⟩ = some (.int .i64 eA)) ∧ (w'.cell? ⟨w.heap.size + 1, 0, none⟩ = some (.int .i64 j) ∧ w'.cell? ⟨w.heap.size + 1, 1, none⟩ = some (.bool sB) ∧ w'.cell? ⟨w.heap.size + 1, 2, none⟩ = some (.slice aoB nB capB) ∧ w'.cell? ⟨w.heap.size + 1, 3, none⟩ = some (.int .i64 eB))) := fun w' h => ⟨(HX.out.2.1.box h).facts.1, (HX.out.2.2.1.box h).facts.1⟩
  have HKA : Hid (∀ W, Below w.heap.size w W → Calls Tryz.prog 86 #[.agg #[.int .i64 i, .bool sA, .slice aoA nA capA, .int .i64 eA]] W fun r w' => r = .returned (.int .i64 sa) ∧ Below W.heap.size W w') := ka
  have HKB : Hid (∀ W, Below w.heap.size w W → Calls Tryz.prog 86 #[.agg #[.int .i64 j, .bool sB, .slice aoB nB capB, .int .i64 eB]] W fun r w' => r = .returned (.int .i64 sb) ∧ Below W.heap.size W w') := kb
  clear ka kb
  obtain ⟨⟨a0, a1, a2, a3⟩, b0, b1, b2, b3⟩ := HKK.out W (Below.refl _ _)
  have kk := HKA.out W HX.out.1
  go_enter Tryz.func38, Tryz.ntmps38
  go_upto_region 1 with fail
  rw [← hW]
  clear hW
  go_wp2_with fail
  refine kk.mono ?_
  rintro r w1 ⟨rfl, hb⟩
  have HB1 : Hid (Below W.heap.size W w1) := hb
  clear kk hb a0 a1 a2 a3 b0 b1 b2 b3
  obtain ⟨⟨a0, a1, a2, a3⟩, b0, b1, b2, b3⟩ := HKK.out w1 HB1.out
  have e1 : (sa == 0) = false := by simp [hsa]
  have kk := HKB.out w1 (HX.out.1.trans (HB1.out.mono HX.out.1.size))
  go_wp2_with fail
  refine kk.mono ?_
  rintro r w2 ⟨rfl, hb⟩
  have HB2 : Hid (Below W.heap.size W w2) := HB1.out.trans (hb.mono HB1.out.size)
  clear kk hb HB1 a0 a1 a2 a3 b0 b1 b2 b3
  obtain ⟨⟨a0, a1, a2, a3⟩, b0, b1, b2, b3⟩ := HKK.out w2 HB2.out
  have e2 : (sb == 0) = false := by simp [hsb]
  have e3 : (j != 0) = true := by simp [hij]
  clear hij
  have h0 := h0.out
  subst h0
  have hR : Below W.heap.size W w2.drew := HB2.out.drew
  have qa : ∀ W', Below W.heap.size W W' → Calls Tryz.prog 86 #[.agg #[.int .i64 0, .bool sA, .slice aoA nA capA, .int .i64 eA]] W' fun r w' => r = .returned (.int .i64 sa) ∧ Below W.heap.size W w' := fun W' h => (HKA.out W' (HX.out.1.trans (h.mono HX.out.1.size))).mono fun r w' ⟨e1, e2⟩ => ⟨e1, h.trans (e2.mono h.size)⟩
  have qb : ∀ W', Below W.heap.size W W' → Calls Tryz.prog 86 #[.agg #[.int .i64 j, .bool sB, .slice aoB nB capB, .int .i64 eB]] W' fun r w' => r = .returned (.int .i64 sb) ∧ Below W.heap.size W w' := fun W' h => (HKB.out W' (HX.out.1.trans (h.mono HX.out.1.size))).mono fun r w' ⟨e1, e2⟩ => ⟨e1, h.trans (e2.mono h.size)⟩
  clear HKA HKB
  go_upto_region 4 with fail
  go_region_held3 (fun w' => (w'.cell? ⟨w.heap.size, 0, none⟩ = some (.int .i64 0) ∧ w'.cell? ⟨w.heap.size, 1, none⟩ = some (.bool sA) ∧ w'.cell? ⟨w.heap.size, 2, none⟩ = some (.slice aoA nA capA) ∧ w'.cell? ⟨w.heap.size, 3, none⟩ = some (.int .i64 eA)) ∧ (w'.cell? ⟨w.heap.size + 1, 0, none⟩ = some (.int .i64 j) ∧ w'.cell? ⟨w.heap.size + 1, 1, none⟩ = some (.bool sB) ∧ w'.cell? ⟨w.heap.size + 1, 2, none⟩ = some (.slice aoB nB capB) ∧ w'.cell? ⟨w.heap.size + 1, 3, none⟩ = some (.int .i64 eB))) (first | (with_reducible assumption) | (with_reducible exact HKK.out _ hR) | (with_reducible refine HKK.out _ ?_; with_reducible assumption) | (refine ⟨⟨?_, ?_, ?_, ?_⟩, ?_, ?_, ?_, ?_⟩ <;> (change World.cell? (World.setCell (World.setCell (World.setCell (World.setCell _ _ _) _ _) _ _) _ _) _ = _; rw [World.cell?_setCell_other _ _ _ _ (by simp), World.cell?_setCell_other _ _ _ _ (by simp), World.cell?_setCell_other _ _ _ _ (by simp), World.cell?_setCell_other _ _ _ _ (by simp)]; first | exact (HKK.out _ B).1.1 | exact (HKK.out _ B).1.2.1 | exact (HKK.out _ B).1.2.2.1 | exact (HKK.out _ B).1.2.2.2 | exact (HKK.out _ B).2.1 | exact (HKK.out _ B).2.2.1 | exact (HKK.out _ B).2.2.2.1 | exact (HKK.out _ B).2.2.2.2)) | go_keep)
    (first | (go_at_call 86; with_reducible refine (qa _ (by first | (with_reducible assumption) | exact hR)).mono ?_; rintro r v1 ⟨rfl, B⟩)
           | (go_at_call 86; with_reducible refine (qb _ (by with_reducible assumption)).mono ?_; rintro r v2 ⟨rfl, hq⟩; replace B := hq; obtain ⟨⟨x0, x1, x2, x3⟩, x4, x5, x6, x7⟩ := (HX.out.2.2.2.box hq).facts; clear hq))
  have HF : Hid (EnB v2 (w.heap.size + 1 + 1) (.int .i64 0) (.bool false) (.slice none 0 0) (.int .i64 0) ∧ Below w.heap.size w v2) := ⟨HX.out.2.2.2.box B, HX.out.1.trans (B.mono HX.out.1.size)⟩
  clear HX HKK qa qb a0 a1 a2 a3 b0 b1 b2 b3 B hR x0 x1 x2 x3 x4 x5 x6 x7
  go_wp2_with fail
  refine bodyPost_ret (results_cell_row rfl _ _ (w.heap.size + 1 + 1) 61 #[.int .i64 c, .bool false, .slice none 0 0, .int .i64 0] (0, 0) _ rfl (HF.out.1.set _ _ _ _) Tryz.underlying61 rfl en_info) rfl ?_
  first | exact ⟨rfl, below_store4 HF.out.2 (by omega) _ _ _ _⟩ | exact ⟨rfl, (below_store4 HF.out.2 (by omega) _ _ _ _).drew⟩
set_option maxHeartbeats 8000000 in
set_option maxRecDepth 200000 in
theorem dtimes_0 (i j eA eB : Int) (sA sB : Bool) (aoA aoB : Option Addr) (nA capA nB capB : Nat) (sa sb : Int) (t : Bool × Nat × Int) (w : World) (ka : ∀ W, Below w.heap.size w W → Calls Tryz.prog 86 #[.agg #[.int .i64 i, .bool sA, .slice aoA nA capA, .int .i64 eA]] W fun r w' => r = .returned (.int .i64 sa) ∧ Below W.heap.size W w') (kb : ∀ W, Below w.heap.size w W → Calls Tryz.prog 86 #[.agg #[.int .i64 j, .bool sB, .slice aoB nB capB, .int .i64 eB]] W fun r w' => r = .returned (.int .i64 sb) ∧ Below W.heap.size W w') (kt : ∀ W, Below w.heap.size w W → Calls Tryz.prog 28 #[.agg #[.bool sA, .slice aoA nA capA, .int .i64 eA], .agg #[.bool sB, .slice aoB nB capB, .int .i64 eB]] W fun r w' => ∃ C, r = .returned C ∧ DN w' C t ∧ Below W.heap.size W w') (hsa : sa ≠ 0) (hsb : sb ≠ 0) (hi : Hid (i = 0)) (hj : Hid (j = 0)) :
    Calls Tryz.prog 38 #[.agg #[.int .i64 i, .bool sA, .slice aoA nA capA, .int .i64 eA], .agg #[.int .i64 j, .bool sB, .slice aoB nB capB, .int .i64 eB]] w fun r w' => ∃ A, r = .returned A ∧ EN w' A 0 t ∧ Below w.heap.size w w' := by
  have HKT : Hid (∀ W, Below w.heap.size w W → Calls Tryz.prog 28 #[.agg #[.bool sA, .slice aoA nA capA, .int .i64 eA], .agg #[.bool sB, .slice aoB nB capB, .int .i64 eB]] W fun r w' => ∃ C, r = .returned C ∧ DN w' C t ∧ Below W.heap.size W w') := kt
  clear kt
  obtain ⟨W, hW⟩ : ∃ W, W = ((w.alloc (.cells #[.int .i64 i, .bool sA, .slice aoA nA capA, .int .i64 eA] 61)).alloc (.cells #[.int .i64 j, .bool sB, .slice aoB nB capB, .int .i64 eB] 61)).alloc (.cells #[.int .i64 0, .bool false, .slice none 0 0, .int .i64 0] 61) := ⟨_, rfl⟩
  have HX : Hid (Below w.heap.size w W ∧ EnB W (w.heap.size) (.int .i64 i) (.bool sA) (.slice aoA nA capA) (.int .i64 eA) ∧ EnB W (w.heap.size + 1) (.int .i64 j) (.bool sB) (.slice aoB nB capB) (.int .i64 eB) ∧ EnB W (w.heap.size + 1 + 1) (.int .i64 0) (.bool false) (.slice none 0 0) (.int .i64 0)) := by
    rw [hW]
    refine ⟨(((Below.refl _ _).alloc (Nat.le_refl _) _).alloc (by simp) _).alloc (by simp; omega) _, ((EnB.new _ _ _ _ _).alloc _).alloc _, ?_, ?_⟩
    · have := (EnB.new (w.alloc (.cells #[.int .i64 i, .bool sA, .slice aoA nA capA, .int .i64 eA] 61)) (.int .i64 j) (.bool sB) (.slice aoB nB capB) (.int .i64 eB)).alloc (.cells #[.int .i64 0, .bool false, .slice none 0 0, .int .i64 0] 61)
      simpa using this
    · have := EnB.new ((w.alloc (.cells #[.int .i64 i, .bool sA, .slice aoA nA capA, .int .i64 eA] 61)).alloc (.cells #[.int .i64 j, .bool sB, .slice aoB nB capB, .int .i64 eB] 61)) (.int .i64 0) (.bool false) (.slice none 0 0) (.int .i64 0)
      simpa using this
  have HKK : Hid (∀ w', Below W.heap.size W w' → (w'.cell? ⟨w.heap.size, 0, none⟩ = some (.int .i64 i) ∧ w'.cell? ⟨w.heap.size, 1, none⟩ = some (.bool sA) ∧ w'.cell? ⟨w.heap.size, 2, none⟩ = some (.slice aoA nA capA) ∧ w'.cell? ⟨w.heap.size, 3, none⟩ = some (.int .i64 eA)) ∧ (w'.cell? ⟨w.heap.size + 1, 0, none⟩ = some (.int .i64 j) ∧ w'.cell? ⟨w.heap.size + 1, 1, none⟩ = some (.bool sB) ∧ w'.cell? ⟨w.heap.size + 1, 2, none⟩ = some (.slice aoB nB capB) ∧ w'.cell? ⟨w.heap.size + 1, 3, none⟩ = some (.int .i64 eB))) := fun w' h => ⟨(HX.out.2.1.box h).facts.1, (HX.out.2.2.1.box h).facts.1⟩
  have HKA : Hid (∀ W, Below w.heap.size w W → Calls Tryz.prog 86 #[.agg #[.int .i64 i, .bool sA, .slice aoA nA capA, .int .i64 eA]] W fun r w' => r = .returned (.int .i64 sa) ∧ Below W.heap.size W w') := ka
  have HKB : Hid (∀ W, Below w.heap.size w W → Calls Tryz.prog 86 #[.agg #[.int .i64 j, .bool sB, .slice aoB nB capB, .int .i64 eB]] W fun r w' => r = .returned (.int .i64 sb) ∧ Below W.heap.size W w') := kb
  clear ka kb
  obtain ⟨⟨a0, a1, a2, a3⟩, b0, b1, b2, b3⟩ := HKK.out W (Below.refl _ _)
  have kk := HKA.out W HX.out.1
  go_enter Tryz.func38, Tryz.ntmps38
  go_upto_region 1 with fail
  rw [← hW]
  clear hW
  go_wp2_with fail
  refine kk.mono ?_
  rintro r w1 ⟨rfl, hb⟩
  have HB1 : Hid (Below W.heap.size W w1) := hb
  clear kk hb a0 a1 a2 a3 b0 b1 b2 b3
  obtain ⟨⟨a0, a1, a2, a3⟩, b0, b1, b2, b3⟩ := HKK.out w1 HB1.out
  have e1 : (sa == 0) = false := by simp [hsa]
  have kk := HKB.out w1 (HX.out.1.trans (HB1.out.mono HX.out.1.size))
  go_wp2_with fail
  refine kk.mono ?_
  rintro r w2 ⟨rfl, hb⟩
  have HB2 : Hid (Below W.heap.size W w2) := HB1.out.trans (hb.mono HB1.out.size)
  clear kk hb HB1 a0 a1 a2 a3 b0 b1 b2 b3
  obtain ⟨⟨a0, a1, a2, a3⟩, b0, b1, b2, b3⟩ := HKK.out w2 HB2.out
  have e2 : (sb == 0) = false := by simp [hsb]
  have hi := hi.out
  have hj := hj.out
  subst hi
  subst hj
  have kk := HKT.out w2 (HX.out.1.trans (HB2.out.mono HX.out.1.size))
  clear HKT HKA HKB
  go_wp2_with fail
  refine kk.mono ?_
  rintro r w3 ⟨A, rfl, hA, hb⟩
  obtain ⟨s, ao, n, cap, e, rfl⟩ := hA.shape
  have hB3 := HB2.out.trans (hb.mono HB2.out.size)
  have hE := HX.out.2.2.2.box hB3
  obtain ⟨⟨x0, x1, x2, x3⟩, x4, x5, x6, x7⟩ := hE.facts
  have HF : Hid (DN w3 (.agg #[.bool s, .slice ao n cap, .int .i64 e]) t ∧ EnB w3 (w.heap.size + 1 + 1) (.int .i64 0) (.bool false) (.slice none 0 0) (.int .i64 0) ∧ Below w.heap.size w w3) := ⟨hA, hE, HX.out.1.trans (hB3.mono HX.out.1.size)⟩
  clear hb hE hA HX kk a0 a1 a2 a3 b0 b1 b2 b3 HKK hB3 HB2
  go_wp2_with fail
  refine bodyPost_ret (results_cell_row rfl _ _ (w.heap.size + 1 + 1) 61 #[.int .i64 0, .bool s, .slice ao n cap, .int .i64 e] (0, 0) _ rfl (HF.out.2.1.set _ _ _ _) Tryz.underlying61 rfl en_info) rfl ?_
  exact ⟨_, rfl, ⟨s, ao, n, cap, e, rfl, dn_store48 HF.out.1 HF.out.2.1 _ _ _ _⟩, below_store4 HF.out.2.2 (by omega) _ _ _ _⟩
/-- two ends multiplied -/
def tmI (i j : Int) (t u : Bool × Nat × Int) : Int := if sgE i t = 0 ∨ sgE j u = 0 then 0 else if i ≠ 0 ∨ j ≠ 0 then sgE i t * sgE j u else 0
def tmT (i j : Int) (t u : Bool × Nat × Int) : Bool × Nat × Int := if sgE i t = 0 ∨ sgE j u = 0 then (false, 0, 0) else if i ≠ 0 ∨ j ≠ 0 then (false, 0, 0) else tM t u
theorem sgE_b {i : Int} (t : Bool × Nat × Int) (h : -1 ≤ i ∧ i ≤ 1) : -1 ≤ sgE i t ∧ sgE i t ≤ 1 := by
  unfold sgE
  split
  · split
    · omega
    · split <;> omega
  · exact h
theorem mul_b {x y : Int} (h1 : -1 ≤ x ∧ x ≤ 1) (h2 : -1 ≤ y ∧ y ≤ 1) : -1 ≤ x * y ∧ x * y ≤ 1 := by
  rcases (show x = -1 ∨ x = 0 ∨ x = 1 by omega) with rfl | rfl | rfl <;> omega
theorem dtimes {i j : Int} {t u : Bool × Nat × Int} {A B : Value} {w : World} (hi : -1 ≤ i ∧ i ≤ 1) (hj : -1 ≤ j ∧ j ≤ 1) (o1 : Ok t) (o2 : Ok u) (h1 : EN w A i t) (h2 : EN w B j u) :
    Calls Tryz.prog 38 #[A, B] w fun r w' => ∃ C, r = .returned C ∧ EN w' C (tmI i j t u) (tmT i j t u) ∧ Below w.heap.size w w' := by
  have h1' := h1
  have h2' := h2
  obtain ⟨sA, aoA, nA, capA, eA, rfl, d1⟩ := h1'
  obtain ⟨sB, aoB, nB, capB, eB, rfl, d2⟩ := h2'
  have ka : ∀ W, Below w.heap.size w W → _ := fun W hW => dsignE (h1.later hW)
  have kb : ∀ W, Below w.heap.size w W → _ := fun W hW => dsignE (h2.later hW)
  have hb := mul_b (sgE_b t hi) (sgE_b u hj)
  have hw : IntKind.i64.wrap (sgE i t * sgE j u) = sgE i t * sgE j u := by rw [IntKind.wrap_i64]; omega
  have zz : ∀ w' : World, EN w' (.agg #[.int .i64 0, .bool false, .slice none 0 0, .int .i64 0]) 0 (false, 0, 0) := fun w' => ⟨_, _, _, _, _, rfl, dn_nil _⟩
  unfold tmI tmT
  by_cases z1 : sgE i t = 0
  · rw [if_pos (.inl z1), if_pos (.inl z1)]
    exact (dtimes_z1 i j eA eB sA sB aoA aoB nA capA nB capB _ _ w ka kb z1).mono fun r w' ⟨e, h⟩ => ⟨_, e, zz _, h⟩
  by_cases z2 : sgE j u = 0
  · rw [if_pos (.inr z2), if_pos (.inr z2)]
    exact (dtimes_z2 i j eA eB sA sB aoA aoB nA capA nB capB _ _ w ka kb z1 z2).mono fun r w' ⟨e, h⟩ => ⟨_, e, zz _, h⟩
  have nz : ¬ (sgE i t = 0 ∨ sgE j u = 0) := by omega
  rw [if_neg nz, if_neg nz]
  by_cases i0 : i = 0
  · by_cases j0 : j = 0
    · rw [if_neg (by omega), if_neg (by omega)]
      exact dtimes_0 i j eA eB sA sB aoA aoB nA capA nB capB _ _ _ w ka kb (fun W hW => times_dn o1 o2 (d1.later hW) (d2.later hW)) z1 z2 i0 j0
    · rw [if_pos (.inr j0), if_pos (.inr j0)]
      exact (dtimes_i2 i j eA eB sA sB aoA aoB nA capA nB capB _ _ _ w ka kb z1 z2 hw j0 i0).mono fun r w' ⟨e, h⟩ => ⟨_, e, ⟨_, _, _, _, _, rfl, dn_nil _⟩, h⟩
  · rw [if_pos (.inl i0), if_pos (.inl i0)]
    exact (dtimes_i1 i j eA eB sA sB aoA aoB nA capA nB capB _ _ _ w ka kb z1 z2 hw i0).mono fun r w' ⟨e, h⟩ => ⟨_, e, ⟨_, _, _, _, _, rfl, dn_nil _⟩, h⟩
end Go.Proofs.YtcoclopllbfjcaaGreatDoor
/- The least and the greatest of ends. -/
namespace Go.Proofs.YtcoclopllbfjcaaGreatDoor
set_option linter.unusedVariables false
set_option linter.unusedSimpArgs false
open Go.RowKit Go.Fl64
attribute [local go_sem] run_store_flt

/-- which of a list's ends is the least (sg 1), the greatest (sg -1), of the first k + 1 -/
def lstE (sg : Int) (ii : Nat → Int) (tt : Nat → Bool × Nat × Int) : Nat → Nat
  | 0 => 0
  | k + 1 => if sg * ordE (ii (k + 1)) (ii (lstE sg ii tt k)) (tt (k + 1)) (tt (lstE sg ii tt k)) < 0 then k + 1 else lstE sg ii tt k
theorem lstE_step {sg : Int} {ii : Nat → Int} {tt : Nat → Bool × Nat × Int} {j m : Nat} (hj : 1 ≤ j) (hm : m = lstE sg ii tt (j - 1)) : lstE sg ii tt (j + 1 - 1) = if sg * ordE (ii j) (ii m) (tt j) (tt m) < 0 then j else m := by
  subst hm
  obtain ⟨k, rfl⟩ : ∃ k, j = k + 1 := ⟨j - 1, by omega⟩
  rfl
theorem lstE_le (sg : Int) (ii : Nat → Int) (tt : Nat → Bool × Nat × Int) : ∀ k, lstE sg ii tt k ≤ k
  | 0 => Nat.le_refl _
  | k + 1 => by
    have := lstE_le sg ii tt k
    unfold lstE
    split <;> omega
theorem en_store48 {W : World} {A : Value} {i : Int} {t : Bool × Nat × Int} {g : Nat} (h : EN W A i t) (hE : EnB W g (.int .i64 0) (.bool false) (.slice none 0 0) (.int .i64 0)) (a' b' c' d' : Value) : EN ((((W.setCell ⟨g, 0, none⟩ a').setCell ⟨g, 1, none⟩ b').setCell ⟨g, 2, none⟩ c').setCell ⟨g, 3, none⟩ d') A i t := by
  obtain ⟨s, ao, n, cap, e, h1, h2⟩ := h
  exact ⟨s, ao, n, cap, e, h1, dn_store48 h2 hE _ _ _ _⟩
theorem EnB.other {W : World} {g h : Nat} {a b c d : Value} (hE : EnB W g a b c d) (hn : g ≠ h) (a' b' c' d' : Value) : EnB ((((W.setCell ⟨h, 0, none⟩ a').setCell ⟨h, 1, none⟩ b').setCell ⟨h, 2, none⟩ c').setCell ⟨h, 3, none⟩ d') g a b c d := by
  unfold EnB at *
  simp [World.setCell, Array.getElem?_modify, hE, Ne.symm hn]
set_option maxHeartbeats 8000000 in
set_option maxRecDepth 200000 in
theorem dleast (g : Nat) (ii ee : Nat → Int) (ss : Nat → Bool) (oo : Nat → Option Addr) (nn cc : Nat → Nat) (tt : Nat → Bool × Nat × Int) (w : World)
    (hc : ∀ k, k < 4 → w.cell? ⟨g, k * 4, none⟩ = some (.int .i64 (ii k)) ∧ w.cell? ⟨g, k * 4 + 1, none⟩ = some (.bool (ss k)) ∧ w.cell? ⟨g, k * 4 + 2, none⟩ = some (.slice (oo k) (nn k) (cc k)) ∧ w.cell? ⟨g, k * 4 + 3, none⟩ = some (.int .i64 (ee k))) (hD : ∀ k, k < 4 → EN w (.agg #[.int .i64 (ii k), .bool (ss k), .slice (oo k) (nn k) (cc k), .int .i64 (ee k)]) (ii k) (tt k)) (hO : ∀ k, k < 4 → Ok (tt k)) :
    Calls Tryz.prog 40 #[.slice (some ⟨g, 0, none⟩) 4 4] w fun r w' => ∃ A, r = .returned A ∧ EN w' A (ii (lstE 1 ii tt 3)) (tt (lstE 1 ii tt 3)) ∧ Below w.heap.size w w' := by
  have HC : Hid (∀ w', Below w.heap.size w w' → ∀ k, k < 4 → w'.cell? ⟨g, k * 4, none⟩ = some (.int .i64 (ii k)) ∧ w'.cell? ⟨g, k * 4 + 1, none⟩ = some (.bool (ss k)) ∧ w'.cell? ⟨g, k * 4 + 2, none⟩ = some (.slice (oo k) (nn k) (cc k)) ∧ w'.cell? ⟨g, k * 4 + 3, none⟩ = some (.int .i64 (ee k))) := fun w' hb k hk => ⟨(hb.cell (World.block_lt_of_cell? _ _ (hc k hk).1)).trans (hc k hk).1, (hb.cell (World.block_lt_of_cell? _ _ (hc k hk).2.1)).trans (hc k hk).2.1, (hb.cell (World.block_lt_of_cell? _ _ (hc k hk).2.2.1)).trans (hc k hk).2.2.1, (hb.cell (World.block_lt_of_cell? _ _ (hc k hk).2.2.2)).trans (hc k hk).2.2.2⟩
  have HD : Hid (∀ k, k < 4 → EN w (.agg #[.int .i64 (ii k), .bool (ss k), .slice (oo k) (nn k) (cc k), .int .i64 (ee k)]) (ii k) (tt k)) := hD
  have HO : Hid (∀ k, k < 4 → Ok (tt k)) := hO
  clear hc hD hO
  obtain ⟨W, hW⟩ : ∃ W, W = w.alloc (.cells #[.int .i64 0, .bool false, .slice none 0 0, .int .i64 0] 61) := ⟨_, rfl⟩
  have HX : Hid (Below w.heap.size w W ∧ EnB W w.heap.size (.int .i64 0) (.bool false) (.slice none 0 0) (.int .i64 0)) := by
    rw [hW]
    exact ⟨(Below.refl _ _).alloc (Nat.le_refl _) _, EnB.new _ _ _ _ _⟩
  have k0 := HC.out W HX.out.1 0 (by omega)
  simp only [Nat.zero_mul, Nat.zero_add] at k0
  obtain ⟨a0, a1, a2, a3⟩ := k0
  go_enter Tryz.func40, Tryz.ntmps40
  go_upto_region 1 with fail
  rw [← hW]
  clear hW
  go_upto_region 2 with fail
  obtain ⟨W1, hW1⟩ : ∃ W1, W1 = W.alloc (.cells #[.int .i64 (ii 0), .bool (ss 0), .slice (oo 0) (nn 0) (cc 0), .int .i64 (ee 0)] 61) := ⟨_, rfl⟩
  obtain ⟨g3, hg3⟩ : ∃ g3, g3 = W.heap.size := ⟨_, rfl⟩
  have HW1 : Hid (Below w.heap.size w W1 ∧ EnB W1 w.heap.size (.int .i64 0) (.bool false) (.slice none 0 0) (.int .i64 0) ∧ EnB W1 g3 (.int .i64 (ii 0)) (.bool (ss 0)) (.slice (oo 0) (nn 0) (cc 0)) (.int .i64 (ee 0)) ∧ w.heap.size < g3) := by
    have hl := HX.out.2.lt
    rw [hW1, hg3]
    exact ⟨HX.out.1.alloc HX.out.1.size _, HX.out.2.alloc _, EnB.new _ _ _ _ _, hl⟩
  rw [← hW1, ← hg3]
  clear hW1 hg3 a0 a1 a2 a3 HX
  go_wp2
  go_loopw [4] (fun i wr => ∃ j : Nat, 1 ≤ j ∧ j ≤ 4 ∧ i = .int .i64 j ∧ Hid (Below w.heap.size w wr ∧ EnB wr w.heap.size (.int .i64 0) (.bool false) (.slice none 0 0) (.int .i64 0) ∧ EnB wr g3 (.int .i64 (ii (lstE 1 ii tt (j - 1)))) (.bool (ss (lstE 1 ii tt (j - 1)))) (.slice (oo (lstE 1 ii tt (j - 1))) (nn (lstE 1 ii tt (j - 1))) (cc (lstE 1 ii tt (j - 1)))) (.int .i64 (ee (lstE 1 ii tt (j - 1)))))) (fun i _ => 4 - (intOf i).toNat)
  case atStart => exact ⟨1, by omega, by omega, rfl, HW1.out.1, HW1.out.2.1, HW1.out.2.2.1⟩
  case round =>
    obtain ⟨j, hj1, hj4, rfl, HR⟩ := hrel
    have hg : w.heap.size < g3 := HW1.out.2.2.2
    obtain ⟨m, hm⟩ : ∃ m, m = lstE 1 ii tt (j - 1) := ⟨_, rfl⟩
    rw [← hm] at HR
    have HM : Hid (m = lstE 1 ii tt (j - 1) ∧ m ≤ j - 1) := ⟨hm, by rw [hm]; exact lstE_le _ _ _ _⟩
    clear hm HW1
    by_cases hjk : j < 4
    · obtain ⟨a0, a1, a2, a3⟩ := HC.out wr HR.out.1 j hjk
      obtain ⟨⟨b0, b1, b2, b3⟩, b4, b5, b6, b7⟩ := HR.out.2.2.facts
      have HS : Hid (∀ w', Below wr.heap.size wr w' → (w'.cell? ⟨g, j * 4, none⟩ = some (.int .i64 (ii j)) ∧ w'.cell? ⟨g, j * 4 + 1, none⟩ = some (.bool (ss j)) ∧ w'.cell? ⟨g, j * 4 + 2, none⟩ = some (.slice (oo j) (nn j) (cc j)) ∧ w'.cell? ⟨g, j * 4 + 3, none⟩ = some (.int .i64 (ee j))) ∧ (w'.cell? ⟨g3, 0, none⟩ = some (.int .i64 (ii m)) ∧ w'.cell? ⟨g3, 1, none⟩ = some (.bool (ss m)) ∧ w'.cell? ⟨g3, 2, none⟩ = some (.slice (oo m) (nn m) (cc m)) ∧ w'.cell? ⟨g3, 3, none⟩ = some (.int .i64 (ee m)))) := fun w' hb => ⟨HC.out w' (HR.out.1.trans (hb.mono HR.out.1.size)) j hjk, (HR.out.2.2.box hb).facts.1⟩
      have ko : ∀ W', Below wr.heap.size wr W' → Calls Tryz.prog 88 #[.agg #[.int .i64 (ii j), .bool (ss j), .slice (oo j) (nn j) (cc j), .int .i64 (ee j)], .agg #[.int .i64 (ii m), .bool (ss m), .slice (oo m) (nn m) (cc m), .int .i64 (ee m)]] W' fun r w' => r = .returned (.int .i64 (ordE (ii j) (ii m) (tt j) (tt m))) ∧ Below wr.heap.size wr w' := fun W' hb => by
        have hb' := HR.out.1.trans (hb.mono HR.out.1.size)
        exact (dorderE (HO.out j hjk) (HO.out m (by have := HM.out.2; omega)) ((HD.out j hjk).later hb') ((HD.out m (by have := HM.out.2; omega)).later hb')).mono fun r w' ⟨e1, e2⟩ => ⟨e1, hb.trans (e2.mono hb.size)⟩
      generalize hco : ordE (ii j) (ii m) (tt j) (tt m) = co at *
      have HCO : Hid (ordE (ii j) (ii m) (tt j) (tt m) = co) := hco
      clear hco
      have hji : (j : Int) < 4 := by omega
      have hR : Below wr.heap.size wr wr.drew := (Below.refl _ _).drew
      go_upto_region 5 with fail
      go_region_held3 (fun w' => (w'.cell? ⟨g, j * 4, none⟩ = some (.int .i64 (ii j)) ∧ w'.cell? ⟨g, j * 4 + 1, none⟩ = some (.bool (ss j)) ∧ w'.cell? ⟨g, j * 4 + 2, none⟩ = some (.slice (oo j) (nn j) (cc j)) ∧ w'.cell? ⟨g, j * 4 + 3, none⟩ = some (.int .i64 (ee j))) ∧ (w'.cell? ⟨g3, 0, none⟩ = some (.int .i64 (ii m)) ∧ w'.cell? ⟨g3, 1, none⟩ = some (.bool (ss m)) ∧ w'.cell? ⟨g3, 2, none⟩ = some (.slice (oo m) (nn m) (cc m)) ∧ w'.cell? ⟨g3, 3, none⟩ = some (.int .i64 (ee m)))) (first | (with_reducible assumption) | (with_reducible exact HS.out _ hR) | (with_reducible refine HS.out _ ?_; with_reducible assumption) | go_keep)
        (first | (go_at_call 88; with_reducible refine (ko _ (by first | (with_reducible assumption) | exact hR)).mono ?_; rintro r v1 ⟨rfl, B⟩))
      have HB : Hid (Below w.heap.size w v1 ∧ EnB v1 w.heap.size (.int .i64 0) (.bool false) (.slice none 0 0) (.int .i64 0) ∧ EnB v1 g3 (.int .i64 (ii m)) (.bool (ss m)) (.slice (oo m) (nn m) (cc m)) (.int .i64 (ee m))) := ⟨HR.out.1.trans (B.mono HR.out.1.size), HR.out.2.1.box B, HR.out.2.2.box B⟩
      have hcs := HS.out v1 B
      clear a0 a1 a2 a3 b0 b1 b2 b3 b4 b5 b6 b7 B ko HR hR HS HC HD HO
      obtain ⟨⟨a0, a1, a2, a3⟩, -⟩ := hcs
      obtain ⟨⟨b0, b1, b2, b3⟩, b4, b5, b6, b7⟩ := HB.out.2.2.facts
      have HL : Hid (lstE 1 ii tt (j + 1 - 1) = if 1 * co < 0 then j else m) := by rw [← HCO.out]; exact lstE_step hj1 HM.out.1
      clear HM HCO
      go_wp2
      · rename_i hlt
        have e := HL.out
        rw [if_pos (by omega)] at e
        refine ⟨⟨j + 1, by omega, by omega, by simp, below_store4 HB.out.1 (by omega) _ _ _ _, HB.out.2.1.other (by omega) _ _ _ _, ?_⟩, by simp [intOf]; omega⟩
        rw [e]
        exact HB.out.2.2.set _ _ _ _
      · rename_i hlt
        have e := HL.out
        rw [if_neg (by omega)] at e
        refine ⟨⟨j + 1, by omega, by omega, by simp, HB.out.1, HB.out.2.1, ?_⟩, by simp [intOf]; omega⟩
        rw [e]
        exact HB.out.2.2
    · obtain rfl : j = 4 := by omega
      obtain ⟨⟨b0, b1, b2, b3⟩, b4, b5, b6, b7⟩ := HR.out.2.2.facts
      obtain ⟨⟨x0, x1, x2, x3⟩, x4, x5, x6, x7⟩ := HR.out.2.1.facts
      have HF : Hid (Below w.heap.size w wr ∧ EnB wr w.heap.size (.int .i64 0) (.bool false) (.slice none 0 0) (.int .i64 0) ∧ EN wr (.agg #[.int .i64 (ii m), .bool (ss m), .slice (oo m) (nn m) (cc m), .int .i64 (ee m)]) (ii m) (tt m)) := ⟨HR.out.1, HR.out.2.1, (HD.out m (by have := HM.out.2; omega)).later HR.out.1⟩
      clear HR HD HO HC hg
      go_wp2
      refine bodyPost_ret (results_cell_row rfl _ _ w.heap.size 61 #[.int .i64 (ii m), .bool (ss m), .slice (oo m) (nn m) (cc m), .int .i64 (ee m)] (0, 0) _ rfl (HF.out.2.1.set _ _ _ _) Tryz.underlying61 rfl en_info) rfl ?_
      have e := HM.out.1
      have e : lstE 1 ii tt 3 = m := e.symm
      rw [e]
      exact ⟨_, rfl, en_store48 HF.out.2.2 HF.out.2.1 _ _ _ _, below_store4 HF.out.1 (by omega) _ _ _ _⟩
set_option maxHeartbeats 8000000 in
set_option maxRecDepth 200000 in
theorem dmost (g : Nat) (ii ee : Nat → Int) (ss : Nat → Bool) (oo : Nat → Option Addr) (nn cc : Nat → Nat) (tt : Nat → Bool × Nat × Int) (w : World)
    (hc : ∀ k, k < 4 → w.cell? ⟨g, k * 4, none⟩ = some (.int .i64 (ii k)) ∧ w.cell? ⟨g, k * 4 + 1, none⟩ = some (.bool (ss k)) ∧ w.cell? ⟨g, k * 4 + 2, none⟩ = some (.slice (oo k) (nn k) (cc k)) ∧ w.cell? ⟨g, k * 4 + 3, none⟩ = some (.int .i64 (ee k))) (hD : ∀ k, k < 4 → EN w (.agg #[.int .i64 (ii k), .bool (ss k), .slice (oo k) (nn k) (cc k), .int .i64 (ee k)]) (ii k) (tt k)) (hO : ∀ k, k < 4 → Ok (tt k)) :
    Calls Tryz.prog 41 #[.slice (some ⟨g, 0, none⟩) 4 4] w fun r w' => ∃ A, r = .returned A ∧ EN w' A (ii (lstE (-1) ii tt 3)) (tt (lstE (-1) ii tt 3)) ∧ Below w.heap.size w w' := by
  have HC : Hid (∀ w', Below w.heap.size w w' → ∀ k, k < 4 → w'.cell? ⟨g, k * 4, none⟩ = some (.int .i64 (ii k)) ∧ w'.cell? ⟨g, k * 4 + 1, none⟩ = some (.bool (ss k)) ∧ w'.cell? ⟨g, k * 4 + 2, none⟩ = some (.slice (oo k) (nn k) (cc k)) ∧ w'.cell? ⟨g, k * 4 + 3, none⟩ = some (.int .i64 (ee k))) := fun w' hb k hk => ⟨(hb.cell (World.block_lt_of_cell? _ _ (hc k hk).1)).trans (hc k hk).1, (hb.cell (World.block_lt_of_cell? _ _ (hc k hk).2.1)).trans (hc k hk).2.1, (hb.cell (World.block_lt_of_cell? _ _ (hc k hk).2.2.1)).trans (hc k hk).2.2.1, (hb.cell (World.block_lt_of_cell? _ _ (hc k hk).2.2.2)).trans (hc k hk).2.2.2⟩
  have HD : Hid (∀ k, k < 4 → EN w (.agg #[.int .i64 (ii k), .bool (ss k), .slice (oo k) (nn k) (cc k), .int .i64 (ee k)]) (ii k) (tt k)) := hD
  have HO : Hid (∀ k, k < 4 → Ok (tt k)) := hO
  clear hc hD hO
  obtain ⟨W, hW⟩ : ∃ W, W = w.alloc (.cells #[.int .i64 0, .bool false, .slice none 0 0, .int .i64 0] 61) := ⟨_, rfl⟩
  have HX : Hid (Below w.heap.size w W ∧ EnB W w.heap.size (.int .i64 0) (.bool false) (.slice none 0 0) (.int .i64 0)) := by
    rw [hW]
    exact ⟨(Below.refl _ _).alloc (Nat.le_refl _) _, EnB.new _ _ _ _ _⟩
  have k0 := HC.out W HX.out.1 0 (by omega)
  simp only [Nat.zero_mul, Nat.zero_add] at k0
  obtain ⟨a0, a1, a2, a3⟩ := k0
  go_enter Tryz.func41, Tryz.ntmps41
  go_upto_region 1 with fail
  rw [← hW]
  clear hW
  go_upto_region 2 with fail
  obtain ⟨W1, hW1⟩ : ∃ W1, W1 = W.alloc (.cells #[.int .i64 (ii 0), .bool (ss 0), .slice (oo 0) (nn 0) (cc 0), .int .i64 (ee 0)] 61) := ⟨_, rfl⟩
  obtain ⟨g3, hg3⟩ : ∃ g3, g3 = W.heap.size := ⟨_, rfl⟩
  have HW1 : Hid (Below w.heap.size w W1 ∧ EnB W1 w.heap.size (.int .i64 0) (.bool false) (.slice none 0 0) (.int .i64 0) ∧ EnB W1 g3 (.int .i64 (ii 0)) (.bool (ss 0)) (.slice (oo 0) (nn 0) (cc 0)) (.int .i64 (ee 0)) ∧ w.heap.size < g3) := by
    have hl := HX.out.2.lt
    rw [hW1, hg3]
    exact ⟨HX.out.1.alloc HX.out.1.size _, HX.out.2.alloc _, EnB.new _ _ _ _ _, hl⟩
  rw [← hW1, ← hg3]
  clear hW1 hg3 a0 a1 a2 a3 HX
  go_wp2
  go_loopw [4] (fun i wr => ∃ j : Nat, 1 ≤ j ∧ j ≤ 4 ∧ i = .int .i64 j ∧ Hid (Below w.heap.size w wr ∧ EnB wr w.heap.size (.int .i64 0) (.bool false) (.slice none 0 0) (.int .i64 0) ∧ EnB wr g3 (.int .i64 (ii (lstE (-1) ii tt (j - 1)))) (.bool (ss (lstE (-1) ii tt (j - 1)))) (.slice (oo (lstE (-1) ii tt (j - 1))) (nn (lstE (-1) ii tt (j - 1))) (cc (lstE (-1) ii tt (j - 1)))) (.int .i64 (ee (lstE (-1) ii tt (j - 1)))))) (fun i _ => 4 - (intOf i).toNat)
  case atStart => exact ⟨1, by omega, by omega, rfl, HW1.out.1, HW1.out.2.1, HW1.out.2.2.1⟩
  case round =>
    obtain ⟨j, hj1, hj4, rfl, HR⟩ := hrel
    have hg : w.heap.size < g3 := HW1.out.2.2.2
    obtain ⟨m, hm⟩ : ∃ m, m = lstE (-1) ii tt (j - 1) := ⟨_, rfl⟩
    rw [← hm] at HR
    have HM : Hid (m = lstE (-1) ii tt (j - 1) ∧ m ≤ j - 1) := ⟨hm, by rw [hm]; exact lstE_le _ _ _ _⟩
    clear hm HW1
    by_cases hjk : j < 4
    · obtain ⟨a0, a1, a2, a3⟩ := HC.out wr HR.out.1 j hjk
      obtain ⟨⟨b0, b1, b2, b3⟩, b4, b5, b6, b7⟩ := HR.out.2.2.facts
      have HS : Hid (∀ w', Below wr.heap.size wr w' → (w'.cell? ⟨g, j * 4, none⟩ = some (.int .i64 (ii j)) ∧ w'.cell? ⟨g, j * 4 + 1, none⟩ = some (.bool (ss j)) ∧ w'.cell? ⟨g, j * 4 + 2, none⟩ = some (.slice (oo j) (nn j) (cc j)) ∧ w'.cell? ⟨g, j * 4 + 3, none⟩ = some (.int .i64 (ee j))) ∧ (w'.cell? ⟨g3, 0, none⟩ = some (.int .i64 (ii m)) ∧ w'.cell? ⟨g3, 1, none⟩ = some (.bool (ss m)) ∧ w'.cell? ⟨g3, 2, none⟩ = some (.slice (oo m) (nn m) (cc m)) ∧ w'.cell? ⟨g3, 3, none⟩ = some (.int .i64 (ee m)))) := fun w' hb => ⟨HC.out w' (HR.out.1.trans (hb.mono HR.out.1.size)) j hjk, (HR.out.2.2.box hb).facts.1⟩
      have ko : ∀ W', Below wr.heap.size wr W' → Calls Tryz.prog 88 #[.agg #[.int .i64 (ii j), .bool (ss j), .slice (oo j) (nn j) (cc j), .int .i64 (ee j)], .agg #[.int .i64 (ii m), .bool (ss m), .slice (oo m) (nn m) (cc m), .int .i64 (ee m)]] W' fun r w' => r = .returned (.int .i64 (ordE (ii j) (ii m) (tt j) (tt m))) ∧ Below wr.heap.size wr w' := fun W' hb => by
        have hb' := HR.out.1.trans (hb.mono HR.out.1.size)
        exact (dorderE (HO.out j hjk) (HO.out m (by have := HM.out.2; omega)) ((HD.out j hjk).later hb') ((HD.out m (by have := HM.out.2; omega)).later hb')).mono fun r w' ⟨e1, e2⟩ => ⟨e1, hb.trans (e2.mono hb.size)⟩
      generalize hco : ordE (ii j) (ii m) (tt j) (tt m) = co at *
      have HCO : Hid (ordE (ii j) (ii m) (tt j) (tt m) = co) := hco
      clear hco
      have hji : (j : Int) < 4 := by omega
      have hR : Below wr.heap.size wr wr.drew := (Below.refl _ _).drew
      go_upto_region 5 with fail
      go_region_held3 (fun w' => (w'.cell? ⟨g, j * 4, none⟩ = some (.int .i64 (ii j)) ∧ w'.cell? ⟨g, j * 4 + 1, none⟩ = some (.bool (ss j)) ∧ w'.cell? ⟨g, j * 4 + 2, none⟩ = some (.slice (oo j) (nn j) (cc j)) ∧ w'.cell? ⟨g, j * 4 + 3, none⟩ = some (.int .i64 (ee j))) ∧ (w'.cell? ⟨g3, 0, none⟩ = some (.int .i64 (ii m)) ∧ w'.cell? ⟨g3, 1, none⟩ = some (.bool (ss m)) ∧ w'.cell? ⟨g3, 2, none⟩ = some (.slice (oo m) (nn m) (cc m)) ∧ w'.cell? ⟨g3, 3, none⟩ = some (.int .i64 (ee m)))) (first | (with_reducible assumption) | (with_reducible exact HS.out _ hR) | (with_reducible refine HS.out _ ?_; with_reducible assumption) | go_keep)
        (first | (go_at_call 88; with_reducible refine (ko _ (by first | (with_reducible assumption) | exact hR)).mono ?_; rintro r v1 ⟨rfl, B⟩))
      have HB : Hid (Below w.heap.size w v1 ∧ EnB v1 w.heap.size (.int .i64 0) (.bool false) (.slice none 0 0) (.int .i64 0) ∧ EnB v1 g3 (.int .i64 (ii m)) (.bool (ss m)) (.slice (oo m) (nn m) (cc m)) (.int .i64 (ee m))) := ⟨HR.out.1.trans (B.mono HR.out.1.size), HR.out.2.1.box B, HR.out.2.2.box B⟩
      have hcs := HS.out v1 B
      clear a0 a1 a2 a3 b0 b1 b2 b3 b4 b5 b6 b7 B ko HR hR HS HC HD HO
      obtain ⟨⟨a0, a1, a2, a3⟩, -⟩ := hcs
      obtain ⟨⟨b0, b1, b2, b3⟩, b4, b5, b6, b7⟩ := HB.out.2.2.facts
      have HL : Hid (lstE (-1) ii tt (j + 1 - 1) = if (-1) * co < 0 then j else m) := by rw [← HCO.out]; exact lstE_step hj1 HM.out.1
      clear HM HCO
      go_wp2
      · rename_i hlt
        have e := HL.out
        rw [if_pos (by omega)] at e
        refine ⟨⟨j + 1, by omega, by omega, by simp, below_store4 HB.out.1 (by omega) _ _ _ _, HB.out.2.1.other (by omega) _ _ _ _, ?_⟩, by simp [intOf]; omega⟩
        rw [e]
        exact HB.out.2.2.set _ _ _ _
      · rename_i hlt
        have e := HL.out
        rw [if_neg (by omega)] at e
        refine ⟨⟨j + 1, by omega, by omega, by simp, HB.out.1, HB.out.2.1, ?_⟩, by simp [intOf]; omega⟩
        rw [e]
        exact HB.out.2.2
    · obtain rfl : j = 4 := by omega
      obtain ⟨⟨b0, b1, b2, b3⟩, b4, b5, b6, b7⟩ := HR.out.2.2.facts
      obtain ⟨⟨x0, x1, x2, x3⟩, x4, x5, x6, x7⟩ := HR.out.2.1.facts
      have HF : Hid (Below w.heap.size w wr ∧ EnB wr w.heap.size (.int .i64 0) (.bool false) (.slice none 0 0) (.int .i64 0) ∧ EN wr (.agg #[.int .i64 (ii m), .bool (ss m), .slice (oo m) (nn m) (cc m), .int .i64 (ee m)]) (ii m) (tt m)) := ⟨HR.out.1, HR.out.2.1, (HD.out m (by have := HM.out.2; omega)).later HR.out.1⟩
      clear HR HD HO HC hg
      go_wp2
      refine bodyPost_ret (results_cell_row rfl _ _ w.heap.size 61 #[.int .i64 (ii m), .bool (ss m), .slice (oo m) (nn m) (cc m), .int .i64 (ee m)] (0, 0) _ rfl (HF.out.2.1.set _ _ _ _) Tryz.underlying61 rfl en_info) rfl ?_
      have e := HM.out.1
      have e : lstE (-1) ii tt 3 = m := e.symm
      rw [e]
      exact ⟨_, rfl, en_store48 HF.out.2.2 HF.out.2.1 _ _ _ _, below_store4 HF.out.1 (by omega) _ _ _ _⟩
end Go.Proofs.YtcoclopllbfjcaaGreatDoor
/- The document's Mul. -/
namespace Go.Proofs.YtcoclopllbfjcaaGreatDoor
set_option linter.unusedVariables false
set_option linter.unusedSimpArgs false
open Go.RowKit Go.Fl64
attribute [local go_sem] run_store_flt

theorem dtimes_s {i j : Int} {t u : Bool × Nat × Int} {A B : Value} {w : World} (hi : -1 ≤ i ∧ i ≤ 1) (hj : -1 ≤ j ∧ j ≤ 1) (o1 : Ok t) (o2 : Ok u) (h1 : EN w A i t) (h2 : EN w B j u) :
    Calls Tryz.prog 38 #[A, B] w fun r w' => ∃ s ao n cap e, r = .returned (.agg #[.int .i64 (tmI i j t u), .bool s, .slice ao n cap, .int .i64 e]) ∧ EN w' (.agg #[.int .i64 (tmI i j t u), .bool s, .slice ao n cap, .int .i64 e]) (tmI i j t u) (tmT i j t u) ∧ Below w.heap.size w w' := by
  refine (dtimes hi hj o1 o2 h1 h2).mono ?_
  rintro r w' ⟨C, rfl, hE, hb⟩
  have hE' := hE
  obtain ⟨s, ao, n, cap, e, rfl, -⟩ := hE'
  exact ⟨s, ao, n, cap, e, rfl, hE, hb⟩
theorem lt48 {k : Nat} (h : k < 4) : k = 0 ∨ k = 1 ∨ k = 2 ∨ k = 3 := by omega
def pI (a b c d k : Nat) : Int := tmI (eI (if k < 2 then a else b)) (eI (if k % 2 = 0 then c else d)) (eT (if k < 2 then a else b)) (eT (if k % 2 = 0 then c else d))
def pT (a b c d k : Nat) : Bool × Nat × Int := tmT (eI (if k < 2 then a else b)) (eI (if k % 2 = 0 then c else d)) (eT (if k < 2 then a else b)) (eT (if k % 2 = 0 then c else d))
set_option maxHeartbeats 16000000 in
set_option maxRecDepth 200000 in
theorem dmul8_1 (a b c d X Y : Nat) (w : World) (ha : a < 18446744073709551616) (hb : b < 18446744073709551616) (hc : c < 18446744073709551616) (hd : d < 18446744073709551616)
    (hXY : (vI a b && vI c d) = true → enF ((pI a b c d) (lstE 1 (pI a b c d) (pT a b c d) 3)) ((pT a b c d) (lstE 1 (pI a b c d) (pT a b c d) 3)) 1 = X ∧ enF ((pI a b c d) (lstE (-1) (pI a b c d) (pT a b c d) 3)) ((pT a b c d) (lstE (-1) (pI a b c d) (pT a b c d) 3)) 3 = Y ∧ ∀ k, k < 4 → Ok ((pT a b c d) k)) :
    Calls Tryz.prog 9 #[.agg #[.float .f64 a, .float .f64 b], .agg #[.float .f64 c, .float .f64 d]] w fun r w' => r = .returned (orV (vI a b && vI c d) X Y (.int .i64 0) (.int .i64 1)) ∧ Below w.heap.size w w' := by
  have k1 := fun W => d8valid a b ha hb W
  have k2 := fun W => d8valid c d hc hd W
  have HN1 : Hid (vI a b = true → isNaN a = false ∧ isNaN b = false) := vI_nn
  have HN2 : Hid (vI c d = true → isNaN c = false ∧ isNaN d = false) := vI_nn
  have HXY : Hid ((vI a b && vI c d) = true → _) := hXY
  clear hXY
  generalize hu : vI a b = u at *
  generalize hv : vI c d = v at *
  clear hu hv
  obtain ⟨W, hW⟩ : ∃ W, W = (((w.alloc (.cells #[.float .f64 a, .float .f64 b] 24)).alloc (.cells #[.float .f64 c, .float .f64 d] 24)).alloc (.cells #[.float .f64 0, .float .f64 0] 24)) := ⟨_, rfl⟩
  have HX : Hid (Below w.heap.size w W ∧ IvB W (w.heap.size) a b ∧ IvB W (w.heap.size + 1) c d ∧ IvB W (w.heap.size + 1 + 1) 0 0) := by
    rw [hW]
    exact ⟨bxs3_0 w a b c d 0 0, bxs3_1 w a b c d 0 0, bxs3_2 w a b c d 0 0, bxs3_3 w a b c d 0 0⟩
  have HK : Hid (∀ w', Below W.heap.size W w' → IvF w' (w.heap.size) a b ∧ IvF w' (w.heap.size + 1) c d ∧ IvF w' (w.heap.size + 1 + 1) 0 0) := fun w' hb => ⟨(HX.out.2.1).later hb, (HX.out.2.2.1).later hb, (HX.out.2.2.2).later hb⟩
  obtain ⟨⟨c0, c1, z0, z1⟩, ⟨c2, c3, z2, z3⟩, ⟨c4, c5, z4, z5⟩⟩ := HK.out W (Below.refl _ _)
  have kv := k1 W
  clear k1
  go_enter Tryz.func9, Tryz.ntmps9
  go_upto_region 1 with fail
  rw [← hW]
  clear hW
  go_wp2_with fail
  refine kv.mono ?_
  rintro r w1 ⟨rfl, hb1⟩
  clear kv
  clear c0 z0 c1 z1 c2 z2 c3 z3 c4 z4 c5 z5
  obtain ⟨⟨c0, c1, z0, z1⟩, ⟨c2, c3, z2, z3⟩, ⟨c4, c5, z4, z5⟩⟩ := HK.out w1 hb1
  cases u
  · have HB : Hid (Below w.heap.size w w1) := HX.out.1.trans (hb1.mono HX.out.1.size)
    have HR : Hid (IvB w1 (w.heap.size + 1 + 1) 0 0) := HX.out.2.2.2.box hb1
    clear hb1 HK HX k2
    go_wp2
    refine bodyPost_ret (results_cell_tmp_row rfl _ _ (w.heap.size + 1 + 1) 24 #[.float .f64 0, .float .f64 0] (0, 0) _ rfl (HR.out.set _ _) Tryz.underlying24 rfl iv_info) rfl ?_
    exact ⟨rfl, below_store2 HB.out (by omega) _ _⟩
  have kv := k2 w1
  have HB1 : Hid (Below W.heap.size W w1) := hb1
  clear hb1 k2
  go_wp2_with fail
  refine kv.mono ?_
  rintro r w2 ⟨rfl, hb2⟩
  have hb3 : Below W.heap.size W w2 := HB1.out.trans (hb2.mono HB1.out.size)
  clear kv hb2 HB1
  clear c0 z0 c1 z1 c2 z2 c3 z3 c4 z4 c5 z5
  obtain ⟨⟨c0, c1, z0, z1⟩, ⟨c2, c3, z2, z3⟩, ⟨c4, c5, z4, z5⟩⟩ := HK.out w2 hb3
  cases v
  · have HB : Hid (Below w.heap.size w w2) := HX.out.1.trans (hb3.mono HX.out.1.size)
    have HR : Hid (IvB w2 (w.heap.size + 1 + 1) 0 0) := HX.out.2.2.2.box hb3
    clear hb3 HK HX
    go_wp2
    refine bodyPost_ret (results_cell_tmp_row rfl _ _ (w.heap.size + 1 + 1) 24 #[.float .f64 0, .float .f64 0] (0, 0) _ rfl (HR.out.set _ _) Tryz.underlying24 rfl iv_info) rfl ?_
    exact ⟨rfl, below_store2 HB.out (by omega) _ _⟩
  obtain ⟨Na, Nb⟩ := HN1.out (by simp)
  obtain ⟨Nc, Nd⟩ := HN2.out (by simp)
  have HB2 : Hid (Below W.heap.size W w2) := hb3
  have HAB : Hid ((a < 18446744073709551616 ∧ isNaN a = false) ∧ (b < 18446744073709551616 ∧ isNaN b = false) ∧ (c < 18446744073709551616 ∧ isNaN c = false) ∧ (d < 18446744073709551616 ∧ isNaN d = false)) := ⟨⟨ha, Na⟩, ⟨hb, Nb⟩, ⟨hc, Nc⟩, hd, Nd⟩
  clear hb3 HN1 HN2 ha hb hc hd Na Nb Nc Nd
  go_upto_region 3 with fail
  go_cut [6, 7, 8, 9] from 20 to 31 (fun p0 p1 p2 p3 wx => ∃ (g0 g1 g2 g3 : Nat) (s0 : Bool) (ao0 : Option Addr) (n0 cap0 : Nat) (e0 : Int) (s1 : Bool) (ao1 : Option Addr) (n1 cap1 : Nat) (e1 : Int) (s2 : Bool) (ao2 : Option Addr) (n2 cap2 : Nat) (e2 : Int) (s3 : Bool) (ao3 : Option Addr) (n3 cap3 : Nat) (e3 : Int), p0 = .pointer (some ⟨g0, 0, none⟩) ∧ p1 = .pointer (some ⟨g1, 0, none⟩) ∧ p2 = .pointer (some ⟨g2, 0, none⟩) ∧ p3 = .pointer (some ⟨g3, 0, none⟩) ∧ Hid (Below w2.heap.size w2 wx ∧ EnB wx g0 (.int .i64 (eI a)) (.bool s0) (.slice ao0 n0 cap0) (.int .i64 e0) ∧ EnB wx g1 (.int .i64 (eI b)) (.bool s1) (.slice ao1 n1 cap1) (.int .i64 e1) ∧ EnB wx g2 (.int .i64 (eI c)) (.bool s2) (.slice ao2 n2 cap2) (.int .i64 e2) ∧ EnB wx g3 (.int .i64 (eI d)) (.bool s3) (.slice ao3 n3 cap3) (.int .i64 e3) ∧ EN wx (.agg #[.int .i64 (eI a), .bool s0, .slice ao0 n0 cap0, .int .i64 e0]) (eI a) (eT a) ∧ EN wx (.agg #[.int .i64 (eI b), .bool s1, .slice ao1 n1 cap1, .int .i64 e1]) (eI b) (eT b) ∧ EN wx (.agg #[.int .i64 (eI c), .bool s2, .slice ao2 n2 cap2, .int .i64 e2]) (eI c) (eT c) ∧ EN wx (.agg #[.int .i64 (eI d), .bool s3, .slice ao3 n3 cap3, .int .i64 e3]) (eI d) (eT d)))
  case first =>
    refine ends_region 4 (fun k => if k < 2 then 2 else 3) (fun k => 20 + 3 * k) (fun k => 21 + 3 * k) (fun k => 22 + 3 * k) (fun k => 6 + k) (fun k => if k < 2 then w.heap.size else w.heap.size + 1) (fun k => k % 2) (fun k => if k = 0 then a else if k = 1 then b else if k = 2 then c else d) w2 _ rfl (ord_of (by kernel_rfl)) ?_ ?_ ?_ ?_ ?_ ?_ ?_ ?_ ?_ ?_ ?_ ?_ ?_
    · intro k hk
      rcases lt48 hk with rfl | rfl | rfl | rfl
      · exact ⟨rfl, .inl rfl, fun w' hw => (HK.out w' (HB2.out.trans (hw.mono HB2.out.size))).1.1, HAB.out.1⟩
      · exact ⟨rfl, .inr rfl, fun w' hw => (HK.out w' (HB2.out.trans (hw.mono HB2.out.size))).1.2.1, HAB.out.2.1⟩
      · exact ⟨rfl, .inl rfl, fun w' hw => (HK.out w' (HB2.out.trans (hw.mono HB2.out.size))).2.1.1, HAB.out.2.2.1⟩
      · exact ⟨rfl, .inr rfl, fun w' hw => (HK.out w' (HB2.out.trans (hw.mono HB2.out.size))).2.1.2.1, HAB.out.2.2.2⟩
    · intro k hk
      rcases lt48 hk with rfl | rfl | rfl | rfl <;> decide
    · intro k hk
      rcases lt48 hk with rfl | rfl | rfl | rfl <;> exact ⟨_, rfl, rfl, rfl, rfl⟩
    · intro k hk
      rcases lt48 hk with rfl | rfl | rfl | rfl <;> exact ⟨_, rfl, rfl, rfl, rfl, ⟨_, .data⟩, by simp, rfl, rfl⟩
    · intro k hk
      rcases lt48 hk with rfl | rfl | rfl | rfl <;> exact ⟨_, rfl, rfl, ⟨_, rfl⟩, rfl, ⟨_, .data⟩, by simp, rfl, rfl⟩
    · intro k hk
      rcases lt48 hk with rfl | rfl | rfl | rfl <;> exact ⟨_, rfl, rfl, rfl, rfl⟩
    · intro k hk
      rcases lt48 hk with rfl | rfl | rfl | rfl <;> exact ⟨_, rfl, rfl, rfl, rfl, ⟨⟨_, .data⟩, by simp, rfl, rfl⟩, ⟨_, .data⟩, by simp, rfl, rfl⟩
    · show ∀ j, j < 3 * 4 → eslot (fun k => 20 + 3 * k) (fun k => 21 + 3 * k) (fun k => 22 + 3 * k) j < 50
      decide
    · show ∀ k, k < 4 → 6 + k < 50
      decide
    · decide
    · decide
    · decide
    · intro u g wx hb hk
      obtain ⟨x0, y0, cs0, z0, q0⟩ := hk 0 (by omega)
      have t0 := x0
      obtain ⟨s0, ao0, n0, cap0, e0, r0, -⟩ := t0
      have v0 : cs0 = #[.int .i64 (eI a), .bool s0, .slice ao0 n0 cap0, .int .i64 e0] := by
        have := z0.symm.trans r0
        simpa using this
      rw [v0] at q0
      rw [r0] at x0
      obtain ⟨x1, y1, cs1, z1, q1⟩ := hk 1 (by omega)
      have t1 := x1
      obtain ⟨s1, ao1, n1, cap1, e1, r1, -⟩ := t1
      have v1 : cs1 = #[.int .i64 (eI b), .bool s1, .slice ao1 n1 cap1, .int .i64 e1] := by
        have := z1.symm.trans r1
        simpa using this
      rw [v1] at q1
      rw [r1] at x1
      obtain ⟨x2, y2, cs2, z2, q2⟩ := hk 2 (by omega)
      have t2 := x2
      obtain ⟨s2, ao2, n2, cap2, e2, r2, -⟩ := t2
      have v2 : cs2 = #[.int .i64 (eI c), .bool s2, .slice ao2 n2 cap2, .int .i64 e2] := by
        have := z2.symm.trans r2
        simpa using this
      rw [v2] at q2
      rw [r2] at x2
      obtain ⟨x3, y3, cs3, z3, q3⟩ := hk 3 (by omega)
      have t3 := x3
      obtain ⟨s3, ao3, n3, cap3, e3, r3, -⟩ := t3
      have v3 : cs3 = #[.int .i64 (eI d), .bool s3, .slice ao3 n3 cap3, .int .i64 e3] := by
        have := z3.symm.trans r3
        simpa using this
      rw [v3] at q3
      rw [r3] at x3
      have HF : Hid (Below w2.heap.size w2 wx ∧ EnB wx (g 0) (.int .i64 (eI a)) (.bool s0) (.slice ao0 n0 cap0) (.int .i64 e0) ∧ EnB wx (g 1) (.int .i64 (eI b)) (.bool s1) (.slice ao1 n1 cap1) (.int .i64 e1) ∧ EnB wx (g 2) (.int .i64 (eI c)) (.bool s2) (.slice ao2 n2 cap2) (.int .i64 e2) ∧ EnB wx (g 3) (.int .i64 (eI d)) (.bool s3) (.slice ao3 n3 cap3) (.int .i64 e3) ∧ EN wx (.agg #[.int .i64 (eI a), .bool s0, .slice ao0 n0 cap0, .int .i64 e0]) (eI a) (eT a) ∧ EN wx (.agg #[.int .i64 (eI b), .bool s1, .slice ao1 n1 cap1, .int .i64 e1]) (eI b) (eT b) ∧ EN wx (.agg #[.int .i64 (eI c), .bool s2, .slice ao2 n2 cap2, .int .i64 e2]) (eI c) (eT c) ∧ EN wx (.agg #[.int .i64 (eI d), .bool s3, .slice ao3 n3 cap3, .int .i64 e3]) (eI d) (eT d)) := ⟨hb, q0, q1, q2, q3, x0, x1, x2, x3⟩
      clear hk hb x0 y0 z0 q0 r0 v0 x1 y1 z1 q1 r1 v1 x2 y2 z2 q2 r2 v2 x3 y3 z3 q3 r3 v3
      simp only [putL, eslot, show List.range (3 * 4) = [0, 1, 2, 3, 4, 5, 6, 7, 8, 9, 10, 11] from rfl, show List.range 4 = [0, 1, 2, 3] from rfl, List.map_cons, List.map_nil, List.cons_append, List.nil_append, List.foldl_cons, List.foldl_nil, Nat.reduceMod, Nat.reduceDiv, Nat.reduceMul, Nat.reduceAdd, Nat.reduceEqDiff, reduceIte, Nat.one_ne_zero, Act.put, List.setIfInBounds_toArray, List.set_cons_zero, List.set_cons_succ]
      go_wp2_with fail
      go_meet
      exact ⟨_, _, _, _, _, _, _, _, _, _, _, _, _, _, _, _, _, _, _, _, _, _, _, _, rfl, rfl, rfl, rfl, HF⟩
  case rest =>
    obtain ⟨w8, hw8⟩ : ∃ w8 : World, w8 = wc := ⟨_, rfl⟩
    subst hw8
    obtain ⟨g0, g1, g2, g3, s0, ao0, n0, cap0, e0, s1, ao1, n1, cap1, e1, s2, ao2, n2, cap2, e2, s3, ao3, n3, cap3, e3, rfl, rfl, rfl, rfl, HF⟩ := hcut
    clear HAB
    have HB8 : Hid (Below W.heap.size W w8) := HB2.out.trans (HF.out.1.mono HB2.out.size)
    have HKK : Hid (∀ w', Below w8.heap.size w8 w' → (w'.cell? ⟨g0, 0, none⟩ = some (.int .i64 (eI a)) ∧ w'.cell? ⟨g0, 1, none⟩ = some (.bool s0) ∧ w'.cell? ⟨g0, 2, none⟩ = some (.slice ao0 n0 cap0) ∧ w'.cell? ⟨g0, 3, none⟩ = some (.int .i64 e0)) ∧ (w'.cell? ⟨g1, 0, none⟩ = some (.int .i64 (eI b)) ∧ w'.cell? ⟨g1, 1, none⟩ = some (.bool s1) ∧ w'.cell? ⟨g1, 2, none⟩ = some (.slice ao1 n1 cap1) ∧ w'.cell? ⟨g1, 3, none⟩ = some (.int .i64 e1)) ∧ (w'.cell? ⟨g2, 0, none⟩ = some (.int .i64 (eI c)) ∧ w'.cell? ⟨g2, 1, none⟩ = some (.bool s2) ∧ w'.cell? ⟨g2, 2, none⟩ = some (.slice ao2 n2 cap2) ∧ w'.cell? ⟨g2, 3, none⟩ = some (.int .i64 e2)) ∧ (w'.cell? ⟨g3, 0, none⟩ = some (.int .i64 (eI d)) ∧ w'.cell? ⟨g3, 1, none⟩ = some (.bool s3) ∧ w'.cell? ⟨g3, 2, none⟩ = some (.slice ao3 n3 cap3) ∧ w'.cell? ⟨g3, 3, none⟩ = some (.int .i64 e3))) := fun w' h => ⟨(HF.out.2.1.box h).facts.1, (HF.out.2.2.1.box h).facts.1, (HF.out.2.2.2.1.box h).facts.1, (HF.out.2.2.2.2.1.box h).facts.1⟩
    have HE : Hid (EN w8 (.agg #[.int .i64 (eI a), .bool s0, .slice ao0 n0 cap0, .int .i64 e0]) (eI a) (eT a) ∧ EN w8 (.agg #[.int .i64 (eI b), .bool s1, .slice ao1 n1 cap1, .int .i64 e1]) (eI b) (eT b) ∧ EN w8 (.agg #[.int .i64 (eI c), .bool s2, .slice ao2 n2 cap2, .int .i64 e2]) (eI c) (eT c) ∧ EN w8 (.agg #[.int .i64 (eI d), .bool s3, .slice ao3 n3 cap3, .int .i64 e3]) (eI d) (eT d)) := HF.out.2.2.2.2.2
    obtain ⟨⟨a0, a1, a2, a3⟩, ⟨b0, b1, b2, b3⟩, ⟨d0, d1, d2, d3⟩, f0, f1, f2, f3⟩ := HKK.out w8 (Below.refl _ _)
    have hR : Below w8.heap.size w8 w8.drew := (Below.refl _ _).drew
    clear c0 c1 c2 c3 c4 c5 z0 z1 z2 z3 z4 z5 HF HB2
    obtain ⟨Oa, Ob, Oc, Od⟩ : Ok (eT a) ∧ Ok (eT b) ∧ Ok (eT c) ∧ Ok (eT d) := ⟨eT_ok a, eT_ok b, eT_ok c, eT_ok d⟩
    obtain ⟨Ia, Ib, Ic, Id⟩ : _ ∧ _ ∧ _ ∧ _ := ⟨eI_b a, eI_b b, eI_b c, eI_b d⟩
    have E0 := HE.out.1.later hR
    have E1 := HE.out.2.1.later hR
    have E2 := HE.out.2.2.1.later hR
    have E3 := HE.out.2.2.2.later hR
    go_upto_region 4 with fail
    go_region_held3 (fun w' => (w'.cell? ⟨g0, 0, none⟩ = some (.int .i64 (eI a)) ∧ w'.cell? ⟨g0, 1, none⟩ = some (.bool s0) ∧ w'.cell? ⟨g0, 2, none⟩ = some (.slice ao0 n0 cap0) ∧ w'.cell? ⟨g0, 3, none⟩ = some (.int .i64 e0)) ∧ (w'.cell? ⟨g1, 0, none⟩ = some (.int .i64 (eI b)) ∧ w'.cell? ⟨g1, 1, none⟩ = some (.bool s1) ∧ w'.cell? ⟨g1, 2, none⟩ = some (.slice ao1 n1 cap1) ∧ w'.cell? ⟨g1, 3, none⟩ = some (.int .i64 e1)) ∧ (w'.cell? ⟨g2, 0, none⟩ = some (.int .i64 (eI c)) ∧ w'.cell? ⟨g2, 1, none⟩ = some (.bool s2) ∧ w'.cell? ⟨g2, 2, none⟩ = some (.slice ao2 n2 cap2) ∧ w'.cell? ⟨g2, 3, none⟩ = some (.int .i64 e2)) ∧ (w'.cell? ⟨g3, 0, none⟩ = some (.int .i64 (eI d)) ∧ w'.cell? ⟨g3, 1, none⟩ = some (.bool s3) ∧ w'.cell? ⟨g3, 2, none⟩ = some (.slice ao3 n3 cap3) ∧ w'.cell? ⟨g3, 3, none⟩ = some (.int .i64 e3))) (first | (with_reducible assumption) | (with_reducible exact HKK.out _ hR) | (with_reducible refine HKK.out _ ?_; with_reducible assumption) | (refine HKK.out _ ?_; exact B.alloc B.size _) | go_keep)
      (first | (go_at_call 38; with_reducible refine (dtimes_s Ia Ic Oa Oc E0 E2).mono ?_; rintro r v0 ⟨y0, yo0, yn0, yc0, ye0, rfl, F0, hq⟩; have B := hR.trans (hq.mono hR.size); replace E0 := E0.later hq; replace E1 := E1.later hq; replace E2 := E2.later hq; replace E3 := E3.later hq; clear hq)
             | (go_at_call 38; with_reducible refine (dtimes_s Ia Id Oa Od E0 E3).mono ?_; rintro r v1 ⟨y1, yo1, yn1, yc1, ye1, rfl, F1, hq⟩; replace B := B.trans (hq.mono B.size); replace E0 := E0.later hq; replace E1 := E1.later hq; replace E2 := E2.later hq; replace E3 := E3.later hq; replace F0 := F0.later hq; clear hq)
             | (go_at_call 38; with_reducible refine (dtimes_s Ib Ic Ob Oc E1 E2).mono ?_; rintro r v2 ⟨y2, yo2, yn2, yc2, ye2, rfl, F2, hq⟩; replace B := B.trans (hq.mono B.size); replace E0 := E0.later hq; replace E1 := E1.later hq; replace E2 := E2.later hq; replace E3 := E3.later hq; replace F0 := F0.later hq;  replace F1 := F1.later hq; clear hq)
             | (go_at_call 38; with_reducible refine (dtimes_s Ib Id Ob Od E1 E3).mono ?_; rintro r v3 ⟨y3, yo3, yn3, yc3, ye3, rfl, F3, hq⟩; replace B := B.trans (hq.mono B.size); replace E0 := E0.later hq; replace E1 := E1.later hq; replace E2 := E2.later hq; replace E3 := E3.later hq; replace F0 := F0.later hq;  replace F1 := F1.later hq;  replace F2 := F2.later hq; clear hq))
    have HB3 : Hid (Below w8.heap.size w8 v3) := B
    have HFF : Hid (EN v3 (.agg #[.int .i64 (tmI (eI a) (eI c) (eT a) (eT c)), .bool y0, .slice yo0 yn0 yc0, .int .i64 ye0]) (tmI (eI a) (eI c) (eT a) (eT c)) (tmT (eI a) (eI c) (eT a) (eT c)) ∧ EN v3 (.agg #[.int .i64 (tmI (eI a) (eI d) (eT a) (eT d)), .bool y1, .slice yo1 yn1 yc1, .int .i64 ye1]) (tmI (eI a) (eI d) (eT a) (eT d)) (tmT (eI a) (eI d) (eT a) (eT d)) ∧ EN v3 (.agg #[.int .i64 (tmI (eI b) (eI c) (eT b) (eT c)), .bool y2, .slice yo2 yn2 yc2, .int .i64 ye2]) (tmI (eI b) (eI c) (eT b) (eT c)) (tmT (eI b) (eI c) (eT b) (eT c)) ∧ EN v3 (.agg #[.int .i64 (tmI (eI b) (eI d) (eT b) (eT d)), .bool y3, .slice yo3 yn3 yc3, .int .i64 ye3]) (tmI (eI b) (eI d) (eT b) (eT d)) (tmT (eI b) (eI d) (eT b) (eT d))) := ⟨F0, F1, F2, F3⟩
    clear F0 F1 F2 F3 E0 E1 E2 E3 B hR HKK HE Oa Ob Oc Od Ia Ib Ic Id a0 a1 a2 a3 b0 b1 b2 b3 d0 d1 d2 d3 f0 f1 f2 f3
    obtain ⟨V, hV⟩ : ∃ V, V = v3.alloc (.cells #[.int .i64 (tmI (eI a) (eI c) (eT a) (eT c)), .bool y0, .slice yo0 yn0 yc0, .int .i64 ye0, .int .i64 (tmI (eI a) (eI d) (eT a) (eT d)), .bool y1, .slice yo1 yn1 yc1, .int .i64 ye1, .int .i64 (tmI (eI b) (eI c) (eT b) (eT c)), .bool y2, .slice yo2 yn2 yc2, .int .i64 ye2, .int .i64 (tmI (eI b) (eI d) (eT b) (eT d)), .bool y3, .slice yo3 yn3 yc3, .int .i64 ye3] 61) := ⟨_, rfl⟩
    obtain ⟨g, hg⟩ : ∃ g, g = v3.heap.size := ⟨_, rfl⟩
    have HL : Hid (∃ (ss : Nat → Bool) (oo : Nat → Option Addr) (nn cc : Nat → Nat) (ee : Nat → Int), (∀ k, k < 4 → (V.cell? ⟨g, k * 4, none⟩ = some (.int .i64 (pI a b c d k)) ∧ V.cell? ⟨g, k * 4 + 1, none⟩ = some (.bool (ss k)) ∧ V.cell? ⟨g, k * 4 + 2, none⟩ = some (.slice (oo k) (nn k) (cc k)) ∧ V.cell? ⟨g, k * 4 + 3, none⟩ = some (.int .i64 (ee k)))) ∧ ∀ k, k < 4 → EN V (.agg #[.int .i64 (pI a b c d k), .bool (ss k), .slice (oo k) (nn k) (cc k), .int .i64 (ee k)]) (pI a b c d k) (pT a b c d k)) := by
      have hbV : Below v3.heap.size v3 V := by rw [hV]; exact (Below.refl _ _).alloc (Nat.le_refl _) _
      have hrow : V.heap[g]? = some (.cells #[.int .i64 (tmI (eI a) (eI c) (eT a) (eT c)), .bool y0, .slice yo0 yn0 yc0, .int .i64 ye0, .int .i64 (tmI (eI a) (eI d) (eT a) (eT d)), .bool y1, .slice yo1 yn1 yc1, .int .i64 ye1, .int .i64 (tmI (eI b) (eI c) (eT b) (eT c)), .bool y2, .slice yo2 yn2 yc2, .int .i64 ye2, .int .i64 (tmI (eI b) (eI d) (eT b) (eT d)), .bool y3, .slice yo3 yn3 yc3, .int .i64 ye3] 61 (0, 0)) := by rw [hV, hg]; exact heap_alloc_new _ _
      refine ⟨(fun k => if k = 0 then y0 else if k = 1 then y1 else if k = 2 then y2 else y3), (fun k => if k = 0 then yo0 else if k = 1 then yo1 else if k = 2 then yo2 else yo3), (fun k => if k = 0 then yn0 else if k = 1 then yn1 else if k = 2 then yn2 else yn3), (fun k => if k = 0 then yc0 else if k = 1 then yc1 else if k = 2 then yc2 else yc3), (fun k => if k = 0 then ye0 else if k = 1 then ye1 else if k = 2 then ye2 else ye3), ?_, ?_⟩
      · intro k hk
        rcases lt48 hk with rfl | rfl | rfl | rfl <;> (simp only [World.cell?, hrow]; exact ⟨rfl, rfl, rfl, rfl⟩)
      · intro k hk
        rcases lt48 hk with rfl | rfl | rfl | rfl
        · exact HFF.out.1.later hbV
        · exact HFF.out.2.1.later hbV
        · exact HFF.out.2.2.1.later hbV
        · exact HFF.out.2.2.2.later hbV
    have HBV : Hid (Below W.heap.size W V) := by rw [hV]; exact (HB8.out.trans (HB3.out.mono HB8.out.size)).alloc (HB8.out.trans (HB3.out.mono HB8.out.size)).size _
    clear HFF HB3 HB8
    obtain ⟨ss, oo, nn, cc, ee, hc, hD⟩ := HL.out
    obtain ⟨hX, hY, hO⟩ := HXY.out (by simp)
    have HC : Hid (∀ w', Below V.heap.size V w' → ∀ k, k < 4 → (w'.cell? ⟨g, k * 4, none⟩ = some (.int .i64 (pI a b c d k)) ∧ w'.cell? ⟨g, k * 4 + 1, none⟩ = some (.bool (ss k)) ∧ w'.cell? ⟨g, k * 4 + 2, none⟩ = some (.slice (oo k) (nn k) (cc k)) ∧ w'.cell? ⟨g, k * 4 + 3, none⟩ = some (.int .i64 (ee k)))) := fun w' hb k hk => ⟨(hb.cell (World.block_lt_of_cell? _ _ (hc k hk).1)).trans (hc k hk).1, (hb.cell (World.block_lt_of_cell? _ _ (hc k hk).2.1)).trans (hc k hk).2.1, (hb.cell (World.block_lt_of_cell? _ _ (hc k hk).2.2.1)).trans (hc k hk).2.2.1, (hb.cell (World.block_lt_of_cell? _ _ (hc k hk).2.2.2)).trans (hc k hk).2.2.2⟩
    have HD : Hid (∀ k, k < 4 → EN V (.agg #[.int .i64 (pI a b c d k), .bool (ss k), .slice (oo k) (nn k) (cc k), .int .i64 (ee k)]) (pI a b c d k) (pT a b c d k)) := hD
    have HO : Hid (∀ k, k < 4 → Ok (pT a b c d k)) := hO
    have kk := dleast g (pI a b c d) ee ss oo nn cc (pT a b c d) V hc hD hO
    have l1 := lstE_le 1 (pI a b c d) (pT a b c d) 3
    have l2 := lstE_le (-1) (pI a b c d) (pT a b c d) 3
    have HQ : Hid (enF (pI a b c d (lstE 1 (pI a b c d) (pT a b c d) 3)) (pT a b c d (lstE 1 (pI a b c d) (pT a b c d) 3)) 1 = X ∧ enF (pI a b c d (lstE (-1) (pI a b c d) (pT a b c d) 3)) (pT a b c d (lstE (-1) (pI a b c d) (pT a b c d) 3)) 3 = Y) := ⟨hX, hY⟩
    generalize lstE 1 (pI a b c d) (pT a b c d) 3 = L1 at *
    have HL2 : Hid (lstE (-1) (pI a b c d) (pT a b c d) 3 < 4) := Nat.lt_succ_of_le l2
    clear hc hD hO hX hY HL HXY l2
    go_wp2_with fail
    rw [← hV, ← hg]
    clear hV hg
    refine kk.mono ?_
    rintro r v4 ⟨A4, rfl, F4, q4⟩
    have HV4 : Hid (Below V.heap.size V v4) := q4
    have H4 : Hid (EN v4 A4 (pI a b c d L1) (pT a b c d L1) ∧ L1 < 4) := ⟨F4, by omega⟩
    clear kk q4 F4 l1
    have kk := dmost g (pI a b c d) ee ss oo nn cc (pT a b c d) v4 (fun k hk => HC.out v4 HV4.out k hk) (fun k hk => (HD.out k hk).later HV4.out) HO.out
    generalize lstE (-1) (pI a b c d) (pT a b c d) 3 = L2 at *
    go_wp2_with fail
    refine kk.mono ?_
    rintro r v5 ⟨A5, rfl, F5, q5⟩
    have HV5 : Hid (Below W.heap.size W v5) := HBV.out.trans ((HV4.out.trans (q5.mono HV4.out.size)).mono HBV.out.size)
    have kk := dTight (HO.out L1 H4.out.2) (HO.out L2 HL2.out) (H4.out.1.later q5) F5
    rw [HQ.out.1, HQ.out.2] at kk
    clear F5 q5 H4 HV4 HBV HC HD HO HQ
    go_wp2_with fail
    refine kk.mono ?_
    rintro r v6 ⟨rfl, q6⟩
    have HV6 := HV5.out.trans (q6.mono HV5.out.size)
    obtain ⟨-, -, x0, x1, x2, x3⟩ := HK.out v6 HV6
    have HB : Hid (Below w.heap.size w v6) := HX.out.1.trans (HV6.mono HX.out.1.size)
    have HR : Hid (IvB v6 (w.heap.size + 1 + 1) 0 0) := HX.out.2.2.2.box HV6
    clear kk q6 HV5 HV6 HK HX
    go_wp2_with fail
    refine bodyPost_ret (results_cell_tmp_row rfl _ _ (w.heap.size + 1 + 1) 24 #[.float .f64 X, .float .f64 Y] (0, 0) _ rfl (HR.out.set _ _) Tryz.underlying24 rfl iv_info) rfl ?_
    first | exact ⟨rfl, below_store2 HB.out (by omega) _ _⟩ | exact ⟨rfl, (below_store2 HB.out (by omega) _ _).drew⟩
end Go.Proofs.YtcoclopllbfjcaaGreatDoor
/- Products of ends in numbers. -/
namespace Go.Proofs.YtcoclopllbfjcaaGreatDoor
set_option linter.unusedVariables false
set_option linter.unusedSimpArgs false
open Go.RowKit Go.Fl64
attribute [local go_sem] run_store_flt

theorem mag_le8 {x : Nat} (nx : isNaN x = false) : mag x ≤ 9218868437227405312 := by
  have n' : ¬ 9218868437227405312 < mag x := of_decide_eq_false nx
  omega
theorem sgn8 {x : Nat} (hx : x < 18446744073709551616) (nx : isNaN x = false) : sgE (eI x) (eT x) = if mag x = 0 then 0 else if neg x then -1 else 1 := by
  rcases inf_or hx nx with ⟨f, e, t⟩ | ⟨rfl, e⟩ | ⟨rfl, e⟩
  · rw [e, t]
    unfold sgE
    rw [if_pos rfl]
    by_cases h0 : mag x = 0
    · rw [if_pos h0, tF_zero8 h0]; rfl
    · have k := tF_val8 f h0
      have h1 : (tF x).2.1 ≠ 0 := by
        intro h
        rw [h, Nat.zero_mul] at k
        have := (val_eq_zero (mag x)).1 k.2.1
        exact h0 this
      rw [if_neg h0, if_neg h1, k.1]
  · rw [e]; decide
  · rw [e]; decide
theorem fin_iff8 {x : Nat} (hx : x < 18446744073709551616) (nx : isNaN x = false) : eI x = 0 ↔ mag x < 9218868437227405312 := eI_zero_fin hx nx
theorem onF_nn {x : Nat} (h : isNaN x = false) : onF x = x := by unfold onF; rw [h]; rfl
theorem mul_zero8 {x y : Nat} (hx : x < 18446744073709551616) (hy : y < 18446744073709551616) (nx : isNaN x = false) (ny : isNaN y = false) {m : Int} (hm : 1 ≤ m ∧ m ≤ 3) (h : mag x = 0 ∨ mag y = 0) : pl (onF (fMul x y m)) = 0 := by
  have hM : isM m = true := by unfold isM; rcases (show m = 1 ∨ m = 2 ∨ m = 3 by omega) with rfl | rfl | rfl <;> rfl
  have hp : pln x = false ∨ pln y = false := by
    unfold pln
    rcases h with h | h
    · left; rw [h]; rfl
    · right; rw [h]; rfl
  unfold fMul
  rw [hM, if_neg (by simp), if_pos hp]
  unfold mulX
  rw [nx, ny, if_neg (by simp)]
  split
  · first | decide | (rw [if_pos h]; decide)
  · cases (neg x != neg y) <;> decide
theorem enF_times {x y : Nat} (hx : x < 18446744073709551616) (hy : y < 18446744073709551616) (nx : isNaN x = false) (ny : isNaN y = false) {m : Int} (hm : 1 ≤ m ∧ m ≤ 3) : enF (tmI (eI x) (eI y) (eT x) (eT y)) (tmT (eI x) (eI y) (eT x) (eT y)) m = pl (onF (fMul x y m)) := by
  have hM : isM m = true := by unfold isM; rcases (show m = 1 ∨ m = 2 ∨ m = 3 by omega) with rfl | rfl | rfl <;> rfl
  have sx := sgn8 hx nx
  have sy := sgn8 hy ny
  unfold tmI tmT
  by_cases h0 : mag x = 0 ∨ mag y = 0
  · have hz : sgE (eI x) (eT x) = 0 ∨ sgE (eI y) (eT y) = 0 := by
      rw [sx, sy]
      rcases h0 with h | h
      · left; rw [if_pos h]
      · right; rw [if_pos h]
    rw [if_pos hz, if_pos hz, enF_0, mul_zero8 hx hy nx ny hm h0]
  have x0 : mag x ≠ 0 := by omega
  have y0 : mag y ≠ 0 := by omega
  rw [if_neg x0] at sx
  rw [if_neg y0] at sy
  have hz : ¬ (sgE (eI x) (eT x) = 0 ∨ sgE (eI y) (eT y) = 0) := by
    rw [sx, sy]
    cases neg x <;> cases neg y <;> simp
  rw [if_neg hz, if_neg hz]
  have ex := fin_iff8 hx nx
  have ey := fin_iff8 hy ny
  have mx := mag_le8 nx
  have my := mag_le8 ny
  by_cases hi : eI x ≠ 0 ∨ eI y ≠ 0
  · rw [if_pos hi, if_pos hi]
    have hin : mag x = 9218868437227405312 ∨ mag y = 9218868437227405312 := by
      rcases hi with h | h
      · left; have : ¬ mag x < 9218868437227405312 := fun h' => h (ex.2 h'); omega
      · right; have : ¬ mag y < 9218868437227405312 := fun h' => h (ey.2 h'); omega
    have hp : pln x = false ∨ pln y = false := by
      unfold pln
      rcases hin with h | h
      · left; rw [h]; rfl
      · right; rw [h]; rfl
    unfold fMul
    rw [hM, if_neg (by simp), if_pos hp]
    unfold mulX
    rw [nx, ny, if_neg (by simp), if_pos hin, if_neg h0, sx, sy]
    unfold enF
    generalize pl (toD (false, 0, 0) m) = q
    cases neg x <;> cases neg y <;> rfl
  · rw [if_neg hi, if_neg hi]
    have x1 : eI x = 0 := by omega
    have y1 : eI y = 0 := by omega
    have tx : eT x = tF x := by unfold eT; rw [if_pos x1]
    have ty : eT y = tF y := by unfold eT; rw [if_pos y1]
    have px : pln x = true := by unfold pln; rw [decide_eq_true (ex.1 x1), decide_eq_true x0]; rfl
    have py : pln y = true := by unfold pln; rw [decide_eq_true (ey.1 y1), decide_eq_true y0]; rfl
    have o : Ok (tM (tF x) (tF y)) := tM_ok (tM_okR x y)
    have e : fMul x y m = toD (tM (tF x) (tF y)) m := by
      unfold fMul
      rw [hM, if_neg (by simp), if_neg (by rw [px, py]; simp), toD_tf o hm]
    have k := enF_nn 0 (tM (tF x) (tF y)) hm
    have e2 : enF 0 (tM (tF x) (tF y)) m = pl (toD (tM (tF x) (tF y)) m) := by unfold enF; rw [if_pos rfl]
    rw [e2, pl_nan] at k
    rw [tx, ty, e2, e, onF_nn k]
/-- ends in their order -/
def xle (i j : Int) (t u : Bool × Nat × Int) : Prop := i < j ∨ (i = j ∧ (i = 0 → V8 t ≤ V8 u))
theorem xle_refl (i : Int) (t : Bool × Nat × Int) : xle i i t t := .inr ⟨rfl, fun _ => Int.le_refl _⟩
theorem xle_trans {i j k : Int} {t u v : Bool × Nat × Int} (h1 : xle i j t u) (h2 : xle j k u v) : xle i k t v := by
  rcases h1 with h1 | ⟨rfl, h1⟩
  · rcases h2 with h2 | ⟨rfl, -⟩
    · exact .inl (by omega)
    · exact .inl h1
  · rcases h2 with h2 | ⟨rfl, h2⟩
    · exact .inl h2
    · exact .inr ⟨rfl, fun h => by have := h1 h; have := h2 h; omega⟩
theorem ordE_x {i j : Int} {t u : Bool × Nat × Int} (o1 : Ok t) (o2 : Ok u) : (ordE i j t u ≤ 0 → xle i j t u) ∧ (0 ≤ ordE i j t u → xle j i u t) := by
  unfold ordE
  by_cases h : i = j
  · rw [if_pos h]
    by_cases h0 : i = 0
    · rw [if_pos h0]
      have ho := ordN_vz (na := t.1) (x := t.2.1) (ea := t.2.2) (nb := u.1) (y := u.2.1) (eb := u.2.2) o1.e8 o2.e8
      have ho : ordN t.1 t.2.1 t.2.2 u.1 u.2.1 u.2.2 = cmpI (V8 t) (V8 u) := ho
      rw [ho]
      have k := cmpI_neg_iff (V8 t) (V8 u)
      exact ⟨fun h1 => .inr ⟨h, fun _ => by have := k.2; omega⟩, fun h1 => .inr ⟨h.symm, fun _ => by have := k.1; omega⟩⟩
    · rw [if_neg h0]
      exact ⟨fun _ => .inr ⟨h, fun h' => absurd h' h0⟩, fun _ => .inr ⟨h.symm, fun h' => absurd (h.trans h') h0⟩⟩
  · rw [if_neg h]
    split
    · rename_i h1
      exact ⟨fun _ => .inl h1, fun h2 => absurd h2 (by omega)⟩
    · rename_i h1
      exact ⟨fun h2 => absurd h2 (by omega), fun _ => .inl (by omega)⟩
theorem lst_min {ii : Nat → Int} {tt : Nat → Bool × Nat × Int} : ∀ n, (∀ k, k ≤ n → Ok (tt k)) → ∀ k, k ≤ n → xle (ii (lstE 1 ii tt n)) (ii k) (tt (lstE 1 ii tt n)) (tt k)
  | 0, _, k, hk => by
    obtain rfl : k = 0 := by omega
    exact xle_refl _ _
  | n + 1, hO, k, hk => by
    have ih := lst_min (ii := ii) n (fun k hk => hO k (by omega))
    have hl := lstE_le 1 ii tt n
    have hx := ordE_x (i := ii (n + 1)) (j := ii (lstE 1 ii tt n)) (hO (n + 1) (by omega)) (hO (lstE 1 ii tt n) (by omega))
    unfold lstE
    split
    · rename_i h
      by_cases e : k = n + 1
      · subst e; exact xle_refl _ _
      · exact xle_trans (hx.1 (by omega)) (ih k (by omega))
    · rename_i h
      by_cases e : k = n + 1
      · subst e; exact hx.2 (by omega)
      · exact ih k (by omega)
theorem lst_max {ii : Nat → Int} {tt : Nat → Bool × Nat × Int} : ∀ n, (∀ k, k ≤ n → Ok (tt k)) → ∀ k, k ≤ n → xle (ii k) (ii (lstE (-1) ii tt n)) (tt k) (tt (lstE (-1) ii tt n))
  | 0, _, k, hk => by
    obtain rfl : k = 0 := by omega
    exact xle_refl _ _
  | n + 1, hO, k, hk => by
    have ih := lst_max (ii := ii) n (fun k hk => hO k (by omega))
    have hl := lstE_le (-1) ii tt n
    have hx := ordE_x (i := ii (n + 1)) (j := ii (lstE (-1) ii tt n)) (hO (n + 1) (by omega)) (hO (lstE (-1) ii tt n) (by omega))
    unfold lstE
    split
    · rename_i h
      by_cases e : k = n + 1
      · subst e; exact xle_refl _ _
      · exact xle_trans (ih k (by omega)) (hx.2 (by omega))
    · rename_i h
      by_cases e : k = n + 1
      · subst e; exact hx.1 (by omega)
      · exact ih k (by omega)
/-- rounding keeps the order -/
theorem enF_mono {i j : Int} {t u : Bool × Nat × Int} (hi : -1 ≤ i ∧ i ≤ 1) (hj : -1 ≤ j ∧ j ≤ 1) (o1 : Ok t) (o2 : Ok u) {m : Int} (hm : 1 ≤ m ∧ m ≤ 3) (h : xle i j t u) : stp (enF i t m) ≤ stp (enF j u m) := by
  have b1 := nn_stp (enF_nn i t hm)
  have b2 : -9218868437227405312 ≤ stp (enF j u m) := by
    have := mag_le8 (enF_nn j u hm)
    unfold stp sgn
    split <;> omega
  rcases h with h | ⟨rfl, h⟩
  · by_cases h1 : j = 1
    · have e : enF j u m = 9218868437227405312 := by rw [h1]; unfold enF; rfl
      rw [e, show stp 9218868437227405312 = 9218868437227405312 by decide]
      exact b1
    · have e : enF i t m = 18442240474082181120 := by rw [show i = -1 by omega]; unfold enF; rfl
      rw [e, show stp 18442240474082181120 = -9218868437227405312 by decide]
      exact b2
  · by_cases h0 : i = 0
    · have k := toD_mono o1 o2 hm (h h0)
      unfold enF
      rw [if_pos h0, if_pos h0, pl_stp, pl_stp]
      exact k
    · unfold enF
      rw [if_neg h0, if_neg h0]
      exact Int.le_refl _
end Go.Proofs.YtcoclopllbfjcaaGreatDoor
