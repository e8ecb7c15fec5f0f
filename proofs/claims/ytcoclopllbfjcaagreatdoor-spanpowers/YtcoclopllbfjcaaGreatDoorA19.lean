/- Own work: contracts of the program's functions, part 19: SO4. -/
import Derived.Test.YtcoclopllbfjcaaGreatDoorA18
import Derived.Test.YtcoclopllbfjcaaGreatDoorA13

set_option maxHeartbeats 16000000
namespace Go.Proofs.YtcoclopllbfjcaaGreatDoor
set_option linter.unusedVariables false
set_option linter.unusedSimpArgs false
open Go.RowKit Go.Fl64
attribute [local go_sem] run_store_flt
set_option maxRecDepth 200000 in
theorem dtimes_z1 (i j eA eB : Int) (sA sB : Bool) (aoA aoB : Option Addr) (nA capA nB capB : Nat) (sa sb : Int) (w : World) (ka : ∀ W, Below w.heap.size w W → Calls Tryz.prog 86 #[.agg #[.int .i64 i, .bool sA, .slice aoA nA capA, .int .i64 eA]] W fun r w' => r = .returned (.int .i64 sa) ∧ Below W.heap.size W w') (kb : ∀ W, Below w.heap.size w W → Calls Tryz.prog 86 #[.agg #[.int .i64 j, .bool sB, .slice aoB nB capB, .int .i64 eB]] W fun r w' => r = .returned (.int .i64 sb) ∧ Below W.heap.size W w') (hz : sa = 0) :
    Calls Tryz.prog 38 #[.agg #[.int .i64 i, .bool sA, .slice aoA nA capA, .int .i64 eA], .agg #[.int .i64 j, .bool sB, .slice aoB nB capB, .int .i64 eB]] w fun r w' => r = .returned (.agg #[.int .i64 0, .bool false, .slice none 0 0, .int .i64 0]) ∧ Below w.heap.size w w' := by
  obtain ⟨W, hW⟩ : ∃ W, W = ((w.alloc (.cells #[.int .i64 i, .bool sA, .slice aoA nA capA, .int .i64 eA] 61)).alloc (.cells #[.int .i64 j, .bool sB, .slice aoB nB capB, .int .i64 eB] 61)).alloc (.cells #[.int .i64 0, .bool false, .slice none 0 0, .int .i64 0] 61) := ⟨_, rfl⟩
  have HX : Hid (Below w.heap.size w W ∧ EnB W (w.heap.size) (.int .i64 i) (.bool sA) (.slice aoA nA capA) (.int .i64 eA) ∧ EnB W (w.heap.size + 1) (.int .i64 j) (.bool sB) (.slice aoB nB capB) (.int .i64 eB) ∧ EnB W (w.heap.size + 1 + 1) (.int .i64 0) (.bool false) (.slice none 0 0) (.int .i64 0)) := by
    rw [hW]
    refine ⟨(((Below.refl _ _).alloc (Nat.le_refl _) _).alloc (by simp) _).alloc (by simp; omega) _, ((EnB.new _ _ _ _ _).alloc _).alloc _, ?_, ?_⟩
    · have := (EnB.new (w.alloc (.cells #[.int .i64 i, .bool sA, .slice aoA nA capA, .int .i64 eA] 61)) (.int .i64 j) (.bool sB) (.slice aoB nB capB) (.int .i64 eB)).alloc (.cells #[.int .i64 0, .bool false, .slice none 0 0, .int .i64 0] 61)
      simpa using this
    · have := EnB.new ((w.alloc (.cells #[.int .i64 i, .bool sA, .slice aoA nA capA, .int .i64 eA] 61)).alloc (.cells #[.int .i64 j, .bool sB, .slice aoB nB capB, .int .i64 eB] 61)) (.int .i64 0) (.bool false) (.slice none 0 0) (.int .i64 0)
      simpa using this
  have HKK : Hid (∀ w', Below W.heap.size W w' → (w'.cell? ⟨w.heap.size, 0, none⟩ = some (.int .i64 i) ∧ w'.cell? ⟨w.heap.size, 1, none⟩ = some (.bool sA) ∧ w'.cell? ⟨w.heap.size, 2, none⟩ = some (.slice aoA nA capA) ∧ w'.cell? ⟨w.heap.size, 3, none⟩ = some (.int .i64 eA)) ∧ (w'.cell? ⟨w.heap.size + 1, 0, none⟩ = some (.int .i64 j) ∧ w'.cell? ⟨w.heap.size + 1, 1, none⟩ = some (.bool sB) ∧ w'.cell? ⟨w.heap.size + 1, 2, none⟩ = some (.slice aoB nB capB) ∧ w'.cell? ⟨w.heap.size + 1, 3, none⟩ = some (.int .i64 eB))) := fun w' h => ⟨(HX.out.2.1.box h).facts.1, (HX.out.2.2.1.box h).facts.1⟩
  have HKA : Hid _ := ka
  have HKB : Hid _ := kb
  clear ka kb
  obtain ⟨⟨a0, a1, a2, a3⟩, b0, b1, b2, b3⟩ := HKK.out W (Below.refl _ _)
  have kk := HKA.out W HX.out.1
  go_enter Tryz.func38, Tryz.ntmps38
  go_upto_region 1 with fail
  rw [← hW]
  clear hW
  go_wp2_with fail
  refine kk.mono ?_
  rintro r w1 ⟨rfl, hb⟩
  have HB1 : Hid (Below W.heap.size W w1) := hb
  clear kk hb a0 a1 a2 a3 b0 b1 b2 b3
  obtain ⟨⟨a0, a1, a2, a3⟩, b0, b1, b2, b3⟩ := HKK.out w1 HB1.out
  subst hz
  obtain ⟨⟨x0, x1, x2, x3⟩, x4, x5, x6, x7⟩ := (HX.out.2.2.2.box HB1.out).facts
  have HF : Hid (EnB w1 (w.heap.size + 1 + 1) (.int .i64 0) (.bool false) (.slice none 0 0) (.int .i64 0) ∧ Below w.heap.size w w1) := ⟨HX.out.2.2.2.box HB1.out, HX.out.1.trans (HB1.out.mono HX.out.1.size)⟩
  clear HX HKK HKA HKB a0 a1 a2 a3 b0 b1 b2 b3
  go_wp2
  refine bodyPost_ret (results_cell_row rfl _ _ (w.heap.size + 1 + 1) 61 #[.int .i64 0, .bool false, .slice none 0 0, .int .i64 0] (0, 0) _ rfl (HF.out.1.set _ _ _ _) Tryz.underlying61 rfl en_info) rfl ?_
  exact ⟨rfl, below_store4 HF.out.2 (by omega) _ _ _ _⟩
set_option maxRecDepth 200000 in
theorem dtimes_z2 (i j eA eB : Int) (sA sB : Bool) (aoA aoB : Option Addr) (nA capA nB capB : Nat) (sa sb : Int) (w : World) (ka : ∀ W, Below w.heap.size w W → Calls Tryz.prog 86 #[.agg #[.int .i64 i, .bool sA, .slice aoA nA capA, .int .i64 eA]] W fun r w' => r = .returned (.int .i64 sa) ∧ Below W.heap.size W w') (kb : ∀ W, Below w.heap.size w W → Calls Tryz.prog 86 #[.agg #[.int .i64 j, .bool sB, .slice aoB nB capB, .int .i64 eB]] W fun r w' => r = .returned (.int .i64 sb) ∧ Below W.heap.size W w') (hsa : sa ≠ 0) (hz : sb = 0) :
    Calls Tryz.prog 38 #[.agg #[.int .i64 i, .bool sA, .slice aoA nA capA, .int .i64 eA], .agg #[.int .i64 j, .bool sB, .slice aoB nB capB, .int .i64 eB]] w fun r w' => r = .returned (.agg #[.int .i64 0, .bool false, .slice none 0 0, .int .i64 0]) ∧ Below w.heap.size w w' := by
  obtain ⟨W, hW⟩ : ∃ W, W = ((w.alloc (.cells #[.int .i64 i, .bool sA, .slice aoA nA capA, .int .i64 eA] 61)).alloc (.cells #[.int .i64 j, .bool sB, .slice aoB nB capB, .int .i64 eB] 61)).alloc (.cells #[.int .i64 0, .bool false, .slice none 0 0, .int .i64 0] 61) := ⟨_, rfl⟩
  have HX : Hid (Below w.heap.size w W ∧ EnB W (w.heap.size) (.int .i64 i) (.bool sA) (.slice aoA nA capA) (.int .i64 eA) ∧ EnB W (w.heap.size + 1) (.int .i64 j) (.bool sB) (.slice aoB nB capB) (.int .i64 eB) ∧ EnB W (w.heap.size + 1 + 1) (.int .i64 0) (.bool false) (.slice none 0 0) (.int .i64 0)) := by
    rw [hW]
    refine ⟨(((Below.refl _ _).alloc (Nat.le_refl _) _).alloc (by simp) _).alloc (by simp; omega) _, ((EnB.new _ _ _ _ _).alloc _).alloc _, ?_, ?_⟩
    · have := (EnB.new (w.alloc (.cells #[.int .i64 i, .bool sA, .slice aoA nA capA, .int .i64 eA] 61)) (.int .i64 j) (.bool sB) (.slice aoB nB capB) (.int .i64 eB)).alloc (.cells #[.int .i64 0, .bool false, .slice none 0 0, .int .i64 0] 61)
      simpa using this
    · have := EnB.new ((w.alloc (.cells #[.int .i64 i, .bool sA, .slice aoA nA capA, .int .i64 eA] 61)).alloc (.cells #[.int .i64 j, .bool sB, .slice aoB nB capB, .int .i64 eB] 61)) (.int .i64 0) (.bool false) (.slice none 0 0) (.int .i64 0)
      simpa using this
  have HKK : Hid (∀ w', Below W.heap.size W w' → (w'.cell? ⟨w.heap.size, 0, none⟩ = some (.int .i64 i) ∧ w'.cell? ⟨w.heap.size, 1, none⟩ = some (.bool sA) ∧ w'.cell? ⟨w.heap.size, 2, none⟩ = some (.slice aoA nA capA) ∧ w'.cell? ⟨w.heap.size, 3, none⟩ = some (.int .i64 eA)) ∧ (w'.cell? ⟨w.heap.size + 1, 0, none⟩ = some (.int .i64 j) ∧ w'.cell? ⟨w.heap.size + 1, 1, none⟩ = some (.bool sB) ∧ w'.cell? ⟨w.heap.size + 1, 2, none⟩ = some (.slice aoB nB capB) ∧ w'.cell? ⟨w.heap.size + 1, 3, none⟩ = some (.int .i64 eB))) := fun w' h => ⟨(HX.out.2.1.box h).facts.1, (HX.out.2.2.1.box h).facts.1⟩
  have HKA : Hid _ := ka
  have HKB : Hid _ := kb
  clear ka kb
  obtain ⟨⟨a0, a1, a2, a3⟩, b0, b1, b2, b3⟩ := HKK.out W (Below.refl _ _)
  have kk := HKA.out W HX.out.1
  go_enter Tryz.func38, Tryz.ntmps38
  go_upto_region 1 with fail
  rw [← hW]
  clear hW
  go_wp2_with fail
  refine kk.mono ?_
  rintro r w1 ⟨rfl, hb⟩
  have HB1 : Hid (Below W.heap.size W w1) := hb
  clear kk hb a0 a1 a2 a3 b0 b1 b2 b3
  obtain ⟨⟨a0, a1, a2, a3⟩, b0, b1, b2, b3⟩ := HKK.out w1 HB1.out
  have e1 : (sa == 0) = false := by simp [hsa]
  have kk := HKB.out w1 (HX.out.1.trans (HB1.out.mono HX.out.1.size))
  go_wp2_with fail
  refine kk.mono ?_
  rintro r w2 ⟨rfl, hb⟩
  have HB2 : Hid (Below W.heap.size W w2) := HB1.out.trans (hb.mono HB1.out.size)
  clear kk hb HB1 a0 a1 a2 a3 b0 b1 b2 b3
  obtain ⟨⟨a0, a1, a2, a3⟩, b0, b1, b2, b3⟩ := HKK.out w2 HB2.out
  subst hz
  obtain ⟨⟨x0, x1, x2, x3⟩, x4, x5, x6, x7⟩ := (HX.out.2.2.2.box HB2.out).facts
  have HF : Hid (EnB w2 (w.heap.size + 1 + 1) (.int .i64 0) (.bool false) (.slice none 0 0) (.int .i64 0) ∧ Below w.heap.size w w2) := ⟨HX.out.2.2.2.box HB2.out, HX.out.1.trans (HB2.out.mono HX.out.1.size)⟩
  clear HX HKK HKA HKB a0 a1 a2 a3 b0 b1 b2 b3
  go_wp2
  refine bodyPost_ret (results_cell_row rfl _ _ (w.heap.size + 1 + 1) 61 #[.int .i64 0, .bool false, .slice none 0 0, .int .i64 0] (0, 0) _ rfl (HF.out.1.set _ _ _ _) Tryz.underlying61 rfl en_info) rfl ?_
  exact ⟨rfl, below_store4 HF.out.2 (by omega) _ _ _ _⟩
set_option maxRecDepth 200000 in
theorem dtimes_i1 (i j eA eB : Int) (sA sB : Bool) (aoA aoB : Option Addr) (nA capA nB capB : Nat) (sa sb : Int) (c : Int) (w : World) (ka : ∀ W, Below w.heap.size w W → Calls Tryz.prog 86 #[.agg #[.int .i64 i, .bool sA, .slice aoA nA capA, .int .i64 eA]] W fun r w' => r = .returned (.int .i64 sa) ∧ Below W.heap.size W w') (kb : ∀ W, Below w.heap.size w W → Calls Tryz.prog 86 #[.agg #[.int .i64 j, .bool sB, .slice aoB nB capB, .int .i64 eB]] W fun r w' => r = .returned (.int .i64 sb) ∧ Below W.heap.size W w') (hsa : sa ≠ 0) (hsb : sb ≠ 0) (hc : IntKind.i64.wrap (sa * sb) = c) (hij : i ≠ 0) :
    Calls Tryz.prog 38 #[.agg #[.int .i64 i, .bool sA, .slice aoA nA capA, .int .i64 eA], .agg #[.int .i64 j, .bool sB, .slice aoB nB capB, .int .i64 eB]] w fun r w' => r = .returned (.agg #[.int .i64 c, .bool false, .slice none 0 0, .int .i64 0]) ∧ Below w.heap.size w w' := by
  obtain ⟨W, hW⟩ : ∃ W, W = ((w.alloc (.cells #[.int .i64 i, .bool sA, .slice aoA nA capA, .int .i64 eA] 61)).alloc (.cells #[.int .i64 j, .bool sB, .slice aoB nB capB, .int .i64 eB] 61)).alloc (.cells #[.int .i64 0, .bool false, .slice none 0 0, .int .i64 0] 61) := ⟨_, rfl⟩
  have HX : Hid (Below w.heap.size w W ∧ EnB W (w.heap.size) (.int .i64 i) (.bool sA) (.slice aoA nA capA) (.int .i64 eA) ∧ EnB W (w.heap.size + 1) (.int .i64 j) (.bool sB) (.slice aoB nB capB) (.int .i64 eB) ∧ EnB W (w.heap.size + 1 + 1) (.int .i64 0) (.bool false) (.slice none 0 0) (.int .i64 0)) := by
    rw [hW]
    refine ⟨(((Below.refl _ _).alloc (Nat.le_refl _) _).alloc (by simp) _).alloc (by simp; omega) _, ((EnB.new _ _ _ _ _).alloc _).alloc _, ?_, ?_⟩
    · have := (EnB.new (w.alloc (.cells #[.int .i64 i, .bool sA, .slice aoA nA capA, .int .i64 eA] 61)) (.int .i64 j) (.bool sB) (.slice aoB nB capB) (.int .i64 eB)).alloc (.cells #[.int .i64 0, .bool false, .slice none 0 0, .int .i64 0] 61)
      simpa using this
    · have := EnB.new ((w.alloc (.cells #[.int .i64 i, .bool sA, .slice aoA nA capA, .int .i64 eA] 61)).alloc (.cells #[.int .i64 j, .bool sB, .slice aoB nB capB, .int .i64 eB] 61)) (.int .i64 0) (.bool false) (.slice none 0 0) (.int .i64 0)
      simpa using this
  have HKK : Hid (∀ w', Below W.heap.size W w' → (w'.cell? ⟨w.heap.size, 0, none⟩ = some (.int .i64 i) ∧ w'.cell? ⟨w.heap.size, 1, none⟩ = some (.bool sA) ∧ w'.cell? ⟨w.heap.size, 2, none⟩ = some (.slice aoA nA capA) ∧ w'.cell? ⟨w.heap.size, 3, none⟩ = some (.int .i64 eA)) ∧ (w'.cell? ⟨w.heap.size + 1, 0, none⟩ = some (.int .i64 j) ∧ w'.cell? ⟨w.heap.size + 1, 1, none⟩ = some (.bool sB) ∧ w'.cell? ⟨w.heap.size + 1, 2, none⟩ = some (.slice aoB nB capB) ∧ w'.cell? ⟨w.heap.size + 1, 3, none⟩ = some (.int .i64 eB))) := fun w' h => ⟨(HX.out.2.1.box h).facts.1, (HX.out.2.2.1.box h).facts.1⟩
  have HKA : Hid _ := ka
  have HKB : Hid _ := kb
  clear ka kb
  obtain ⟨⟨a0, a1, a2, a3⟩, b0, b1, b2, b3⟩ := HKK.out W (Below.refl _ _)
  have kk := HKA.out W HX.out.1
  go_enter Tryz.func38, Tryz.ntmps38
  go_upto_region 1 with fail
  rw [← hW]
  clear hW
  go_wp2_with fail
  refine kk.mono ?_
  rintro r w1 ⟨rfl, hb⟩
  have HB1 : Hid (Below W.heap.size W w1) := hb
  clear kk hb a0 a1 a2 a3 b0 b1 b2 b3
  obtain ⟨⟨a0, a1, a2, a3⟩, b0, b1, b2, b3⟩ := HKK.out w1 HB1.out
  have e1 : (sa == 0) = false := by simp [hsa]
  have kk := HKB.out w1 (HX.out.1.trans (HB1.out.mono HX.out.1.size))
  go_wp2_with fail
  refine kk.mono ?_
  rintro r w2 ⟨rfl, hb⟩
  have HB2 : Hid (Below W.heap.size W w2) := HB1.out.trans (hb.mono HB1.out.size)
  clear kk hb HB1 a0 a1 a2 a3 b0 b1 b2 b3
  obtain ⟨⟨a0, a1, a2, a3⟩, b0, b1, b2, b3⟩ := HKK.out w2 HB2.out
  have e2 : (sb == 0) = false := by simp [hsb]
  have e3 : (i != 0) = true := by simp [hij]
  clear hij
  have hR : Below W.heap.size W w2.drew := HB2.out.drew
  have qa : ∀ W', Below W.heap.size W W' → Calls Tryz.prog 86 #[.agg #[.int .i64 i, .bool sA, .slice aoA nA capA, .int .i64 eA]] W' fun r w' => r = .returned (.int .i64 sa) ∧ Below W.heap.size W w' := fun W' h => (HKA.out W' (HX.out.1.trans (h.mono HX.out.1.size))).mono fun r w' ⟨e1, e2⟩ => ⟨e1, h.trans (e2.mono h.size)⟩
  have qb : ∀ W', Below W.heap.size W W' → Calls Tryz.prog 86 #[.agg #[.int .i64 j, .bool sB, .slice aoB nB capB, .int .i64 eB]] W' fun r w' => r = .returned (.int .i64 sb) ∧ Below W.heap.size W w' := fun W' h => (HKB.out W' (HX.out.1.trans (h.mono HX.out.1.size))).mono fun r w' ⟨e1, e2⟩ => ⟨e1, h.trans (e2.mono h.size)⟩
  clear HKA HKB
  go_upto_region 4 with fail
  go_region_held3 (fun w' => (w'.cell? ⟨w.heap.size, 0, none⟩ = some (.int .i64 i) ∧ w'.cell? ⟨w.heap.size, 1, none⟩ = some (.bool sA) ∧ w'.cell? ⟨w.heap.size, 2, none⟩ = some (.slice aoA nA capA) ∧ w'.cell? ⟨w.heap.size, 3, none⟩ = some (.int .i64 eA)) ∧ (w'.cell? ⟨w.heap.size + 1, 0, none⟩ = some (.int .i64 j) ∧ w'.cell? ⟨w.heap.size + 1, 1, none⟩ = some (.bool sB) ∧ w'.cell? ⟨w.heap.size + 1, 2, none⟩ = some (.slice aoB nB capB) ∧ w'.cell? ⟨w.heap.size + 1, 3, none⟩ = some (.int .i64 eB))) (first | (with_reducible assumption) | (with_reducible exact HKK.out _ hR) | (with_reducible refine HKK.out _ ?_; with_reducible assumption) | (refine ⟨⟨?_, ?_, ?_, ?_⟩, ?_, ?_, ?_, ?_⟩ <;> (change World.cell? (World.setCell (World.setCell (World.setCell (World.setCell _ _ _) _ _) _ _) _ _) _ = _; rw [World.cell?_setCell_other _ _ _ _ (by simp), World.cell?_setCell_other _ _ _ _ (by simp), World.cell?_setCell_other _ _ _ _ (by simp), World.cell?_setCell_other _ _ _ _ (by simp)]; first | exact (HKK.out _ B).1.1 | exact (HKK.out _ B).1.2.1 | exact (HKK.out _ B).1.2.2.1 | exact (HKK.out _ B).1.2.2.2 | exact (HKK.out _ B).2.1 | exact (HKK.out _ B).2.2.1 | exact (HKK.out _ B).2.2.2.1 | exact (HKK.out _ B).2.2.2.2)) | go_keep)
    (first | (go_at_call 86; with_reducible refine (qa _ (by first | (with_reducible assumption) | exact hR)).mono ?_; rintro r v1 ⟨rfl, B⟩)
           | (go_at_call 86; with_reducible refine (qb _ (by with_reducible assumption)).mono ?_; rintro r v2 ⟨rfl, hq⟩; replace B := hq; obtain ⟨⟨x0, x1, x2, x3⟩, x4, x5, x6, x7⟩ := (HX.out.2.2.2.box hq).facts; clear hq))
  have HF : Hid (EnB v2 (w.heap.size + 1 + 1) (.int .i64 0) (.bool false) (.slice none 0 0) (.int .i64 0) ∧ Below w.heap.size w v2) := ⟨HX.out.2.2.2.box B, HX.out.1.trans (B.mono HX.out.1.size)⟩
  clear HX HKK qa qb a0 a1 a2 a3 b0 b1 b2 b3 B hR x0 x1 x2 x3 x4 x5 x6 x7
  go_wp2_with fail
  refine bodyPost_ret (results_cell_row rfl _ _ (w.heap.size + 1 + 1) 61 #[.int .i64 c, .bool false, .slice none 0 0, .int .i64 0] (0, 0) _ rfl (HF.out.1.set _ _ _ _) Tryz.underlying61 rfl en_info) rfl ?_
  first | exact ⟨rfl, below_store4 HF.out.2 (by omega) _ _ _ _⟩ | exact ⟨rfl, (below_store4 HF.out.2 (by omega) _ _ _ _).drew⟩
set_option maxRecDepth 200000 in
theorem dtimes_i2 (i j eA eB : Int) (sA sB : Bool) (aoA aoB : Option Addr) (nA capA nB capB : Nat) (sa sb : Int) (c : Int) (w : World) (ka : ∀ W, Below w.heap.size w W → Calls Tryz.prog 86 #[.agg #[.int .i64 i, .bool sA, .slice aoA nA capA, .int .i64 eA]] W fun r w' => r = .returned (.int .i64 sa) ∧ Below W.heap.size W w') (kb : ∀ W, Below w.heap.size w W → Calls Tryz.prog 86 #[.agg #[.int .i64 j, .bool sB, .slice aoB nB capB, .int .i64 eB]] W fun r w' => r = .returned (.int .i64 sb) ∧ Below W.heap.size W w') (hsa : sa ≠ 0) (hsb : sb ≠ 0) (hc : IntKind.i64.wrap (sa * sb) = c) (hij : j ≠ 0) (h0 : Hid (i = 0)) :
    Calls Tryz.prog 38 #[.agg #[.int .i64 i, .bool sA, .slice aoA nA capA, .int .i64 eA], .agg #[.int .i64 j, .bool sB, .slice aoB nB capB, .int .i64 eB]] w fun r w' => r = .returned (.agg #[.int .i64 c, .bool false, .slice none 0 0, .int .i64 0]) ∧ Below w.heap.size w w' := by
  obtain ⟨W, hW⟩ : ∃ W, W = ((w.alloc (.cells #[.int .i64 i, .bool sA, .slice aoA nA capA, .int .i64 eA] 61)).alloc (.cells #[.int .i64 j, .bool sB, .slice aoB nB capB, .int .i64 eB] 61)).alloc (.cells #[.int .i64 0, .bool false, .slice none 0 0, .int .i64 0] 61) := ⟨_, rfl⟩
  have HX : Hid (Below w.heap.size w W ∧ EnB W (w.heap.size) (.int .i64 i) (.bool sA) (.slice aoA nA capA) (.int .i64 eA) ∧ EnB W (w.heap.size + 1) (.int .i64 j) (.bool sB) (.slice aoB nB capB) (.int .i64 eB) ∧ EnB W (w.heap.size + 1 + 1) (.int .i64 0) (.bool false) (.slice none 0 0) (.int .i64 0)) := by
    rw [hW]
    refine ⟨(((Below.refl _ _).alloc (Nat.le_refl _) _).alloc (by simp) _).alloc (by simp; omega) _, ((EnB.new _ _ _ _ _).alloc _).alloc _, ?_, ?_⟩
    · have := (EnB.new (w.alloc (.cells #[.int .i64 i, .bool sA, .slice aoA nA capA, .int .i64 eA] 61)) (.int .i64 j) (.bool sB) (.slice aoB nB capB) (.int .i64 eB)).alloc (.cells #[.int .i64 0, .bool false, .slice none 0 0, .int .i64 0] 61)
      simpa using this
    · have := EnB.new ((w.alloc (.cells #[.int .i64 i, .bool sA, .slice aoA nA capA, .int .i64 eA] 61)).alloc (.cells #[.int .i64 j, .bool sB, .slice aoB nB capB, .int .i64 eB] 61)) (.int .i64 0) (.bool false) (.slice none 0 0) (.int .i64 0)
      simpa using this
  have HKK : Hid (∀ w', Below W.heap.size W w' → (w'.cell? ⟨w.heap.size, 0, none⟩ = some (.int .i64 i) ∧ w'.cell? ⟨w.heap.size, 1, none⟩ = some (.bool sA) ∧ w'.cell? ⟨w.heap.size, 2, none⟩ = some (.slice aoA nA capA) ∧ w'.cell? ⟨w.heap.size, 3, none⟩ = some (.int .i64 eA)) ∧ (w'.cell? ⟨w.heap.size + 1, 0, none⟩ = some (.int .i64 j) ∧ w'.cell? ⟨w.heap.size + 1, 1, none⟩ = some (.bool sB) ∧ w'.cell? ⟨w.heap.size + 1, 2, none⟩ = some (.slice aoB nB capB) ∧ w'.cell? ⟨w.heap.size + 1, 3, none⟩ = some (.int .i64 eB))) := fun w' h => ⟨(HX.out.2.1.box h).facts.1, (HX.out.2.2.1.box h).facts.1⟩
  have HKA : Hid _ := ka
  have HKB : Hid _ := kb
  clear ka kb
  obtain ⟨⟨a0, a1, a2, a3⟩, b0, b1, b2, b3⟩ := HKK.out W (Below.refl _ _)
  have kk := HKA.out W HX.out.1
  go_enter Tryz.func38, Tryz.ntmps38
  go_upto_region 1 with fail
  rw [← hW]
  clear hW
  go_wp2_with fail
  refine kk.mono ?_
  rintro r w1 ⟨rfl, hb⟩
  have HB1 : Hid (Below W.heap.size W w1) := hb
  clear kk hb a0 a1 a2 a3 b0 b1 b2 b3
  obtain ⟨⟨a0, a1, a2, a3⟩, b0, b1, b2, b3⟩ := HKK.out w1 HB1.out
  have e1 : (sa == 0) = false := by simp [hsa]
  have kk := HKB.out w1 (HX.out.1.trans (HB1.out.mono HX.out.1.size))
  go_wp2_with fail
  refine kk.mono ?_
  rintro r w2 ⟨rfl, hb⟩
  have HB2 : Hid (Below W.heap.size W w2) := HB1.out.trans (hb.mono HB1.out.size)
  clear kk hb HB1 a0 a1 a2 a3 b0 b1 b2 b3
  obtain ⟨⟨a0, a1, a2, a3⟩, b0, b1, b2, b3⟩ := HKK.out w2 HB2.out
  have e2 : (sb == 0) = false := by simp [hsb]
  have e3 : (j != 0) = true := by simp [hij]
  clear hij
  have h0 := h0.out
  subst h0
  have hR : Below W.heap.size W w2.drew := HB2.out.drew
  have qa : ∀ W', Below W.heap.size W W' → Calls Tryz.prog 86 #[.agg #[.int .i64 0, .bool sA, .slice aoA nA capA, .int .i64 eA]] W' fun r w' => r = .returned (.int .i64 sa) ∧ Below W.heap.size W w' := fun W' h => (HKA.out W' (HX.out.1.trans (h.mono HX.out.1.size))).mono fun r w' ⟨e1, e2⟩ => ⟨e1, h.trans (e2.mono h.size)⟩
  have qb : ∀ W', Below W.heap.size W W' → Calls Tryz.prog 86 #[.agg #[.int .i64 j, .bool sB, .slice aoB nB capB, .int .i64 eB]] W' fun r w' => r = .returned (.int .i64 sb) ∧ Below W.heap.size W w' := fun W' h => (HKB.out W' (HX.out.1.trans (h.mono HX.out.1.size))).mono fun r w' ⟨e1, e2⟩ => ⟨e1, h.trans (e2.mono h.size)⟩
  clear HKA HKB
  go_upto_region 4 with fail
  go_region_held3 (fun w' => (w'.cell? ⟨w.heap.size, 0, none⟩ = some (.int .i64 0) ∧ w'.cell? ⟨w.heap.size, 1, none⟩ = some (.bool sA) ∧ w'.cell? ⟨w.heap.size, 2, none⟩ = some (.slice aoA nA capA) ∧ w'.cell? ⟨w.heap.size, 3, none⟩ = some (.int .i64 eA)) ∧ (w'.cell? ⟨w.heap.size + 1, 0, none⟩ = some (.int .i64 j) ∧ w'.cell? ⟨w.heap.size + 1, 1, none⟩ = some (.bool sB) ∧ w'.cell? ⟨w.heap.size + 1, 2, none⟩ = some (.slice aoB nB capB) ∧ w'.cell? ⟨w.heap.size + 1, 3, none⟩ = some (.int .i64 eB))) (first | (with_reducible assumption) | (with_reducible exact HKK.out _ hR) | (with_reducible refine HKK.out _ ?_; with_reducible assumption) | (refine ⟨⟨?_, ?_, ?_, ?_⟩, ?_, ?_, ?_, ?_⟩ <;> (change World.cell? (World.setCell (World.setCell (World.setCell (World.setCell _ _ _) _ _) _ _) _ _) _ = _; rw [World.cell?_setCell_other _ _ _ _ (by simp), World.cell?_setCell_other _ _ _ _ (by simp), World.cell?_setCell_other _ _ _ _ (by simp), World.cell?_setCell_other _ _ _ _ (by simp)]; first | exact (HKK.out _ B).1.1 | exact (HKK.out _ B).1.2.1 | exact (HKK.out _ B).1.2.2.1 | exact (HKK.out _ B).1.2.2.2 | exact (HKK.out _ B).2.1 | exact (HKK.out _ B).2.2.1 | exact (HKK.out _ B).2.2.2.1 | exact (HKK.out _ B).2.2.2.2)) | go_keep)
    (first | (go_at_call 86; with_reducible refine (qa _ (by first | (with_reducible assumption) | exact hR)).mono ?_; rintro r v1 ⟨rfl, B⟩)
           | (go_at_call 86; with_reducible refine (qb _ (by with_reducible assumption)).mono ?_; rintro r v2 ⟨rfl, hq⟩; replace B := hq; obtain ⟨⟨x0, x1, x2, x3⟩, x4, x5, x6, x7⟩ := (HX.out.2.2.2.box hq).facts; clear hq))
  have HF : Hid (EnB v2 (w.heap.size + 1 + 1) (.int .i64 0) (.bool false) (.slice none 0 0) (.int .i64 0) ∧ Below w.heap.size w v2) := ⟨HX.out.2.2.2.box B, HX.out.1.trans (B.mono HX.out.1.size)⟩
  clear HX HKK qa qb a0 a1 a2 a3 b0 b1 b2 b3 B hR x0 x1 x2 x3 x4 x5 x6 x7
  go_wp2_with fail
  refine bodyPost_ret (results_cell_row rfl _ _ (w.heap.size + 1 + 1) 61 #[.int .i64 c, .bool false, .slice none 0 0, .int .i64 0] (0, 0) _ rfl (HF.out.1.set _ _ _ _) Tryz.underlying61 rfl en_info) rfl ?_
  first | exact ⟨rfl, below_store4 HF.out.2 (by omega) _ _ _ _⟩ | exact ⟨rfl, (below_store4 HF.out.2 (by omega) _ _ _ _).drew⟩
set_option maxRecDepth 200000 in
theorem dtimes_0 (i j eA eB : Int) (sA sB : Bool) (aoA aoB : Option Addr) (nA capA nB capB : Nat) (sa sb : Int) (t : Bool × Nat × Int) (w : World) (ka : ∀ W, Below w.heap.size w W → Calls Tryz.prog 86 #[.agg #[.int .i64 i, .bool sA, .slice aoA nA capA, .int .i64 eA]] W fun r w' => r = .returned (.int .i64 sa) ∧ Below W.heap.size W w') (kb : ∀ W, Below w.heap.size w W → Calls Tryz.prog 86 #[.agg #[.int .i64 j, .bool sB, .slice aoB nB capB, .int .i64 eB]] W fun r w' => r = .returned (.int .i64 sb) ∧ Below W.heap.size W w') (kt : ∀ W, Below w.heap.size w W → Calls Tryz.prog 28 #[.agg #[.bool sA, .slice aoA nA capA, .int .i64 eA], .agg #[.bool sB, .slice aoB nB capB, .int .i64 eB]] W fun r w' => ∃ C, r = .returned C ∧ DN w' C t ∧ Below W.heap.size W w') (hsa : sa ≠ 0) (hsb : sb ≠ 0) (hi : Hid (i = 0)) (hj : Hid (j = 0)) :
    Calls Tryz.prog 38 #[.agg #[.int .i64 i, .bool sA, .slice aoA nA capA, .int .i64 eA], .agg #[.int .i64 j, .bool sB, .slice aoB nB capB, .int .i64 eB]] w fun r w' => ∃ A, r = .returned A ∧ EN w' A 0 t ∧ Below w.heap.size w w' := by
  have HKT : Hid _ := kt
  clear kt
  obtain ⟨W, hW⟩ : ∃ W, W = ((w.alloc (.cells #[.int .i64 i, .bool sA, .slice aoA nA capA, .int .i64 eA] 61)).alloc (.cells #[.int .i64 j, .bool sB, .slice aoB nB capB, .int .i64 eB] 61)).alloc (.cells #[.int .i64 0, .bool false, .slice none 0 0, .int .i64 0] 61) := ⟨_, rfl⟩
  have HX : Hid (Below w.heap.size w W ∧ EnB W (w.heap.size) (.int .i64 i) (.bool sA) (.slice aoA nA capA) (.int .i64 eA) ∧ EnB W (w.heap.size + 1) (.int .i64 j) (.bool sB) (.slice aoB nB capB) (.int .i64 eB) ∧ EnB W (w.heap.size + 1 + 1) (.int .i64 0) (.bool false) (.slice none 0 0) (.int .i64 0)) := by
    rw [hW]
    refine ⟨(((Below.refl _ _).alloc (Nat.le_refl _) _).alloc (by simp) _).alloc (by simp; omega) _, ((EnB.new _ _ _ _ _).alloc _).alloc _, ?_, ?_⟩
    · have := (EnB.new (w.alloc (.cells #[.int .i64 i, .bool sA, .slice aoA nA capA, .int .i64 eA] 61)) (.int .i64 j) (.bool sB) (.slice aoB nB capB) (.int .i64 eB)).alloc (.cells #[.int .i64 0, .bool false, .slice none 0 0, .int .i64 0] 61)
      simpa using this
    · have := EnB.new ((w.alloc (.cells #[.int .i64 i, .bool sA, .slice aoA nA capA, .int .i64 eA] 61)).alloc (.cells #[.int .i64 j, .bool sB, .slice aoB nB capB, .int .i64 eB] 61)) (.int .i64 0) (.bool false) (.slice none 0 0) (.int .i64 0)
      simpa using this
  have HKK : Hid (∀ w', Below W.heap.size W w' → (w'.cell? ⟨w.heap.size, 0, none⟩ = some (.int .i64 i) ∧ w'.cell? ⟨w.heap.size, 1, none⟩ = some (.bool sA) ∧ w'.cell? ⟨w.heap.size, 2, none⟩ = some (.slice aoA nA capA) ∧ w'.cell? ⟨w.heap.size, 3, none⟩ = some (.int .i64 eA)) ∧ (w'.cell? ⟨w.heap.size + 1, 0, none⟩ = some (.int .i64 j) ∧ w'.cell? ⟨w.heap.size + 1, 1, none⟩ = some (.bool sB) ∧ w'.cell? ⟨w.heap.size + 1, 2, none⟩ = some (.slice aoB nB capB) ∧ w'.cell? ⟨w.heap.size + 1, 3, none⟩ = some (.int .i64 eB))) := fun w' h => ⟨(HX.out.2.1.box h).facts.1, (HX.out.2.2.1.box h).facts.1⟩
  have HKA : Hid _ := ka
  have HKB : Hid _ := kb
  clear ka kb
  obtain ⟨⟨a0, a1, a2, a3⟩, b0, b1, b2, b3⟩ := HKK.out W (Below.refl _ _)
  have kk := HKA.out W HX.out.1
  go_enter Tryz.func38, Tryz.ntmps38
  go_upto_region 1 with fail
  rw [← hW]
  clear hW
  go_wp2_with fail
  refine kk.mono ?_
  rintro r w1 ⟨rfl, hb⟩
  have HB1 : Hid (Below W.heap.size W w1) := hb
  clear kk hb a0 a1 a2 a3 b0 b1 b2 b3
  obtain ⟨⟨a0, a1, a2, a3⟩, b0, b1, b2, b3⟩ := HKK.out w1 HB1.out
  have e1 : (sa == 0) = false := by simp [hsa]
  have kk := HKB.out w1 (HX.out.1.trans (HB1.out.mono HX.out.1.size))
  go_wp2_with fail
  refine kk.mono ?_
  rintro r w2 ⟨rfl, hb⟩
  have HB2 : Hid (Below W.heap.size W w2) := HB1.out.trans (hb.mono HB1.out.size)
  clear kk hb HB1 a0 a1 a2 a3 b0 b1 b2 b3
  obtain ⟨⟨a0, a1, a2, a3⟩, b0, b1, b2, b3⟩ := HKK.out w2 HB2.out
  have e2 : (sb == 0) = false := by simp [hsb]
  have hi := hi.out
  have hj := hj.out
  subst hi
  subst hj
  have kk := HKT.out w2 (HX.out.1.trans (HB2.out.mono HX.out.1.size))
  clear HKT HKA HKB
  go_wp2_with fail
  refine kk.mono ?_
  rintro r w3 ⟨A, rfl, hA, hb⟩
  obtain ⟨s, ao, n, cap, e, rfl⟩ := hA.shape
  have hB3 := HB2.out.trans (hb.mono HB2.out.size)
  have hE := HX.out.2.2.2.box hB3
  obtain ⟨⟨x0, x1, x2, x3⟩, x4, x5, x6, x7⟩ := hE.facts
  have HF : Hid (DN w3 (.agg #[.bool s, .slice ao n cap, .int .i64 e]) t ∧ EnB w3 (w.heap.size + 1 + 1) (.int .i64 0) (.bool false) (.slice none 0 0) (.int .i64 0) ∧ Below w.heap.size w w3) := ⟨hA, hE, HX.out.1.trans (hB3.mono HX.out.1.size)⟩
  clear hb hE hA HX kk a0 a1 a2 a3 b0 b1 b2 b3 HKK hB3 HB2
  go_wp2_with fail
  refine bodyPost_ret (results_cell_row rfl _ _ (w.heap.size + 1 + 1) 61 #[.int .i64 0, .bool s, .slice ao n cap, .int .i64 e] (0, 0) _ rfl (HF.out.2.1.set _ _ _ _) Tryz.underlying61 rfl en_info) rfl ?_
  exact ⟨_, rfl, ⟨s, ao, n, cap, e, rfl, dn_store48 HF.out.1 HF.out.2.1 _ _ _ _⟩, below_store4 HF.out.2.2 (by omega) _ _ _ _⟩
def tmI (i j : Int) (t u : Bool × Nat × Int) : Int := if sgE i t = 0 ∨ sgE j u = 0 then 0 else if i ≠ 0 ∨ j ≠ 0 then sgE i t * sgE j u else 0
def tmT (i j : Int) (t u : Bool × Nat × Int) : Bool × Nat × Int := if sgE i t = 0 ∨ sgE j u = 0 then (false, 0, 0) else if i ≠ 0 ∨ j ≠ 0 then (false, 0, 0) else tM t u
theorem sgE_b {i : Int} (t : Bool × Nat × Int) (h : -1 ≤ i ∧ i ≤ 1) : -1 ≤ sgE i t ∧ sgE i t ≤ 1 := by
  unfold sgE
  split
  · split
    · omega
    · split <;> omega
  · exact h
theorem mul_b {x y : Int} (h1 : -1 ≤ x ∧ x ≤ 1) (h2 : -1 ≤ y ∧ y ≤ 1) : -1 ≤ x * y ∧ x * y ≤ 1 := by
  rcases (show x = -1 ∨ x = 0 ∨ x = 1 by omega) with rfl | rfl | rfl <;> omega
end Go.Proofs.YtcoclopllbfjcaaGreatDoor
