/- Own work: contracts of the program's functions, part 17: SQ2 SQ3 SQ1 SNJ SNL SNP. -/
import Derived.Test.YtcoclopllbfjcaaGreatDoorA16
import Derived.Test.YtcoclopllbfjcaaGreatDoorA13
import Derived.Test.YtcoclopllbfjcaaGreatDoorA8
import Derived.Test.YtcoclopllbfjcaaGreatDoorA9
import Derived.Test.YtcoclopllbfjcaaGreatDoorA12
import Derived.Test.YtcoclopllbfjcaaGreatDoorA5

set_option maxHeartbeats 16000000
namespace Go.Proofs.YtcoclopllbfjcaaGreatDoor
set_option linter.unusedVariables false
set_option linter.unusedSimpArgs false
open Go.RowKit Go.Fl64
attribute [local go_sem] run_store_flt
set_option maxRecDepth 200000 in
theorem dpow_no (a b : Nat) (n : Int) (v : Bool) (w : World) (hr : v = false ∨ n < 0 ∨ 1024 < n)
    (k0 : ∀ W, Calls Tryz.prog 19 #[.agg #[.float .f64 a, .float .f64 b]] W fun r w' => r = .returned (.bool v) ∧ Below W.heap.size W w') :
    Calls Tryz.prog 15 #[.agg #[.float .f64 a, .float .f64 b], .int .i64 n] w fun r w' => r = .returned (.tuple #[.agg #[.float .f64 0, .float .f64 0], .int .i64 1]) ∧ Below w.heap.size w w' := by
  obtain ⟨W, hW⟩ : ∃ W, W = ((w.alloc (.cells #[.float .f64 a, .float .f64 b] 24)).alloc (.cells #[.float .f64 0, .float .f64 0] 24)) := ⟨_, rfl⟩
  have HX : Hid (Below w.heap.size w W ∧ IvB W (w.heap.size) a b ∧ IvB W (w.heap.size + 1) 0 0) := by
    rw [hW]
    exact ⟨bxs2_0 w a b 0 0, bxs2_1 w a b 0 0, bxs2_2 w a b 0 0⟩
  have HK : Hid (∀ w', Below W.heap.size W w' → IvF w' (w.heap.size) a b ∧ IvF w' (w.heap.size + 1) 0 0) := fun w' hb => ⟨(HX.out.2.1).later hb, (HX.out.2.2).later hb⟩
  obtain ⟨⟨c0, c1, z0, z1⟩, ⟨c2, c3, z2, z3⟩⟩ := HK.out W (Below.refl _ _)
  have kk := k0 W
  clear k0
  go_enter Tryz.func15, Tryz.ntmps15
  go_upto_region 1 with fail
  rw [← hW]
  clear hW
  go_wp2_with fail
  refine kk.mono ?_
  rintro r w0 ⟨rfl, hb2⟩
  clear kk c0 z0 c1 z1 c2 z2 c3 z3
  obtain ⟨⟨c0, c1, z0, z1⟩, ⟨c2, c3, z2, z3⟩⟩ := HK.out w0 hb2
  have HB : Hid (Below w.heap.size w w0) := HX.out.1.trans (hb2.mono HX.out.1.size)
  have HR : Hid (IvB w0 (w.heap.size + 1) 0 0) := HX.out.2.2.box hb2
  clear hb2 HK HX
  by_cases hv : v = false
  · subst hv
    go_wp2
    refine bodyPost_ret (results_cell_tmp_row rfl _ _ (w.heap.size + 1) 24 #[.float .f64 0, .float .f64 0] (0, 0) _ rfl (HR.out.set _ _) Tryz.underlying24 rfl iv_info) rfl ?_
    exact ⟨rfl, below_store2 HB.out (by omega) _ _⟩
  · have hv' : v = true := by cases v <;> simp_all
    subst hv'
    by_cases hn : n < 0
    · clear hr
      go_wp2
      refine bodyPost_ret (results_cell_tmp_row rfl _ _ (w.heap.size + 1) 24 #[.float .f64 0, .float .f64 0] (0, 0) _ rfl (HR.out.set _ _) Tryz.underlying24 rfl iv_info) rfl ?_
      exact ⟨rfl, below_store2 HB.out (by omega) _ _⟩
    · have hn2 : 1024 < n := by rcases hr with h | h | h; (exact absurd h hv); omega; exact h
      clear hr
      go_wp2
      refine bodyPost_ret (results_cell_tmp_row rfl _ _ (w.heap.size + 1) 24 #[.float .f64 0, .float .f64 0] (0, 0) _ rfl (HR.out.set _ _) Tryz.underlying24 rfl iv_info) rfl ?_
      exact ⟨rfl, below_store2 HB.out (by omega) _ _⟩
set_option maxRecDepth 200000 in
theorem dpow_0 (a b : Nat) (w : World)
    (k0 : ∀ W, Calls Tryz.prog 19 #[.agg #[.float .f64 a, .float .f64 b]] W fun r w' => r = .returned (.bool true) ∧ Below W.heap.size W w') :
    Calls Tryz.prog 15 #[.agg #[.float .f64 a, .float .f64 b], .int .i64 0] w fun r w' => r = .returned (.tuple #[.agg #[.float .f64 4607182418800017408, .float .f64 4607182418800017408], .int .i64 0]) ∧ Below w.heap.size w w' := by
  obtain ⟨W, hW⟩ : ∃ W, W = ((w.alloc (.cells #[.float .f64 a, .float .f64 b] 24)).alloc (.cells #[.float .f64 0, .float .f64 0] 24)) := ⟨_, rfl⟩
  have HX : Hid (Below w.heap.size w W ∧ IvB W (w.heap.size) a b ∧ IvB W (w.heap.size + 1) 0 0) := by
    rw [hW]
    exact ⟨bxs2_0 w a b 0 0, bxs2_1 w a b 0 0, bxs2_2 w a b 0 0⟩
  have HK : Hid (∀ w', Below W.heap.size W w' → IvF w' (w.heap.size) a b ∧ IvF w' (w.heap.size + 1) 0 0) := fun w' hb => ⟨(HX.out.2.1).later hb, (HX.out.2.2).later hb⟩
  obtain ⟨⟨c0, c1, z0, z1⟩, ⟨c2, c3, z2, z3⟩⟩ := HK.out W (Below.refl _ _)
  have kk := k0 W
  clear k0
  go_enter Tryz.func15, Tryz.ntmps15
  go_upto_region 1 with fail
  rw [← hW]
  clear hW
  go_wp2_with fail
  refine kk.mono ?_
  rintro r w0 ⟨rfl, hb2⟩
  clear kk c0 z0 c1 z1 c2 z2 c3 z3
  obtain ⟨⟨c0, c1, z0, z1⟩, ⟨c2, c3, z2, z3⟩⟩ := HK.out w0 hb2
  have HB : Hid (Below w.heap.size w w0) := HX.out.1.trans (hb2.mono HX.out.1.size)
  have HR : Hid (IvB w0 (w.heap.size + 1) 0 0) := HX.out.2.2.box hb2
  clear hb2 HK HX
  go_wp2
  refine bodyPost_ret (results_cell_tmp_row rfl _ _ (w.heap.size + 1) 24 #[.float .f64 4607182418800017408, .float .f64 4607182418800017408] (0, 0) _ rfl (HR.out.set _ _) Tryz.underlying24 rfl iv_info) rfl ?_
  exact ⟨rfl, below_store2 HB.out (by omega) _ _⟩
set_option maxRecDepth 200000 in
theorem dpow_1 (a b c d n x y : Nat) (j1 j2 j3 j4 : Int) (t1 t2 t3 t4 : Bool × Nat × Int) (w : World) (hn : n ≤ 1024) (hz : n ≠ 0)
    (k0 : ∀ W, Calls Tryz.prog 19 #[.agg #[.float .f64 a, .float .f64 b]] W fun r w' => r = .returned (.bool true) ∧ Below W.heap.size W w')
    (km : n % 2 = 0 → ∀ W, Below w.heap.size w W → Calls Tryz.prog 56 #[.agg #[.float .f64 a, .float .f64 b]] W fun r w' => r = .returned (.tuple #[.agg #[.float .f64 c, .float .f64 d], .int .i64 0]) ∧ Below W.heap.size W w')
    (ko : n % 2 = 1 → c = a ∧ d = b)
    (k1 : ∀ W, Below w.heap.size w W → Calls Tryz.prog 37 #[.float .f64 c] W fun r w' => ∃ A, r = .returned A ∧ EN w' A j1 t1 ∧ Below W.heap.size W w')
    (k2 : ∀ W X, Below w.heap.size w W → EN W X j1 t1 → Calls Tryz.prog 57 #[X, .int .i64 n] W fun r w' => ∃ A, r = .returned A ∧ EN w' A j2 t2 ∧ Below W.heap.size W w')
    (k3 : ∀ W, Below w.heap.size w W → Calls Tryz.prog 37 #[.float .f64 d] W fun r w' => ∃ A, r = .returned A ∧ EN w' A j3 t3 ∧ Below W.heap.size W w')
    (k4 : ∀ W X, Below w.heap.size w W → EN W X j3 t3 → Calls Tryz.prog 57 #[X, .int .i64 n] W fun r w' => ∃ A, r = .returned A ∧ EN w' A j4 t4 ∧ Below W.heap.size W w')
    (k5 : ∀ W X Y, Below w.heap.size w W → EN W X j2 t2 → EN W Y j4 t4 → Calls Tryz.prog 39 #[X, Y] W fun r w' => r = .returned (.agg #[.float .f64 x, .float .f64 y]) ∧ Below W.heap.size W w') :
    Calls Tryz.prog 15 #[.agg #[.float .f64 a, .float .f64 b], .int .i64 n] w fun r w' => r = .returned (.tuple #[.agg #[.float .f64 x, .float .f64 y], .int .i64 0]) ∧ Below w.heap.size w w' := by
  have hn0 : ¬ (n : Int) < 0 := by omega
  have hn1 : ¬ 1024 < (n : Int) := by omega
  have hn2 : ((n : Int) == 0) = false := by simp; omega
  have htm : (n : Int).tmod 2 = ((n % 2 : Nat) : Int) := by rw [Int.tmod_eq_emod_of_nonneg (by omega)]; rfl
  obtain ⟨W, hW⟩ : ∃ W, W = ((w.alloc (.cells #[.float .f64 a, .float .f64 b] 24)).alloc (.cells #[.float .f64 0, .float .f64 0] 24)) := ⟨_, rfl⟩
  have HX : Hid (Below w.heap.size w W ∧ IvB W (w.heap.size) a b ∧ IvB W (w.heap.size + 1) 0 0) := by
    rw [hW]
    exact ⟨bxs2_0 w a b 0 0, bxs2_1 w a b 0 0, bxs2_2 w a b 0 0⟩
  have HK : Hid (∀ w', Below W.heap.size W w' → IvF w' (w.heap.size) a b ∧ IvF w' (w.heap.size + 1) 0 0) := fun w' hb => ⟨(HX.out.2.1).later hb, (HX.out.2.2).later hb⟩
  obtain ⟨⟨c0, c1, z0, z1⟩, ⟨c2, c3, z2, z3⟩⟩ := HK.out W (Below.refl _ _)
  have kk := k0 W
  clear k0
  go_enter Tryz.func15, Tryz.ntmps15
  go_upto_region 1 with fail
  rw [← hW]
  clear hW
  go_wp2_with fail
  refine kk.mono ?_
  rintro r w0 ⟨rfl, hb2⟩
  clear kk c0 z0 c1 z1 c2 z2 c3 z3
  obtain ⟨⟨c0, c1, z0, z1⟩, ⟨c2, c3, z2, z3⟩⟩ := HK.out w0 hb2
  rcases (show n % 2 = 0 ∨ n % 2 = 1 by omega) with hpar | hpar
  · rw [hpar] at htm
    have km' := km hpar w0 (HX.out.1.trans (hb2.mono HX.out.1.size))
    clear km ko
    go_wp2_with fail
    refine km'.mono ?_
    rintro r w1 ⟨rfl, hb3⟩
    have hb4 : Below W.heap.size W w1 := hb2.trans (hb3.mono hb2.size)
    clear c0 z0 c1 z1 c2 z2 c3 z3 km' hb2 hb3
    obtain ⟨⟨c0, c1, z0, z1⟩, ⟨c2, c3, z2, z3⟩⟩ := HK.out w1 hb4
    obtain ⟨V, hV⟩ : ∃ V, V = (w1.setCell ⟨w.heap.size, 0, none⟩ (.float .f64 c)).setCell ⟨w.heap.size, 1, none⟩ (.float .f64 d) := ⟨_, rfl⟩
    have HV : Hid (Below w.heap.size w V ∧ IvB V (w.heap.size) c d ∧ IvB V (w.heap.size + 1) 0 0) := by
      rw [hV]
      exact ⟨below_store2 (HX.out.1.trans (hb4.mono HX.out.1.size)) (Nat.le_refl _) _ _, (HX.out.2.1.box hb4).set _ _, iv_other (HX.out.2.2.box hb4) _ _ (by omega)⟩
    clear HX HK hb4
    go_upto_region 9 with fail
    rw [← hV]
    clear hV
    have HKK : Hid (∀ w', Below V.heap.size V w' → (w'.cell? ⟨w.heap.size, 0, none⟩ = some (.float .f64 c) ∧ w'.cell? ⟨w.heap.size, 1, none⟩ = some (.float .f64 d))) := fun w' hb => ⟨(HV.out.2.1.later hb).1, (HV.out.2.1.later hb).2.1⟩
    have hR : Below V.heap.size V V.drew := (Below.refl _ _).drew
    have AV : Hid (Below w.heap.size w V) := HV.out.1
    have q1 : ∀ W', Below V.heap.size V W' → Calls Tryz.prog 37 #[.float .f64 c] W' fun r w' => ∃ A, r = .returned A ∧ EN w' A j1 t1 ∧ Below W'.heap.size W' w' := fun W' h => k1 W' (AV.out.trans (h.mono AV.out.size))
    have q2 : ∀ W' X, Below V.heap.size V W' → EN W' X j1 t1 → Calls Tryz.prog 57 #[X, .int .i64 n] W' fun r w' => ∃ A, r = .returned A ∧ EN w' A j2 t2 ∧ Below W'.heap.size W' w' := fun W' X h => k2 W' X (AV.out.trans (h.mono AV.out.size))
    have q3 : ∀ W', Below V.heap.size V W' → Calls Tryz.prog 37 #[.float .f64 d] W' fun r w' => ∃ A, r = .returned A ∧ EN w' A j3 t3 ∧ Below W'.heap.size W' w' := fun W' h => k3 W' (AV.out.trans (h.mono AV.out.size))
    have q4 : ∀ W' X, Below V.heap.size V W' → EN W' X j3 t3 → Calls Tryz.prog 57 #[X, .int .i64 n] W' fun r w' => ∃ A, r = .returned A ∧ EN w' A j4 t4 ∧ Below W'.heap.size W' w' := fun W' X h => k4 W' X (AV.out.trans (h.mono AV.out.size))
    have q5 : ∀ W' X Y, Below V.heap.size V W' → EN W' X j2 t2 → EN W' Y j4 t4 → Calls Tryz.prog 39 #[X, Y] W' fun r w' => r = .returned (.agg #[.float .f64 x, .float .f64 y]) ∧ Below V.heap.size V w' ∧ (w'.cell? ⟨w.heap.size + 1, 0, none⟩ = some (.float .f64 0) ∧ w'.cell? ⟨w.heap.size + 1, 1, none⟩ = some (.float .f64 0) ∧ w'.frozen? ⟨w.heap.size + 1, 0, none⟩ = false ∧ w'.frozen? ⟨w.heap.size + 1, 1, none⟩ = false) := fun W' X Y h h1 h2 => (k5 W' X Y (AV.out.trans (h.mono AV.out.size)) h1 h2).mono fun r w' ⟨e1, e2⟩ => ⟨e1, h.trans (e2.mono h.size), HV.out.2.2.later (h.trans (e2.mono h.size))⟩
    clear k1 k2 k3 k4 k5 c0 c1 c2 c3 z0 z1 z2 z3
    obtain ⟨c0, c1⟩ := HKK.out V (Below.refl _ _)
    go_region_held3 (fun w' => (w'.cell? ⟨w.heap.size, 0, none⟩ = some (.float .f64 c) ∧ w'.cell? ⟨w.heap.size, 1, none⟩ = some (.float .f64 d))) (first | (with_reducible assumption) | exact HKK.out _ hR | (refine HKK.out _ ?_; with_reducible assumption) | (refine ⟨?_, ?_⟩ <;> (change World.cell? (World.setCell (World.setCell _ _ _) _ _) _ = _; rw [World.cell?_setCell_other _ _ _ _ (by first | (simp; done) | (simp; omega)), World.cell?_setCell_other _ _ _ _ (by first | (simp; done) | (simp; omega))]; first | exact (HKK.out _ hb7).1 | exact (HKK.out _ hb7).2)))
      (first | (go_at_call 37; with_reducible refine (q1 _ hR).mono ?_; rintro r v1 ⟨A1, rfl, E1, hq⟩; have B1 := hR.trans (hq.mono hR.size); clear hq)
             | (go_at_call 57; with_reducible refine (q2 _ _ B1 E1).mono ?_; rintro r v2 ⟨A2, rfl, E2, hq⟩; have B2 := B1.trans (hq.mono B1.size); clear hq E1)
             | (go_at_call 37; with_reducible refine (q3 _ B2).mono ?_; rintro r v3 ⟨A3, rfl, E3, hq⟩; have B3 := B2.trans (hq.mono B2.size); replace E2 := E2.later hq; clear hq)
             | (go_at_call 57; with_reducible refine (q4 _ _ B3 E3).mono ?_; rintro r v4 ⟨A4, rfl, E4, hq⟩; have B4 := B3.trans (hq.mono B3.size); replace E2 := E2.later hq; clear hq)
             | (go_at_call 39; with_reducible refine (q5 _ _ _ B4 E2 E4).mono ?_; rintro r w7 ⟨rfl, hb7, x0, x1, x2, x3⟩))
    have HB : Hid (Below w.heap.size w w7) := HV.out.1.trans (hb7.mono HV.out.1.size)
    have HR : Hid (IvB w7 (w.heap.size + 1) 0 0) := HV.out.2.2.box hb7
    clear q1 q2 q3 q4 q5 HKK HV hR hb7 x0 x1 x2 x3 c0 c1
    go_wp2_with fail
    refine bodyPost_ret (results_cell_tmp_row rfl _ _ (w.heap.size + 1) 24 #[.float .f64 x, .float .f64 y] (0, 0) _ rfl (HR.out.set _ _) Tryz.underlying24 rfl iv_info) rfl ?_
    first | exact ⟨rfl, below_store2 HB.out (by omega) _ _⟩ | exact ⟨rfl, (below_store2 HB.out (by omega) _ _).drew⟩
  · rw [hpar] at htm
    obtain ⟨rfl, rfl⟩ := ko hpar
    have HV : Hid (Below w.heap.size w w0 ∧ IvB w0 (w.heap.size) c d ∧ IvB w0 (w.heap.size + 1) 0 0) := ⟨HX.out.1.trans (hb2.mono HX.out.1.size), HX.out.2.1.box hb2, HX.out.2.2.box hb2⟩
    clear HX HK hb2 km ko
    have HKK : Hid (∀ w', Below w0.heap.size w0 w' → (w'.cell? ⟨w.heap.size, 0, none⟩ = some (.float .f64 c) ∧ w'.cell? ⟨w.heap.size, 1, none⟩ = some (.float .f64 d))) := fun w' hb => ⟨(HV.out.2.1.later hb).1, (HV.out.2.1.later hb).2.1⟩
    have hR : Below w0.heap.size w0 w0.drew := (Below.refl _ _).drew
    have AV : Hid (Below w.heap.size w w0) := HV.out.1
    have q1 : ∀ W', Below w0.heap.size w0 W' → Calls Tryz.prog 37 #[.float .f64 c] W' fun r w' => ∃ A, r = .returned A ∧ EN w' A j1 t1 ∧ Below W'.heap.size W' w' := fun W' h => k1 W' (AV.out.trans (h.mono AV.out.size))
    have q2 : ∀ W' X, Below w0.heap.size w0 W' → EN W' X j1 t1 → Calls Tryz.prog 57 #[X, .int .i64 n] W' fun r w' => ∃ A, r = .returned A ∧ EN w' A j2 t2 ∧ Below W'.heap.size W' w' := fun W' X h => k2 W' X (AV.out.trans (h.mono AV.out.size))
    have q3 : ∀ W', Below w0.heap.size w0 W' → Calls Tryz.prog 37 #[.float .f64 d] W' fun r w' => ∃ A, r = .returned A ∧ EN w' A j3 t3 ∧ Below W'.heap.size W' w' := fun W' h => k3 W' (AV.out.trans (h.mono AV.out.size))
    have q4 : ∀ W' X, Below w0.heap.size w0 W' → EN W' X j3 t3 → Calls Tryz.prog 57 #[X, .int .i64 n] W' fun r w' => ∃ A, r = .returned A ∧ EN w' A j4 t4 ∧ Below W'.heap.size W' w' := fun W' X h => k4 W' X (AV.out.trans (h.mono AV.out.size))
    have q5 : ∀ W' X Y, Below w0.heap.size w0 W' → EN W' X j2 t2 → EN W' Y j4 t4 → Calls Tryz.prog 39 #[X, Y] W' fun r w' => r = .returned (.agg #[.float .f64 x, .float .f64 y]) ∧ Below w0.heap.size w0 w' ∧ (w'.cell? ⟨w.heap.size + 1, 0, none⟩ = some (.float .f64 0) ∧ w'.cell? ⟨w.heap.size + 1, 1, none⟩ = some (.float .f64 0) ∧ w'.frozen? ⟨w.heap.size + 1, 0, none⟩ = false ∧ w'.frozen? ⟨w.heap.size + 1, 1, none⟩ = false) := fun W' X Y h h1 h2 => (k5 W' X Y (AV.out.trans (h.mono AV.out.size)) h1 h2).mono fun r w' ⟨e1, e2⟩ => ⟨e1, h.trans (e2.mono h.size), HV.out.2.2.later (h.trans (e2.mono h.size))⟩
    clear k1 k2 k3 k4 k5 c0 c1 c2 c3 z0 z1 z2 z3
    obtain ⟨c0, c1⟩ := HKK.out w0 (Below.refl _ _)
    go_upto_region 9 with fail
    go_region_held3 (fun w' => (w'.cell? ⟨w.heap.size, 0, none⟩ = some (.float .f64 c) ∧ w'.cell? ⟨w.heap.size, 1, none⟩ = some (.float .f64 d))) (first | (with_reducible assumption) | exact HKK.out _ hR | (refine HKK.out _ ?_; with_reducible assumption) | (refine ⟨?_, ?_⟩ <;> (change World.cell? (World.setCell (World.setCell _ _ _) _ _) _ = _; rw [World.cell?_setCell_other _ _ _ _ (by first | (simp; done) | (simp; omega)), World.cell?_setCell_other _ _ _ _ (by first | (simp; done) | (simp; omega))]; first | exact (HKK.out _ hb7).1 | exact (HKK.out _ hb7).2)))
      (first | (go_at_call 37; with_reducible refine (q1 _ hR).mono ?_; rintro r v1 ⟨A1, rfl, E1, hq⟩; have B1 := hR.trans (hq.mono hR.size); clear hq)
             | (go_at_call 57; with_reducible refine (q2 _ _ B1 E1).mono ?_; rintro r v2 ⟨A2, rfl, E2, hq⟩; have B2 := B1.trans (hq.mono B1.size); clear hq E1)
             | (go_at_call 37; with_reducible refine (q3 _ B2).mono ?_; rintro r v3 ⟨A3, rfl, E3, hq⟩; have B3 := B2.trans (hq.mono B2.size); replace E2 := E2.later hq; clear hq)
             | (go_at_call 57; with_reducible refine (q4 _ _ B3 E3).mono ?_; rintro r v4 ⟨A4, rfl, E4, hq⟩; have B4 := B3.trans (hq.mono B3.size); replace E2 := E2.later hq; clear hq)
             | (go_at_call 39; with_reducible refine (q5 _ _ _ B4 E2 E4).mono ?_; rintro r w7 ⟨rfl, hb7, x0, x1, x2, x3⟩))
    have HB : Hid (Below w.heap.size w w7) := HV.out.1.trans (hb7.mono HV.out.1.size)
    have HR : Hid (IvB w7 (w.heap.size + 1) 0 0) := HV.out.2.2.box hb7
    clear q1 q2 q3 q4 q5 HKK HV hR hb7 x0 x1 x2 x3 c0 c1
    go_wp2_with fail
    refine bodyPost_ret (results_cell_tmp_row rfl _ _ (w.heap.size + 1) 24 #[.float .f64 x, .float .f64 y] (0, 0) _ rfl (HR.out.set _ _) Tryz.underlying24 rfl iv_info) rfl ?_
    first | exact ⟨rfl, below_store2 HB.out (by omega) _ _⟩ | exact ⟨rfl, (below_store2 HB.out (by omega) _ _).drew⟩
attribute [local go_sem] run_store_flt
set_option maxRecDepth 200000 in
theorem dsqrt8_no (a b : Nat) (v : Bool) (w : World) (hl : v = true → (FloatKind.f64.format.order a 0 == some Ordering.lt) = true)
    (k0 : ∀ W, Calls Tryz.prog 19 #[.agg #[.float .f64 a, .float .f64 b]] W fun r w' => r = .returned (.bool v) ∧ Below W.heap.size W w') :
    Calls Tryz.prog 17 #[.agg #[.float .f64 a, .float .f64 b]] w fun r w' => r = .returned (.tuple #[.agg #[.float .f64 0, .float .f64 0], .int .i64 (if v then 7 else 1)]) ∧ Below w.heap.size w w' := by
  obtain ⟨W, hW⟩ : ∃ W, W = ((w.alloc (.cells #[.float .f64 a, .float .f64 b] 24)).alloc (.cells #[.float .f64 0, .float .f64 0] 24)) := ⟨_, rfl⟩
  have HX : Hid (Below w.heap.size w W ∧ IvB W (w.heap.size) a b ∧ IvB W (w.heap.size + 1) 0 0) := by
    rw [hW]
    exact ⟨bxs2_0 w a b 0 0, bxs2_1 w a b 0 0, bxs2_2 w a b 0 0⟩
  have HK : Hid (∀ w', Below W.heap.size W w' → IvF w' (w.heap.size) a b ∧ IvF w' (w.heap.size + 1) 0 0) := fun w' hb => ⟨(HX.out.2.1).later hb, (HX.out.2.2).later hb⟩
  obtain ⟨⟨c0, c1, z0, z1⟩, ⟨c2, c3, z2, z3⟩⟩ := HK.out W (Below.refl _ _)
  have kk := k0 W
  clear k0
  go_enter Tryz.func17, Tryz.ntmps17
  go_upto_region 1 with fail
  rw [← hW]
  clear hW
  go_wp2_with fail
  refine kk.mono ?_
  rintro r w0 ⟨rfl, hb2⟩
  clear kk c0 z0 c1 z1 c2 z2 c3 z3
  obtain ⟨⟨c0, c1, z0, z1⟩, ⟨c2, c3, z2, z3⟩⟩ := HK.out w0 hb2
  have HB : Hid (Below w.heap.size w w0) := HX.out.1.trans (hb2.mono HX.out.1.size)
  have HR : Hid (IvB w0 (w.heap.size + 1) 0 0) := HX.out.2.2.box hb2
  clear hb2 HK HX
  cases v
  · clear hl
    go_wp2
    refine bodyPost_ret (results_cell_tmp_row rfl _ _ (w.heap.size + 1) 24 #[.float .f64 0, .float .f64 0] (0, 0) _ rfl (HR.out.set _ _) Tryz.underlying24 rfl iv_info) rfl ?_
    exact ⟨rfl, below_store2 HB.out (by omega) _ _⟩
  · have hl' := hl rfl
    clear hl
    go_wp2
    refine bodyPost_ret (results_cell_tmp_row rfl _ _ (w.heap.size + 1) 24 #[.float .f64 0, .float .f64 0] (0, 0) _ rfl (HR.out.set _ _) Tryz.underlying24 rfl iv_info) rfl ?_
    exact ⟨rfl, below_store2 HB.out (by omega) _ _⟩
set_option maxRecDepth 200000 in
theorem dsqrt8_1 (a b p q : Nat) (bb : Bool) (ta tb : Bool × Nat × Int) (w : World) (hl : (FloatKind.f64.format.order a 0 == some Ordering.lt) = false) (hbb : (FloatKind.f64.format.order b 9218868437227405312 == some Ordering.lt) = bb)
    (k0 : ∀ W, Calls Tryz.prog 19 #[.agg #[.float .f64 a, .float .f64 b]] W fun r w' => r = .returned (.bool true) ∧ Below W.heap.size W w')
    (k1 : bb = true → ∀ W, Below w.heap.size w W → Calls Tryz.prog 23 #[.float .f64 b] W fun r w' => ∃ A, r = .returned A ∧ DN w' A tb ∧ Below W.heap.size W w')
    (k2 : bb = true → ∀ W X, Below w.heap.size w W → DN W X tb → Calls Tryz.prog 59 #[X, .int .i64 3] W fun r w' => r = .returned (.float .f64 q) ∧ Below W.heap.size W w')
    (hq : bb = false → q = 9218868437227405312)
    (k3 : ∀ W, Below w.heap.size w W → Calls Tryz.prog 23 #[.float .f64 a] W fun r w' => ∃ A, r = .returned A ∧ DN w' A ta ∧ Below W.heap.size W w')
    (k4 : ∀ W X, Below w.heap.size w W → DN W X ta → Calls Tryz.prog 59 #[X, .int .i64 1] W fun r w' => r = .returned (.float .f64 p) ∧ Below W.heap.size W w') :
    Calls Tryz.prog 17 #[.agg #[.float .f64 a, .float .f64 b]] w fun r w' => r = .returned (.tuple #[.agg #[.float .f64 p, .float .f64 q], .int .i64 0]) ∧ Below w.heap.size w w' := by
  obtain ⟨W, hW⟩ : ∃ W, W = ((w.alloc (.cells #[.float .f64 a, .float .f64 b] 24)).alloc (.cells #[.float .f64 0, .float .f64 0] 24)) := ⟨_, rfl⟩
  have HX : Hid (Below w.heap.size w W ∧ IvB W (w.heap.size) a b ∧ IvB W (w.heap.size + 1) 0 0) := by
    rw [hW]
    exact ⟨bxs2_0 w a b 0 0, bxs2_1 w a b 0 0, bxs2_2 w a b 0 0⟩
  have HK : Hid (∀ w', Below W.heap.size W w' → IvF w' (w.heap.size) a b ∧ IvF w' (w.heap.size + 1) 0 0) := fun w' hb => ⟨(HX.out.2.1).later hb, (HX.out.2.2).later hb⟩
  obtain ⟨⟨c0, c1, z0, z1⟩, ⟨c2, c3, z2, z3⟩⟩ := HK.out W (Below.refl _ _)
  have kk := k0 W
  clear k0
  go_enter Tryz.func17, Tryz.ntmps17
  go_upto_region 1 with fail
  rw [← hW]
  clear hW
  go_wp2_with fail
  refine kk.mono ?_
  rintro r w0 ⟨rfl, hb2⟩
  clear kk c0 z0 c1 z1 c2 z2 c3 z3
  obtain ⟨⟨c0, c1, z0, z1⟩, ⟨c2, c3, z2, z3⟩⟩ := HK.out w0 hb2
  have kI := c61 w0
  have HB0 : Hid (Below W.heap.size W w0) := hb2
  clear hb2
  go_wp2_with fail
  refine kI.mono ?_
  rintro r w1 ⟨rfl, rfl⟩
  clear kI
  cases bb
  · have hq' := hq rfl
    subst hq'
    have HBx : Hid (Below W.heap.size W w1) := HB0.out
    clear k1 k2 hq HB0
    have kk := k3 w1 (HX.out.1.trans (HBx.out.mono HX.out.1.size))
    go_wp2_with fail
    refine kk.mono ?_
    rintro r u3 ⟨A3, rfl, E3, hb3⟩
    have HB3 : Hid (Below W.heap.size W u3) := HBx.out.trans (hb3.mono HBx.out.size)
    clear kk hb3 c0 z0 c1 z1 c2 z2 c3 z3
    have kk := k4 u3 _ (HX.out.1.trans (HB3.out.mono HX.out.1.size)) E3
    clear E3
    go_wp2_with fail
    refine kk.mono ?_
    rintro r u4 ⟨rfl, hb4⟩
    have hb5 : Below W.heap.size W u4 := HB3.out.trans (hb4.mono HB3.out.size)
    obtain ⟨⟨c0, c1, z0, z1⟩, ⟨c2, c3, z2, z3⟩⟩ := HK.out u4 hb5
    have HB : Hid (Below w.heap.size w u4) := HX.out.1.trans (hb5.mono HX.out.1.size)
    have HR : Hid (IvB u4 (w.heap.size + 1) 0 0) := HX.out.2.2.box hb5
    clear kk hb4 hb5 HK HX HB3
    go_wp2_with fail
    refine bodyPost_ret (results_cell_tmp_row rfl _ _ (w.heap.size + 1) 24 #[.float .f64 p, .float .f64 9218868437227405312] (0, 0) _ rfl (HR.out.set _ _) Tryz.underlying24 rfl iv_info) rfl ?_
    exact ⟨rfl, below_store2 HB.out (by omega) _ _⟩
  · have kk := k1 rfl w1 (HX.out.1.trans (HB0.out.mono HX.out.1.size))
    have k2' := k2 rfl
    clear k1 k2 hq
    go_wp2_with fail
    refine kk.mono ?_
    rintro r u1 ⟨A1, rfl, E1, hb1⟩
    have HB1 : Hid (Below W.heap.size W u1) := HB0.out.trans (hb1.mono HB0.out.size)
    clear kk hb1
    have kk := k2' u1 _ (HX.out.1.trans (HB1.out.mono HX.out.1.size)) E1
    clear E1 k2' HB0
    go_wp2_with fail
    refine kk.mono ?_
    rintro r u2 ⟨rfl, hb2⟩
    have HBx : Hid (Below W.heap.size W u2) := HB1.out.trans (hb2.mono HB1.out.size)
    clear kk hb2 HB1 c0 z0 c1 z1 c2 z2 c3 z3
    obtain ⟨⟨c0, c1, z0, z1⟩, ⟨c2, c3, z2, z3⟩⟩ := HK.out u2 HBx.out
    have kk := k3 u2 (HX.out.1.trans (HBx.out.mono HX.out.1.size))
    go_wp2_with fail
    refine kk.mono ?_
    rintro r u3 ⟨A3, rfl, E3, hb3⟩
    have HB3 : Hid (Below W.heap.size W u3) := HBx.out.trans (hb3.mono HBx.out.size)
    clear kk hb3 c0 z0 c1 z1 c2 z2 c3 z3
    have kk := k4 u3 _ (HX.out.1.trans (HB3.out.mono HX.out.1.size)) E3
    clear E3
    go_wp2_with fail
    refine kk.mono ?_
    rintro r u4 ⟨rfl, hb4⟩
    have hb5 : Below W.heap.size W u4 := HB3.out.trans (hb4.mono HB3.out.size)
    obtain ⟨⟨c0, c1, z0, z1⟩, ⟨c2, c3, z2, z3⟩⟩ := HK.out u4 hb5
    have HB : Hid (Below w.heap.size w u4) := HX.out.1.trans (hb5.mono HX.out.1.size)
    have HR : Hid (IvB u4 (w.heap.size + 1) 0 0) := HX.out.2.2.box hb5
    clear kk hb4 hb5 HK HX HB3
    go_wp2_with fail
    refine bodyPost_ret (results_cell_tmp_row rfl _ _ (w.heap.size + 1) 24 #[.float .f64 p, .float .f64 q] (0, 0) _ rfl (HR.out.set _ _) Tryz.underlying24 rfl iv_info) rfl ?_
    exact ⟨rfl, below_store2 HB.out (by omega) _ _⟩
def EnI (W : World) (g : Nat) (i : Int) (s : Bool) (ao : Option Addr) (n cap : Nat) (e : Int) : Prop := EnB W g (.int .i64 i) (.bool s) (.slice ao n cap) (.int .i64 e)
theorem at_storeE {W : World} {ao' : Option Addr} {m z g : Nat} {i e : Int} {s : Bool} {ao : Option Addr} {n cap : Nat} (h : At W ao' m z) (hE : EnI W g i s ao n cap e) (a' b' c' d' : Value) : At ((((W.setCell ⟨g, 0, none⟩ a').setCell ⟨g, 1, none⟩ b').setCell ⟨g, 2, none⟩ c').setCell ⟨g, 3, none⟩ d') ao' m z := by
  obtain ⟨bb, o, h1, h2⟩ := h
  refine ⟨bb, o, h1, fun i hi => ?_⟩
  have hc := h2 i hi
  have hne : bb ≠ g := by
    rintro rfl
    unfold EnI EnB at hE
    simp only [World.cell?, hE] at hc
    rcases (show o + i = 0 ∨ o + i = 1 ∨ o + i = 2 ∨ o + i = 3 ∨ 4 ≤ o + i by omega) with e | e | e | e | e
    · rw [e] at hc; simp at hc
    · rw [e] at hc; simp at hc
    · rw [e] at hc; simp at hc
    · rw [e] at hc; simp at hc
    · rw [Array.getElem?_eq_none (by simpa using e)] at hc; cases hc
  rw [World.cell?_setCell_other _ _ _ _ (by first | (simp; done) | (simp; omega)), World.cell?_setCell_other _ _ _ _ (by first | (simp; done) | (simp; omega)), World.cell?_setCell_other _ _ _ _ (by first | (simp; done) | (simp; omega)), World.cell?_setCell_other _ _ _ _ (by first | (simp; done) | (simp; omega))]
  exact hc
theorem en_storeE {W : World} {A : Value} {j : Int} {t : Bool × Nat × Int} {g : Nat} {i e : Int} {s : Bool} {ao : Option Addr} {n cap : Nat} (h : EN W A j t) (hE : EnI W g i s ao n cap e) (a' b' c' d' : Value) : EN ((((W.setCell ⟨g, 0, none⟩ a').setCell ⟨g, 1, none⟩ b').setCell ⟨g, 2, none⟩ c').setCell ⟨g, 3, none⟩ d') A j t := by
  obtain ⟨s', ao', n', cap', e', h1, ao2, cap2, h2, h3⟩ := h
  exact ⟨s', ao', n', cap', e', h1, ao2, cap2, h2, h3.nil, at_storeE h3.at_ hE _ _ _ _, h3.le, h3.small⟩
theorem store4_other {w : World} {g k : Nat} (a b c d : Value) (h : k ≠ g) : ((((w.setCell ⟨g, 0, none⟩ a).setCell ⟨g, 1, none⟩ b).setCell ⟨g, 2, none⟩ c).setCell ⟨g, 3, none⟩ d).heap[k]? = w.heap[k]? := by
  have h' : ¬ g = k := fun e => h e.symm
  simp [World.setCell, Array.getElem?_modify, h']
def DRd (w : World) (g : Nat) (p q : Int × Bool × Nat × Int) (z : Prop) (wr : World) (i : Int) (s : Bool) (ao : Option Addr) (m cap : Nat) (e : Int) (i' : Int) (s' : Bool) (ao' : Option Addr) (m' cap' : Nat) (e' : Int) : Prop :=
  EnI wr g i s ao m cap e ∧ EnI wr w.heap.size i' s' ao' m' cap' e' ∧ EnI wr (w.heap.size + 1) 0 false none 0 0 0 ∧ EN wr (.agg #[.int .i64 i, .bool s, .slice ao m cap, .int .i64 e]) p.1 p.2 ∧ (z → EN wr (.agg #[.int .i64 i', .bool s', .slice ao' m' cap', .int .i64 e']) q.1 q.2) ∧ Below w.heap.size w wr ∧ w.heap.size + 1 < g ∧ g < wr.heap.size
theorem DRd.out {w : World} {g : Nat} {p q r : Int × Bool × Nat × Int} {z : Prop} {wr w' : World} {i : Int} {s : Bool} {ao : Option Addr} {m cap : Nat} {e : Int} {i' : Int} {s' : Bool} {ao' : Option Addr} {m' cap' : Nat} {e' : Int} {j : Int} {u : Bool} {bo : Option Addr} {k cp : Nat} {f : Int}
    (h : DRd w g p q z wr i s ao m cap e i' s' ao' m' cap' e') (hb : Below wr.heap.size wr w') (hp : EN w' (.agg #[.int .i64 j, .bool u, .slice bo k cp, .int .i64 f]) r.1 r.2) :
    DRd w g r q z ((((w'.setCell ⟨g, 0, none⟩ (.int .i64 j)).setCell ⟨g, 1, none⟩ (.bool u)).setCell ⟨g, 2, none⟩ (.slice bo k cp)).setCell ⟨g, 3, none⟩ (.int .i64 f)) j u bo k cp f i' s' ao' m' cap' e' := by
  obtain ⟨h1, h2, h3, h4, h5, h6, h7, h8⟩ := h
  have hs := hb.size
  have b1 : EnI w' g i s ao m cap e := h1.box hb
  refine ⟨EnB.set b1 _ _ _ _, ?_, ?_, en_storeE hp b1 _ _ _ _, fun hz => en_storeE ((h5 hz).later hb) b1 _ _ _ _, below_store4 (h6.trans (hb.mono h6.size)) (by omega) _ _ _ _, h7, by simp [World.setCell]; omega⟩
  · show _ = _
    rw [store4_other _ _ _ _ (by omega)]; exact h2.box hb
  · show _ = _
    rw [store4_other _ _ _ _ (by omega)]; exact h3.box hb
theorem DRd.arg {w : World} {g : Nat} {p q r : Int × Bool × Nat × Int} {z z' : Prop} {wr w' : World} {i : Int} {s : Bool} {ao : Option Addr} {m cap : Nat} {e : Int} {i' : Int} {s' : Bool} {ao' : Option Addr} {m' cap' : Nat} {e' : Int} {j : Int} {u : Bool} {bo : Option Addr} {k cp : Nat} {f : Int}
    (h : DRd w g p q z wr i s ao m cap e i' s' ao' m' cap' e') (hb : Below wr.heap.size wr w') (hp : EN w' (.agg #[.int .i64 j, .bool u, .slice bo k cp, .int .i64 f]) r.1 r.2) :
    DRd w g p r z' ((((w'.setCell ⟨w.heap.size, 0, none⟩ (.int .i64 j)).setCell ⟨w.heap.size, 1, none⟩ (.bool u)).setCell ⟨w.heap.size, 2, none⟩ (.slice bo k cp)).setCell ⟨w.heap.size, 3, none⟩ (.int .i64 f)) i s ao m cap e j u bo k cp f := by
  obtain ⟨h1, h2, h3, h4, h5, h6, h7, h8⟩ := h
  have hs := hb.size
  have b1 : EnI w' w.heap.size i' s' ao' m' cap' e' := h2.box hb
  refine ⟨?_, EnB.set b1 _ _ _ _, ?_, en_storeE (h4.later hb) b1 _ _ _ _, fun hz => en_storeE hp b1 _ _ _ _, below_store4 (h6.trans (hb.mono h6.size)) (Nat.le_refl _) _ _ _ _, h7, by simp [World.setCell]; omega⟩
  · show _ = _
    rw [store4_other _ _ _ _ (by omega)]; exact h1.box hb
  · show _ = _
    rw [store4_other _ _ _ _ (by omega)]; exact h3.box hb
theorem DRd.last {w : World} {g : Nat} {p q r : Int × Bool × Nat × Int} {z : Prop} {N : Nat} {wr : World} {i : Int} {s : Bool} {ao : Option Addr} {m cap : Nat} {e : Int} {i' : Int} {s' : Bool} {ao' : Option Addr} {m' cap' : Nat} {e' : Int}
    (h : DRd w g p q z wr i s ao m cap e i' s' ao' m' cap' e') (hN : N = 0) : DRd w g p r (N ≠ 0) wr i s ao m cap e i' s' ao' m' cap' e' := by
  obtain ⟨h1, h2, h3, h4, h5, h6⟩ := h
  exact ⟨h1, h2, h3, h4, fun hz => absurd hN hz, h6⟩
theorem dr_le {n n' k r : Nat} (h : r + n' * 2 ^ k = n) : n' ≤ n := by
  have := Nat.le_mul_of_pos_right n' (Nat.two_pow_pos k); omega
theorem dr_one {n n' k r : Nat} (h : r + n' * 2 ^ k = n) (h0 : n' ≠ 0) : r + 2 ^ k ≤ n := by
  have := Nat.mul_le_mul_right (2 ^ k) (show 1 ≤ n' by omega); omega
theorem dr_two {n n' k r : Nat} (h : r + n' * 2 ^ k = n) (h0 : 0 < n' / 2) : 2 ^ k + 2 ^ k ≤ n := by
  have := Nat.mul_le_mul_right (2 ^ k) (show 2 ≤ n' by omega); omega
theorem dr_even {n n' k r : Nat} (h : r + n' * 2 ^ k = n) (hp : n' % 2 = 0) : r + n' / 2 * 2 ^ (k + 1) = n := by
  obtain ⟨j, rfl⟩ : ∃ j, n' = 2 * j := ⟨n' / 2, by omega⟩
  rw [show 2 * j / 2 = j by omega, Nat.pow_succ, Nat.mul_comm (2 ^ k) 2, ← Nat.mul_assoc, Nat.mul_comm j 2]; exact h
theorem dr_odd {n n' k r : Nat} (h : r + n' * 2 ^ k = n) (hp : n' % 2 = 1) : r + 2 ^ k + n' / 2 * 2 ^ (k + 1) = n := by
  obtain ⟨j, rfl⟩ : ∃ j, n' = 2 * j + 1 := ⟨n' / 2, by omega⟩
  rw [Nat.add_mul, Nat.one_mul] at h
  rw [show (2 * j + 1) / 2 = j by omega, Nat.pow_succ, Nat.mul_comm (2 ^ k) 2, ← Nat.mul_assoc, Nat.mul_comm j 2]; omega
set_option maxRecDepth 200000 in
theorem dpower_1 (P : Nat → Int × Bool × Nat × Int) (n : Nat) (i0 : Int) (s0 : Bool) (ao0 : Option Addr) (m0 c0 : Nat) (e0 : Int) (w : World) (hn : n ≤ 1024)
    (hA : EN w (.agg #[.int .i64 i0, .bool s0, .slice ao0 m0 c0, .int .i64 e0]) (P 1).1 (P 1).2) (hP : P 0 = (0, false, 1, 0))
    (kW : ∀ W, Below w.heap.size w W → Calls Tryz.prog 104 #[.int .i64 1] W fun r w' => ∃ s ao m cap e, r = .returned (.agg #[.bool s, .slice ao m cap, .int .i64 e]) ∧ DN w' (.agg #[.bool s, .slice ao m cap, .int .i64 e]) (false, 1, 0) ∧ Below W.heap.size W w')
    (kM : ∀ W X Y a b, Below w.heap.size w W → EN W X (P a).1 (P a).2 → EN W Y (P b).1 (P b).2 → a + b ≤ n → Calls Tryz.prog 38 #[X, Y] W fun r w' => ∃ i s ao m cap e, r = .returned (.agg #[.int .i64 i, .bool s, .slice ao m cap, .int .i64 e]) ∧ EN w' (.agg #[.int .i64 i, .bool s, .slice ao m cap, .int .i64 e]) (P (a + b)).1 (P (a + b)).2 ∧ Below W.heap.size W w') :
    Calls Tryz.prog 57 #[.agg #[.int .i64 i0, .bool s0, .slice ao0 m0 c0, .int .i64 e0], .int .i64 n] w fun r w' => ∃ i s ao m cap e, r = .returned (.agg #[.int .i64 i, .bool s, .slice ao m cap, .int .i64 e]) ∧ EN w' (.agg #[.int .i64 i, .bool s, .slice ao m cap, .int .i64 e]) (P n).1 (P n).2 ∧ Below w.heap.size w w' := by
  obtain ⟨W, hW⟩ : ∃ W, W = (w.alloc (.cells #[.int .i64 i0, .bool s0, .slice ao0 m0 c0, .int .i64 e0] 61)).alloc (.cells #[.int .i64 0, .bool false, .slice none 0 0, .int .i64 0] 61) := ⟨_, rfl⟩
  have hsz : W.heap.size = w.heap.size + 1 + 1 := by rw [hW]; simp
  have hBW : Below w.heap.size w W := by rw [hW]; exact ((Below.refl _ _).alloc (Nat.le_refl _) _).alloc (by simp) _
  have hA1 : EnI W w.heap.size i0 s0 ao0 m0 c0 e0 := by rw [hW]; exact (EnB.new _ _ _ _ _).alloc _
  have hA2 : EnI W (w.heap.size + 1) 0 false none 0 0 0 := by
    have h := EnB.new (w.alloc (.cells #[.int .i64 i0, .bool s0, .slice ao0 m0 c0, .int .i64 e0] 61)) (.int .i64 0) (.bool false) (.slice none 0 0) (.int .i64 0)
    rw [show (w.alloc (.cells #[.int .i64 i0, .bool s0, .slice ao0 m0 c0, .int .i64 e0] 61)).heap.size = w.heap.size + 1 by simp] at h
    rw [hW]; exact h
  have k1 := kW W hBW
  have HH : Hid (EnI W w.heap.size i0 s0 ao0 m0 c0 e0 ∧ EnI W (w.heap.size + 1) 0 false none 0 0 0 ∧ Below w.heap.size w W ∧ W.heap.size = w.heap.size + 1 + 1) := ⟨hA1, hA2, hBW, hsz⟩
  clear hA1 hA2 hBW hsz kW
  go_enter Tryz.func57, Tryz.ntmps57
  go_wp2_with fail
  rw [← hW]
  clear hW
  refine k1.mono ?_
  rintro r w1 ⟨s, ao, m, cap, e, rfl, hp, hb⟩
  clear k1
  obtain ⟨V, hV⟩ : ∃ V, V = w1.alloc (.cells #[.int .i64 0, .bool s, .slice ao m cap, .int .i64 e] 61) := ⟨_, rfl⟩
  obtain ⟨g, hg⟩ : ∃ g, g = w1.heap.size := ⟨_, rfl⟩
  have HR : Hid (DRd w g (P 0) (P 1) (n ≠ 0) V 0 s ao m cap e i0 s0 ao0 m0 c0 e0) := by
    obtain ⟨h1, h2, h3, h4⟩ := HH.out
    have hs := hb.size
    have hc : Below w1.heap.size w1 V := by rw [hV]; exact (Below.refl _ _).alloc (Nat.le_refl _) _
    have hw : Below w.heap.size w V := (h3.trans (hb.mono h3.size)).trans (hc.mono (by omega))
    refine ⟨by rw [hg, hV]; exact EnB.new _ _ _ _ _, ?_, ?_, ?_, fun _ => hA.later hw, hw, by omega, by rw [hV, hg]; simp⟩
    · exact (h1.box hb).box hc
    · exact (h2.box hb).box hc
    · rw [hP]; exact ⟨s, ao, m, cap, e, rfl, hp.later hc⟩
  go_upto_block 0 with fail
  rw [← hV, ← hg]
  clear hV hg HH hp hb
  go_wp2_with fail
  go_loopw [1] (fun v wr => ∃ (n' k r : Nat) (i : Int) (s : Bool) (ao : Option Addr) (m cap : Nat) (e : Int) (i' : Int) (s' : Bool) (ao' : Option Addr) (m' cap' : Nat) (e' : Int), v = .int .i64 n' ∧ r + n' * 2 ^ k = n ∧ Hid (DRd w g (P r) (P (2 ^ k)) (n' ≠ 0) wr i s ao m cap e i' s' ao' m' cap' e')) (fun v _ => (intOf v).toNat)
  case atStart => exact ⟨n, 0, 0, _, _, _, _, _, _, _, _, _, _, _, _, rfl, by simp, HR⟩
  case round =>
    obtain ⟨n', k, r, i, s, ao, m, cap, e, i', s', ao', m', cap', e', rfl, hr, HI⟩ := hrel
    clear HR
    have hn' : n' ≤ n := dr_le hr
    by_cases h0 : n' ≠ 0
    · have hp0 : (0 : Int) < (n' : Int) := by omega
      have htm : (n' : Int).tmod 2 = ((n' % 2 : Nat) : Int) := by rw [Int.tmod_eq_emod_of_nonneg (by omega)]; rfl
      have htd : (n' : Int).tdiv 2 = ((n' / 2 : Nat) : Int) := by rw [Int.tdiv_eq_ediv_of_nonneg (by omega)]; rfl
      have hdl : ((n' / 2 : Nat) : Int) ≤ 1024 := by omega
      rcases (show n' % 2 = 0 ∨ n' % 2 = 1 by omega) with hpar | hpar
      · rw [hpar] at htm
        by_cases hz : 0 < n' / 2
        · have hz' : (0 : Int) < ((n' / 2 : Nat) : Int) := by omega
          obtain ⟨⟨b0, b1, b2, b3⟩, -⟩ := EnB.facts HI.out.2.1
          have k2 := kM wr _ _ (2 ^ k) (2 ^ k) HI.out.2.2.2.2.2.1 (HI.out.2.2.2.2.1 h0) (HI.out.2.2.2.2.1 h0) (dr_two hr hz)
          go_wp2_with fail
          refine k2.mono ?_
          rintro r w4 ⟨j2, u2, bo2, k2', cp2, f2, rfl, hp4, hb4⟩
          have H4 : Hid (DRd w g (P r) (P (2 ^ k + 2 ^ k)) (n' / 2 ≠ 0) ((((w4.setCell ⟨w.heap.size, 0, none⟩ (.int .i64 j2)).setCell ⟨w.heap.size, 1, none⟩ (.bool u2)).setCell ⟨w.heap.size, 2, none⟩ (.slice bo2 k2' cp2)).setCell ⟨w.heap.size, 3, none⟩ (.int .i64 f2)) _ _ _ _ _ _ j2 u2 bo2 k2' cp2 f2) := HI.out.arg hb4 hp4
          clear k2 b0 b1 b2 b3
          obtain ⟨⟨b0, b1, b2, b3⟩, f0, f1, f2', f3⟩ := EnB.facts (HI.out.2.1.box hb4)
          clear hp4 hb4 HI
          go_wp2_with fail
          exact ⟨⟨n' / 2, k + 1, r, _, _, _, _, _, _, _, _, _, _, _, _, rfl, by have := dr_even hr hpar; omega, by rw [Nat.pow_succ, Nat.mul_two]; exact H4⟩, by simp [intOf]; omega⟩
        · omega
      · rw [hpar] at htm
        obtain ⟨⟨a0, a1, a2, a3⟩, -⟩ := EnB.facts HI.out.1
        obtain ⟨⟨b0, b1, b2, b3⟩, -⟩ := EnB.facts HI.out.2.1
        have k1 := kM wr _ _ r (2 ^ k) HI.out.2.2.2.2.2.1 HI.out.2.2.2.1 (HI.out.2.2.2.2.1 h0) (dr_one hr h0)
        go_wp2_with fail
        refine k1.mono ?_
        rintro q w3 ⟨j, u, bo, kk, cp, f, rfl, hp3, hb3⟩
        obtain ⟨U, hU⟩ : ∃ U, U = ((((w3.setCell ⟨g, 0, none⟩ (.int .i64 j)).setCell ⟨g, 1, none⟩ (.bool u)).setCell ⟨g, 2, none⟩ (.slice bo kk cp)).setCell ⟨g, 3, none⟩ (.int .i64 f)) := ⟨_, rfl⟩
        have H3 : Hid (DRd w g (P (r + 2 ^ k)) (P (2 ^ k)) (n' ≠ 0) U j u bo kk cp f i' s' ao' m' cap' e') := by rw [hU]; exact HI.out.out hb3 hp3
        clear k1 a0 a1 a2 a3 b0 b1 b2 b3
        obtain ⟨⟨a0, a1, a2, a3⟩, f0, f1, f2, f3⟩ := EnB.facts (HI.out.1.box hb3)
        clear hp3 hb3 HI
        go_upto_region 5 with fail
        rw [← hU]
        clear hU a0 a1 a2 a3 f0 f1 f2 f3
        by_cases hz : 0 < n' / 2
        · have hz' : (0 : Int) < ((n' / 2 : Nat) : Int) := by omega
          obtain ⟨⟨b0, b1, b2, b3⟩, -⟩ := EnB.facts H3.out.2.1
          have k2 := kM U _ _ (2 ^ k) (2 ^ k) H3.out.2.2.2.2.2.1 (H3.out.2.2.2.2.1 h0) (H3.out.2.2.2.2.1 h0) (dr_two hr hz)
          go_wp2_with fail
          refine k2.mono ?_
          rintro r w4 ⟨j2, u2, bo2, k2', cp2, f2, rfl, hp4, hb4⟩
          have H4 : Hid (DRd w g (P (r + 2 ^ k)) (P (2 ^ k + 2 ^ k)) (n' / 2 ≠ 0) ((((w4.setCell ⟨w.heap.size, 0, none⟩ (.int .i64 j2)).setCell ⟨w.heap.size, 1, none⟩ (.bool u2)).setCell ⟨w.heap.size, 2, none⟩ (.slice bo2 k2' cp2)).setCell ⟨w.heap.size, 3, none⟩ (.int .i64 f2)) _ _ _ _ _ _ j2 u2 bo2 k2' cp2 f2) := H3.out.arg hb4 hp4
          clear k2 b0 b1 b2 b3
          obtain ⟨⟨b0, b1, b2, b3⟩, f0, f1, f2', f3⟩ := EnB.facts (H3.out.2.1.box hb4)
          clear hp4 hb4 H3
          go_wp2_with fail
          exact ⟨⟨n' / 2, k + 1, (r + 2 ^ k), _, _, _, _, _, _, _, _, _, _, _, _, rfl, by have := dr_odd hr hpar; omega, by rw [Nat.pow_succ, Nat.mul_two]; exact H4⟩, by simp [intOf]; omega⟩
        · have hz0 : n' / 2 = 0 := by omega
          have hz' : ¬ (0 : Int) < ((n' / 2 : Nat) : Int) := by omega
          go_wp2_with fail
          exact ⟨⟨0, k + 1, (r + 2 ^ k), _, _, _, _, _, _, _, _, _, _, _, _, rfl, by have := dr_odd hr hpar; rw [hz0] at this; exact this, H3.out.last rfl⟩, by simp [intOf]; omega⟩
    · obtain rfl : n' = 0 := by omega
      obtain rfl : r = n := by omega
      obtain ⟨⟨a0, a1, a2, a3⟩, -⟩ := EnB.facts HI.out.1
      obtain ⟨⟨b0, b1, b2, b3⟩, f0, f1, f2, f3⟩ := EnB.facts HI.out.2.2.1
      go_wp2_with fail
      refine bodyPost_ret (results_cell_row rfl _ _ (w.heap.size + 1) 61 #[.int .i64 i, .bool s, .slice ao m cap, .int .i64 e] (0, 0) _ rfl (EnB.set HI.out.2.2.1 _ _ _ _) Tryz.underlying61 rfl en_info) rfl ?_
      exact ⟨_, _, _, _, _, _, rfl, en_storeE HI.out.2.2.2.1 HI.out.2.2.1 _ _ _ _, below_store4 HI.out.2.2.2.2.2.1 (by omega) _ _ _ _⟩
attribute [local go_sem] run_store_flt
theorem dfloat_i (i m e : Int) (s : Bool) (ao : Option Addr) (n cap X : Nat) (w : World) (hi : (i != 0) = true) (k : ∀ W, Calls Tryz.prog 44 #[.int .i64 i] W fun r w' => r = .returned (.float .f64 X) ∧ w' = W) :
    Calls Tryz.prog 87 #[.agg #[.int .i64 i, .bool s, .slice ao n cap, .int .i64 e], .int .i64 m] w fun r w' => r = .returned (.float .f64 X) ∧ Below w.heap.size w w' := by
  obtain ⟨W, hW⟩ : ∃ W, W = w.alloc (.cells #[.int .i64 i, .bool s, .slice ao n cap, .int .i64 e] 61) := ⟨_, rfl⟩
  have HX : Hid (Below w.heap.size w W ∧ EnB W w.heap.size (.int .i64 i) (.bool s) (.slice ao n cap) (.int .i64 e)) := by
    rw [hW]; exact ⟨(Below.refl _ _).alloc (Nat.le_refl _) _, EnB.new _ _ _ _ _⟩
  obtain ⟨⟨a0, a1, a2, a3⟩, -⟩ := HX.out.2.facts
  go_enter Tryz.func87, Tryz.ntmps87
  go_upto_region 1 with fail
  rw [← hW]
  clear hW
  go_wp2_with (first | (go_at_call 44; refine (k _).mono ?_; rintro r w' ⟨rfl, hw⟩; replace hw := hw.symm; subst hw))
  go_ret
  exact ⟨rfl, HX.out.1⟩
theorem dfloat_0 (m e : Int) (s : Bool) (ao : Option Addr) (n cap X Y : Nat) (w : World) (k1 : ∀ W, Below w.heap.size w W → Calls Tryz.prog 66 #[.agg #[.bool s, .slice ao n cap, .int .i64 e], .int .i64 m] W fun r w' => r = .returned (.float .f64 X) ∧ Below W.heap.size W w') (k2 : ∀ W, Calls Tryz.prog 48 #[.float .f64 X] W fun r w' => r = .returned (.float .f64 Y) ∧ w' = W) :
    Calls Tryz.prog 87 #[.agg #[.int .i64 0, .bool s, .slice ao n cap, .int .i64 e], .int .i64 m] w fun r w' => r = .returned (.float .f64 Y) ∧ Below w.heap.size w w' := by
  obtain ⟨W, hW⟩ : ∃ W, W = w.alloc (.cells #[.int .i64 0, .bool s, .slice ao n cap, .int .i64 e] 61) := ⟨_, rfl⟩
  have HX : Hid (Below w.heap.size w W ∧ EnB W w.heap.size (.int .i64 0) (.bool s) (.slice ao n cap) (.int .i64 e)) := by
    rw [hW]; exact ⟨(Below.refl _ _).alloc (Nat.le_refl _) _, EnB.new _ _ _ _ _⟩
  obtain ⟨⟨a0, a1, a2, a3⟩, -⟩ := HX.out.2.facts
  have kk := k1 W HX.out.1
  clear k1
  go_enter Tryz.func87, Tryz.ntmps87
  go_upto_region 1 with fail
  rw [← hW]
  clear hW
  go_wp2_with fail
  refine kk.mono ?_
  rintro r w1 ⟨rfl, hb⟩
  have HB : Hid (Below w.heap.size w w1) := HX.out.1.trans (hb.mono HX.out.1.size)
  clear kk hb HX a0 a1 a2 a3
  go_wp2_with (first | (go_at_call 48; refine (k2 _).mono ?_; rintro r w' ⟨rfl, hw⟩; replace hw := hw.symm; subst hw))
  go_ret
  exact ⟨rfl, HB.out⟩
theorem dsign_i (i e : Int) (s : Bool) (ao : Option Addr) (n cap : Nat) (w : World) (hi : (i != 0) = true) :
    Calls Tryz.prog 86 #[.agg #[.int .i64 i, .bool s, .slice ao n cap, .int .i64 e]] w fun r w' => r = .returned (.int .i64 i) ∧ Below w.heap.size w w' := by
  obtain ⟨W, hW⟩ : ∃ W, W = w.alloc (.cells #[.int .i64 i, .bool s, .slice ao n cap, .int .i64 e] 61) := ⟨_, rfl⟩
  have HX : Hid (Below w.heap.size w W ∧ EnB W w.heap.size (.int .i64 i) (.bool s) (.slice ao n cap) (.int .i64 e)) := by
    rw [hW]; exact ⟨(Below.refl _ _).alloc (Nat.le_refl _) _, EnB.new _ _ _ _ _⟩
  obtain ⟨⟨a0, a1, a2, a3⟩, -⟩ := HX.out.2.facts
  go_enter Tryz.func86, Tryz.ntmps86
  go_upto_region 1 with fail
  rw [← hW]
  clear hW
  go_wp2
  go_ret
  exact ⟨rfl, HX.out.1⟩
theorem dsign_0 (e c : Int) (s : Bool) (ao : Option Addr) (n cap : Nat) (w : World) (k1 : ∀ W, Below w.heap.size w W → Calls Tryz.prog 77 #[.agg #[.bool s, .slice ao n cap, .int .i64 e]] W fun r w' => r = .returned (.int .i64 c) ∧ Below W.heap.size W w') :
    Calls Tryz.prog 86 #[.agg #[.int .i64 0, .bool s, .slice ao n cap, .int .i64 e]] w fun r w' => r = .returned (.int .i64 c) ∧ Below w.heap.size w w' := by
  obtain ⟨W, hW⟩ : ∃ W, W = w.alloc (.cells #[.int .i64 0, .bool s, .slice ao n cap, .int .i64 e] 61) := ⟨_, rfl⟩
  have HX : Hid (Below w.heap.size w W ∧ EnB W w.heap.size (.int .i64 0) (.bool s) (.slice ao n cap) (.int .i64 e)) := by
    rw [hW]; exact ⟨(Below.refl _ _).alloc (Nat.le_refl _) _, EnB.new _ _ _ _ _⟩
  obtain ⟨⟨a0, a1, a2, a3⟩, -⟩ := HX.out.2.facts
  have kk := k1 W HX.out.1
  clear k1
  go_enter Tryz.func86, Tryz.ntmps86
  go_upto_region 1 with fail
  rw [← hW]
  clear hW
  go_wp2_with fail
  refine kk.mono ?_
  rintro r w1 ⟨rfl, hb⟩
  have HB : Hid (Below w.heap.size w w1) := HX.out.1.trans (hb.mono HX.out.1.size)
  clear kk hb HX a0 a1 a2 a3
  go_wp2_with fail
  go_ret
  exact ⟨rfl, HB.out⟩
set_option maxRecDepth 200000 in
theorem d8turn_1 (i j e : Int) (s : Bool) (ao : Option Addr) (n cap : Nat) (t : Bool × Nat × Int) (w : World) (hj : IntKind.i64.wrap (-i) = j)
    (k1 : ∀ W, Below w.heap.size w W → Calls Tryz.prog 72 #[.agg #[.bool s, .slice ao n cap, .int .i64 e]] W fun r w' => ∃ A, r = .returned A ∧ DN w' A t ∧ Below W.heap.size W w') :
    Calls Tryz.prog 103 #[.agg #[.int .i64 i, .bool s, .slice ao n cap, .int .i64 e]] w fun r w' => ∃ A, r = .returned A ∧ EN w' A j t ∧ Below w.heap.size w w' := by
  obtain ⟨W, hW⟩ : ∃ W, W = (w.alloc (.cells #[.int .i64 i, .bool s, .slice ao n cap, .int .i64 e] 61)).alloc (.cells #[.int .i64 0, .bool false, .slice none 0 0, .int .i64 0] 61) := ⟨_, rfl⟩
  have HX : Hid (Below w.heap.size w W ∧ EnB W w.heap.size (.int .i64 i) (.bool s) (.slice ao n cap) (.int .i64 e) ∧ EnB W (w.heap.size + 1) (.int .i64 0) (.bool false) (.slice none 0 0) (.int .i64 0)) := by
    rw [hW]
    refine ⟨((Below.refl _ _).alloc (Nat.le_refl _) _).alloc (by simp) _, (EnB.new _ _ _ _ _).alloc _, ?_⟩
    have := EnB.new (w.alloc (.cells #[.int .i64 i, .bool s, .slice ao n cap, .int .i64 e] 61)) (.int .i64 0) (.bool false) (.slice none 0 0) (.int .i64 0)
    simpa using this
  have hR : Below W.heap.size W W.drew := (Below.refl _ _).drew
  have q1 : ∀ W', Below W.heap.size W W' → Calls Tryz.prog 72 #[.agg #[.bool s, .slice ao n cap, .int .i64 e]] W' fun r w' => ∃ s1 ao1 n1 cap1 e1, r = .returned (.agg #[.bool s1, .slice ao1 n1 cap1, .int .i64 e1]) ∧ Hid (DN w' (.agg #[.bool s1, .slice ao1 n1 cap1, .int .i64 e1]) t) ∧ Below W.heap.size W w' ∧ Hid (EnB w' (w.heap.size + 1) (.int .i64 0) (.bool false) (.slice none 0 0) (.int .i64 0)) ∧ ((w'.cell? ⟨w.heap.size + 1, 0, none⟩ = some (.int .i64 0) ∧ w'.cell? ⟨w.heap.size + 1, 1, none⟩ = some (.bool false) ∧ w'.cell? ⟨w.heap.size + 1, 2, none⟩ = some (.slice none 0 0) ∧ w'.cell? ⟨w.heap.size + 1, 3, none⟩ = some (.int .i64 0)) ∧ (w'.frozen? ⟨w.heap.size + 1, 0, none⟩ = false ∧ w'.frozen? ⟨w.heap.size + 1, 1, none⟩ = false ∧ w'.frozen? ⟨w.heap.size + 1, 2, none⟩ = false ∧ w'.frozen? ⟨w.heap.size + 1, 3, none⟩ = false)) := fun W' h => (k1 W' (HX.out.1.trans (h.mono HX.out.1.size))).mono fun r w' ⟨A, e1, e2, e3⟩ => by
    obtain ⟨s1, ao1, n1, cap1, ee, rfl⟩ := e2.shape
    exact ⟨s1, ao1, n1, cap1, ee, e1, e2, h.trans (e3.mono h.size), HX.out.2.2.box (h.trans (e3.mono h.size)), (HX.out.2.2.box (h.trans (e3.mono h.size))).facts⟩
  have HK : Hid (∀ w', Below W.heap.size W w' → w'.cell? ⟨w.heap.size, 0, none⟩ = some (.int .i64 i) ∧ w'.cell? ⟨w.heap.size, 1, none⟩ = some (.bool s) ∧ w'.cell? ⟨w.heap.size, 2, none⟩ = some (.slice ao n cap) ∧ w'.cell? ⟨w.heap.size, 3, none⟩ = some (.int .i64 e)) := fun w' hb => (HX.out.2.1.box hb).facts.1
  obtain ⟨a0, a1, a2, a3⟩ := HK.out W (Below.refl _ _)
  clear k1
  go_enter Tryz.func103, Tryz.ntmps103
  go_upto_region 1 with fail
  rw [← hW]
  clear hW
  go_region_held3 (fun w' => w'.cell? ⟨w.heap.size, 0, none⟩ = some (.int .i64 i) ∧ w'.cell? ⟨w.heap.size, 1, none⟩ = some (.bool s) ∧ w'.cell? ⟨w.heap.size, 2, none⟩ = some (.slice ao n cap) ∧ w'.cell? ⟨w.heap.size, 3, none⟩ = some (.int .i64 e)) (first | (with_reducible assumption) | exact HK.out _ hR | (refine HK.out _ ?_; with_reducible assumption) | (refine ⟨?_, ?_, ?_, ?_⟩ <;> (change World.cell? (World.setCell (World.setCell (World.setCell (World.setCell _ _ _) _ _) _ _) _ _) _ = _; rw [World.cell?_setCell_other _ _ _ _ (by simp), World.cell?_setCell_other _ _ _ _ (by simp), World.cell?_setCell_other _ _ _ _ (by simp), World.cell?_setCell_other _ _ _ _ (by simp)]; first | exact (HK.out _ hb5).1 | exact (HK.out _ hb5).2.1 | exact (HK.out _ hb5).2.2.1 | exact (HK.out _ hb5).2.2.2)) | go_keep)
    (first | (go_at_call 72; refine (q1 _ (by first | (with_reducible assumption) | exact hR)).mono ?_; rintro r w5 ⟨s1, ao1, n1, cap1, e1, rfl, hD5, hb5, hE5, ⟨x0, x1, x2, x3⟩, x4, x5, x6, x7⟩))
  have HF : Hid (DN w5 (.agg #[.bool s1, .slice ao1 n1 cap1, .int .i64 e1]) t ∧ EnB w5 (w.heap.size + 1) (.int .i64 0) (.bool false) (.slice none 0 0) (.int .i64 0) ∧ Below w.heap.size w w5) := ⟨hD5.out, hE5.out, HX.out.1.trans (hb5.mono HX.out.1.size)⟩
  clear q1 HK HX hR hD5 hE5 hb5 x0 x1 x2 x3 x4 x5 x6 x7 a0 a1 a2 a3
  (try rw [hj])
  go_wp2_with fail
  refine bodyPost_ret (results_cell_row rfl _ _ (w.heap.size + 1) 61 #[.int .i64 j, .bool s1, .slice ao1 n1 cap1, .int .i64 e1] (0, 0) _ rfl (HF.out.2.1.set _ _ _ _) Tryz.underlying61 rfl en_info) rfl ?_
  first | exact ⟨_, rfl, ⟨s1, ao1, n1, cap1, e1, rfl, dn_store48 HF.out.1 HF.out.2.1 _ _ _ _⟩, below_store4 HF.out.2.2 (by omega) _ _ _ _⟩ | exact ⟨_, rfl, ⟨s1, ao1, n1, cap1, e1, rfl, (dn_store48 HF.out.1 HF.out.2.1 _ _ _ _).later (Below.refl _ _).drew⟩, (below_store4 HF.out.2.2 (by omega) _ _ _ _).drew⟩
def tNeg (t : Bool × Nat × Int) : Bool × Nat × Int := if t.2.1 = 0 then (false, 0, 0) else (!t.1, t.2.1, t.2.2)
theorem minus8_dn {t : Bool × Nat × Int} {A : Value} {w : World} (h : DN w A t) : Calls Tryz.prog 72 #[A] w fun r w' => ∃ B, r = .returned B ∧ DN w' B (tNeg t) ∧ Below w.heap.size w w' := by
  obtain ⟨ao, cap, rfl, hA⟩ := h
  unfold tNeg
  by_cases h0 : t.2.1 = 0
  · rw [if_pos h0, dlen_eq_zero.2 h0]
    refine (rminus_0 t.1 ao cap t.2.2 w).mono ?_
    rintro r w' ⟨rfl, hb⟩
    exact ⟨_, rfl, dn_nil _, hb⟩
  · rw [if_neg h0]
    have hd : dlen t.2.1 ≠ 0 := fun e => h0 (dlen_eq_zero.1 e)
    refine (rminus_1 t.1 ao (dlen t.2.1) cap t.2.2 w hA.small (by simp; omega)).mono ?_
    rintro r w' ⟨rfl, hb⟩
    exact ⟨_, rfl, ⟨ao, cap, rfl, hA.later hb⟩, hb⟩
theorem d8turn {i : Int} {t : Bool × Nat × Int} {A : Value} {w : World} (hi : -1 ≤ i ∧ i ≤ 1) (h : EN w A i t) : Calls Tryz.prog 103 #[A] w fun r w' => ∃ B, r = .returned B ∧ EN w' B (-i) (tNeg t) ∧ Below w.heap.size w w' := by
  obtain ⟨s, ao, n, cap, e, rfl, hD⟩ := h
  exact d8turn_1 i (-i) e s ao n cap (tNeg t) w (by rw [IntKind.wrap_i64]; omega) (fun W hW => minus8_dn (hD.later hW))
def toD (t : Bool × Nat × Int) (m : Int) : Nat := if t.2.1 = 0 then 0 else tfF t.1 true t.2.1 t.2.2 m
def enF (i : Int) (t : Bool × Nat × Int) (m : Int) : Nat := if i = 0 then pl (toD t m) else if 0 < i then 9218868437227405312 else 18442240474082181120
theorem toD_lt {t : Bool × Nat × Int} {m : Int} (hm : 1 ≤ m ∧ m ≤ 3) : toD t m < 18446744073709551616 := by
  unfold toD
  split
  · omega
  · exact tfF_lt hm
theorem dto8 {t : Bool × Nat × Int} {m : Int} (o : Ok t) (hm : 1 ≤ m ∧ m ≤ 3) {W : World} {A : Value} (h : DN W A t) : Calls Tryz.prog 66 #[A, .int .i64 m] W fun r w' => r = .returned (.float .f64 (toD t m)) ∧ Below W.heap.size W w' := by
  obtain ⟨f1, f2, f3, -, f5⟩ := o.facts
  obtain ⟨ao, cap, rfl, hA⟩ := h
  unfold toD
  by_cases h0 : t.2.1 = 0
  · rw [if_pos h0, dlen_eq_zero.2 h0]
    exact rto_0 _ _ _ _ _ _
  · rw [if_neg h0, tf_bdy hm]
    exact rto hA.at_ hA.le (f5 h0) (by omega) (by omega) (by omega) hm
theorem cinf_ge (i : Int) (w : World) (h : 0 < i) : Calls Tryz.prog 44 #[.int .i64 i] w fun r w' => r = .returned (.float .f64 9218868437227405312) ∧ w' = w := by
  have hb := Ie.run_frombits
  have h0 : decide (0 ≤ i) = true := decide_eq_true (by omega)
  have h1 : 0 ≤ i := by omega
  go_enter Tryz.func44, Tryz.ntmps44
  go_wp2
  go_ret
  exact ⟨rfl, rfl⟩
theorem cinf_le (i : Int) (w : World) (h : i < 0) : Calls Tryz.prog 44 #[.int .i64 i] w fun r w' => r = .returned (.float .f64 18442240474082181120) ∧ w' = w := by
  have hb := Ie.run_frombits
  have h0 : decide (0 ≤ i) = false := decide_eq_false (by omega)
  have h1 : ¬ 0 ≤ i := by omega
  go_enter Tryz.func44, Tryz.ntmps44
  go_wp2
  go_ret
  exact ⟨rfl, rfl⟩
theorem dfloat {i m : Int} {t : Bool × Nat × Int} {A : Value} {w : World} (o : Ok t) (hm : 1 ≤ m ∧ m ≤ 3) (h : EN w A i t) : Calls Tryz.prog 87 #[A, .int .i64 m] w fun r w' => r = .returned (.float .f64 (enF i t m)) ∧ Below w.heap.size w w' := by
  obtain ⟨s, ao, n, cap, e, rfl, hD⟩ := h
  unfold enF
  by_cases h0 : i = 0
  · subst h0
    rw [if_pos rfl]
    exact dfloat_0 m e s ao n cap _ _ w (fun W hW => dto8 o hm (hD.later hW)) (fun W => dpl _ (toD_lt hm) W)
  · rw [if_neg h0]
    by_cases h1 : 0 < i
    · rw [if_pos h1]
      exact dfloat_i i m e s ao n cap _ w (by simp [h0]) (fun W => cinf_ge i W h1)
    · rw [if_neg h1]
      exact dfloat_i i m e s ao n cap _ w (by simp [h0]) (fun W => cinf_le i W (by omega))
theorem eI_cases (f : Nat) : eI f = -1 ∨ eI f = 0 ∨ eI f = 1 := by
  unfold eI
  split
  · exact .inr (.inr rfl)
  · split
    · exact .inl rfl
    · exact .inr (.inl rfl)
theorem eT_ok (f : Nat) : Ok (eT f) := by
  unfold eT
  split
  · exact tF_ok f
  · unfold Ok; rw [dlen_zero]; rfl
theorem tNeg_ok {t : Bool × Nat × Int} (o : Ok t) : Ok (tNeg t) := by
  unfold tNeg
  by_cases h0 : t.2.1 = 0
  · rw [if_pos h0]; unfold Ok; rw [dlen_zero]; rfl
  · rw [if_neg h0]
    have hd : dlen t.2.1 ≠ 0 := fun e => h0 (dlen_eq_zero.1 e)
    unfold Ok okN at o ⊢
    rw [if_neg hd] at o
    rw [if_neg hd]
    exact o
theorem dend (f : Nat) (hf : f < 18446744073709551616) (hn : isNaN f = false) (w : World) : Calls Tryz.prog 37 #[.float .f64 f] w fun r w' => ∃ A, r = .returned A ∧ EN w' A (eI f) (eT f) ∧ Below w.heap.size w w' := by
  have o1 := ord_gt f 9218868437227405311 hf (by omega)
  have o2 := ord_lt f 18442240474082181119 hf (by omega)
  have b := nan_stp hn
  unfold lt at o1 o2
  rw [hn, show isNaN 9218868437227405311 = false by decide, show isNaN 18442240474082181119 = false by decide, show stp 9218868437227405311 = 9218868437227405311 by decide, show stp 18442240474082181119 = -9218868437227405311 by decide] at *
  simp only [Bool.not_false, Bool.true_and] at o1 o2
  by_cases h1 : f = 9218868437227405312
  · have e : eI f = 1 := by unfold eI; rw [if_pos h1]
    have e2 : eT f = (false, 0, 0) := by unfold eT; rw [e]; rfl
    rw [e, e2]
    rw [decide_eq_true (by rw [h1]; decide)] at o1
    refine (dend_inf f w o1).mono ?_
    rintro r w' ⟨rfl, hb⟩
    exact ⟨_, rfl, ⟨_, _, _, _, _, rfl, dn_nil _⟩, hb⟩
  · have s1 : ¬ 9218868437227405311 < stp f := by
      intro h
      exact h1 (stp_eq hf (by omega) (by rw [show stp 9218868437227405312 = 9218868437227405312 by decide]; omega) (by omega))
    rw [decide_eq_false s1] at o1
    by_cases h2 : f = 18442240474082181120
    · have e : eI f = -1 := by unfold eI; rw [if_neg h1, if_pos h2]
      have e2 : eT f = (false, 0, 0) := by unfold eT; rw [e]; rfl
      rw [e, e2]
      rw [decide_eq_true (by rw [h2]; decide)] at o2
      refine (dend_ninf f w o1 o2).mono ?_
      rintro r w' ⟨rfl, hb⟩
      exact ⟨_, rfl, ⟨_, _, _, _, _, rfl, dn_nil _⟩, hb⟩
    · have s2 : ¬ stp f < -9218868437227405311 := by
        intro h
        exact h2 (stp_eq hf (by omega) (by rw [show stp 18442240474082181120 = -9218868437227405312 by decide]; omega) (by omega))
      rw [decide_eq_false s2] at o2
      have e : eI f = 0 := by unfold eI; rw [if_neg h1, if_neg h2]
      have e2 : eT f = tF f := by unfold eT; rw [e]; rfl
      rw [e, e2]
      exact dend_fin f _ w o1 o2 (fun W => float_dn f hf W)
attribute [local go_sem] run_store_flt
set_option maxRecDepth 200000 in
theorem dTight_1 (i j eA eB : Int) (sA sB : Bool) (aoA aoB : Option Addr) (nA capA nB capB : Nat) (x y : Nat) (w : World)
    (k1 : ∀ W, Below w.heap.size w W → Calls Tryz.prog 87 #[.agg #[.int .i64 i, .bool sA, .slice aoA nA capA, .int .i64 eA], .int .i64 1] W fun r w' => r = .returned (.float .f64 x) ∧ Below W.heap.size W w')
    (k2 : ∀ W, Below w.heap.size w W → Calls Tryz.prog 87 #[.agg #[.int .i64 j, .bool sB, .slice aoB nB capB, .int .i64 eB], .int .i64 3] W fun r w' => r = .returned (.float .f64 y) ∧ Below W.heap.size W w') :
    Calls Tryz.prog 39 #[.agg #[.int .i64 i, .bool sA, .slice aoA nA capA, .int .i64 eA], .agg #[.int .i64 j, .bool sB, .slice aoB nB capB, .int .i64 eB]] w fun r w' => r = .returned (.agg #[.float .f64 x, .float .f64 y]) ∧ Below w.heap.size w w' := by
  obtain ⟨W, hW⟩ : ∃ W, W = ((w.alloc (.cells #[.int .i64 i, .bool sA, .slice aoA nA capA, .int .i64 eA] 61)).alloc (.cells #[.int .i64 j, .bool sB, .slice aoB nB capB, .int .i64 eB] 61)).alloc (.cells #[.float .f64 0, .float .f64 0] 24) := ⟨_, rfl⟩
  have HX : Hid (Below w.heap.size w W ∧ EnB W (w.heap.size) (.int .i64 i) (.bool sA) (.slice aoA nA capA) (.int .i64 eA) ∧ EnB W (w.heap.size + 1) (.int .i64 j) (.bool sB) (.slice aoB nB capB) (.int .i64 eB) ∧ IvB W (w.heap.size + 1 + 1) 0 0) := by
    rw [hW]
    refine ⟨(((Below.refl _ _).alloc (Nat.le_refl _) _).alloc (by simp) _).alloc (by simp; omega) _, ((EnB.new _ _ _ _ _).alloc _).alloc _, ?_, ?_⟩
    · have := (EnB.new (w.alloc (.cells #[.int .i64 i, .bool sA, .slice aoA nA capA, .int .i64 eA] 61)) (.int .i64 j) (.bool sB) (.slice aoB nB capB) (.int .i64 eB)).alloc (.cells #[.float .f64 0, .float .f64 0] 24)
      simpa using this
    · have := IvB.new ((w.alloc (.cells #[.int .i64 i, .bool sA, .slice aoA nA capA, .int .i64 eA] 61)).alloc (.cells #[.int .i64 j, .bool sB, .slice aoB nB capB, .int .i64 eB] 61)) 0 0
      simpa using this
  have HKK : Hid (∀ w', Below W.heap.size W w' → (w'.cell? ⟨w.heap.size, 0, none⟩ = some (.int .i64 i) ∧ w'.cell? ⟨w.heap.size, 1, none⟩ = some (.bool sA) ∧ w'.cell? ⟨w.heap.size, 2, none⟩ = some (.slice aoA nA capA) ∧ w'.cell? ⟨w.heap.size, 3, none⟩ = some (.int .i64 eA)) ∧ (w'.cell? ⟨w.heap.size + 1, 0, none⟩ = some (.int .i64 j) ∧ w'.cell? ⟨w.heap.size + 1, 1, none⟩ = some (.bool sB) ∧ w'.cell? ⟨w.heap.size + 1, 2, none⟩ = some (.slice aoB nB capB) ∧ w'.cell? ⟨w.heap.size + 1, 3, none⟩ = some (.int .i64 eB))) := fun w' hb => ⟨(HX.out.2.1.box hb).facts.1, (HX.out.2.2.1.box hb).facts.1⟩
  have hR : Below W.heap.size W W.drew := (Below.refl _ _).drew
  have q1 : ∀ W', Below W.heap.size W W' → Calls Tryz.prog 87 #[.agg #[.int .i64 i, .bool sA, .slice aoA nA capA, .int .i64 eA], .int .i64 1] W' fun r w' => r = .returned (.float .f64 x) ∧ Below W.heap.size W w' := fun W' h => (k1 W' (HX.out.1.trans (h.mono HX.out.1.size))).mono fun r w' ⟨e1, e2⟩ => ⟨e1, h.trans (e2.mono h.size)⟩
  have q2 : ∀ W', Below W.heap.size W W' → Calls Tryz.prog 87 #[.agg #[.int .i64 j, .bool sB, .slice aoB nB capB, .int .i64 eB], .int .i64 3] W' fun r w' => r = .returned (.float .f64 y) ∧ Below W.heap.size W w' ∧ (w'.cell? ⟨w.heap.size + 1 + 1, 0, none⟩ = some (.float .f64 0) ∧ w'.cell? ⟨w.heap.size + 1 + 1, 1, none⟩ = some (.float .f64 0) ∧ w'.frozen? ⟨w.heap.size + 1 + 1, 0, none⟩ = false ∧ w'.frozen? ⟨w.heap.size + 1 + 1, 1, none⟩ = false) := fun W' h => (k2 W' (HX.out.1.trans (h.mono HX.out.1.size))).mono fun r w' ⟨e1, e2⟩ => ⟨e1, h.trans (e2.mono h.size), HX.out.2.2.2.later (h.trans (e2.mono h.size))⟩
  obtain ⟨⟨a0, a1, a2, a3⟩, b0, b1, b2, b3⟩ := HKK.out W (Below.refl _ _)
  clear k1 k2
  go_enter Tryz.func39, Tryz.ntmps39
  go_upto_region 1 with fail
  rw [← hW]
  clear hW
  go_region_held3 (fun w' => (w'.cell? ⟨w.heap.size, 0, none⟩ = some (.int .i64 i) ∧ w'.cell? ⟨w.heap.size, 1, none⟩ = some (.bool sA) ∧ w'.cell? ⟨w.heap.size, 2, none⟩ = some (.slice aoA nA capA) ∧ w'.cell? ⟨w.heap.size, 3, none⟩ = some (.int .i64 eA)) ∧ (w'.cell? ⟨w.heap.size + 1, 0, none⟩ = some (.int .i64 j) ∧ w'.cell? ⟨w.heap.size + 1, 1, none⟩ = some (.bool sB) ∧ w'.cell? ⟨w.heap.size + 1, 2, none⟩ = some (.slice aoB nB capB) ∧ w'.cell? ⟨w.heap.size + 1, 3, none⟩ = some (.int .i64 eB))) (first | (with_reducible assumption) | (with_reducible exact HKK.out _ hR) | (with_reducible refine HKK.out _ ?_; with_reducible assumption) | (refine ⟨⟨?_, ?_, ?_, ?_⟩, ?_, ?_, ?_, ?_⟩ <;> (change World.cell? (World.setCell (World.setCell _ _ _) _ _) _ = _; rw [World.cell?_setCell_other _ _ _ _ (by first | (simp; done) | (simp; omega)), World.cell?_setCell_other _ _ _ _ (by first | (simp; done) | (simp; omega))]; first | exact (HKK.out _ hb7).1.1 | exact (HKK.out _ hb7).1.2.1 | exact (HKK.out _ hb7).1.2.2.1 | exact (HKK.out _ hb7).1.2.2.2 | exact (HKK.out _ hb7).2.1 | exact (HKK.out _ hb7).2.2.1 | exact (HKK.out _ hb7).2.2.2.1 | exact (HKK.out _ hb7).2.2.2.2)) | go_keep)
    (first | (go_at_call 87; with_reducible refine (q1 _ hR).mono ?_; rintro r w6 ⟨rfl, hb6⟩)
           | (go_at_call 87; with_reducible refine (q2 _ hb6).mono ?_; rintro r w7 ⟨rfl, hb7, x0, x1, x2, x3⟩))
  have HB : Hid (Below w.heap.size w w7) := HX.out.1.trans (hb7.mono HX.out.1.size)
  have HR : Hid (IvB w7 (w.heap.size + 1 + 1) 0 0) := HX.out.2.2.2.box hb7
  clear q1 q2 HKK HX hR hb7 x0 x1 x2 x3 a0 a1 a2 a3 b0 b1 b2 b3
  go_wp2_with fail
  refine bodyPost_ret (results_cell_row rfl _ _ (w.heap.size + 1 + 1) 24 #[.float .f64 x, .float .f64 y] (0, 0) _ rfl (HR.out.set _ _) Tryz.underlying24 rfl iv_info) rfl ?_
  first | exact ⟨rfl, below_store2 HB.out (by omega) _ _⟩ | exact ⟨rfl, (below_store2 HB.out (by omega) _ _).drew⟩
theorem dTight {i j : Int} {t u : Bool × Nat × Int} {A B : Value} {w : World} (o1 : Ok t) (o2 : Ok u) (h1 : EN w A i t) (h2 : EN w B j u) :
    Calls Tryz.prog 39 #[A, B] w fun r w' => r = .returned (.agg #[.float .f64 (enF i t 1), .float .f64 (enF j u 3)]) ∧ Below w.heap.size w w' := by
  have h1' := h1
  have h2' := h2
  obtain ⟨sA, aoA, nA, capA, eA, rfl, d1⟩ := h1
  obtain ⟨sB, aoB, nB, capB, eB, rfl, d2⟩ := h2
  exact dTight_1 i j eA eB sA sB aoA aoB nA capA nB capB _ _ w (fun W hW => dfloat o1 (by omega) (h1'.later hW)) (fun W hW => dfloat o2 (by omega) (h2'.later hW))
end Go.Proofs.YtcoclopllbfjcaaGreatDoor
namespace Go.Proofs.YtcoclopllbfjcaaGreatDoor
set_option linter.unusedVariables false
set_option linter.unusedSimpArgs false
open Go.RowKit
structure ParZ (W0 : World) (a0 : Act) (m n : Nat) (slot bx : Nat → Tmp) (vs : Nat → Nat) (T : TypeId) (zs : Array Value) (V : Nat → World → Value → Prop) (listed : Array Bool) (a : Act) (w : World) : Prop where
  below : Below W0.heap.size W0 w
  size : a.tmps.size = a0.tmps.size
  defers : a.defers = a0.defers
  other : ∀ s, (∀ j, j < m → s ≠ slot j) → (∀ k, k < n → s ≠ bx k) → a.tmps[s]? = a0.tmps[s]?
  val : ∀ j, j < m → listed.getD j false = true → ∃ u, a.tmps[slot j]? = some u ∧ V j w u
  box : ∀ k, k < n → listed.getD (m + k) false = true → ∃ g cs, a.tmps[bx k]? = some (.pointer (some ⟨g, 0, none⟩)) ∧ W0.heap.size ≤ g ∧ w.heap[g]? = some (.cells cs T (0, 0)) ∧ cs.size = zs.size ∧
    (listed.getD (m + n + k) false = true → a.tmps[slot (vs k)]? = some (.agg cs)) ∧ (listed.getD (m + n + k) false = false → cs = zs)
  apart : ∀ k k', k < n → k' < n → k ≠ k' → listed.getD (m + k) false = true → listed.getD (m + k') false = true → a.tmps[bx k]? ≠ a.tmps[bx k']?
  stored : ∀ k, k < n → listed.getD (m + n + k) false = true → listed.getD (m + k) false = true ∧ listed.getD (vs k) false = true
theorem parz_region {P : Program} {ops : Array Oper} {Q : Exit → Act → World → Prop} {id : Nat} (hm : P.follows .mixedOrders = true) (m n : Nat) (slot bx : Nat → Tmp) (vs : Nat → Nat) (dep : Nat → List Nat) (T : TypeId) (zs : Array Value)
    (W0 : World) (a0 : Act) (V : Nat → World → Value → Prop) (hsz : ops.size = m + n + n)
    (hord : ∀ (i : Nat) (o : Oper), ops[i]? = some o → ∀ e ∈ o.after, e.on < i)
    (hV1 : ∀ j w w' u, Below w.heap.size w w' → V j w u → V j w' u)
    (hV2 : ∀ j w u g cs', w.heap[g]? = some (.cells zs T (0, 0)) → V j w u → V j (w.setRow g cs') u)
    (hVs : ∀ k, k < n → ∀ w u, V (vs k) w u → ∃ cs : Array Value, u = .agg cs ∧ cs.size = zs.size ∧ cs.all (·.oneCell') = true)
    (hdep : ∀ j, j < m → ∀ j' ∈ dep j, j' < m ∧ ∀ o, ops[j]? = some o → ∃ e ∈ o.after, e.on = j' ∧ Region.binds .any e = true)
    (hA : ∀ j, j < m → ∀ (a : Act) (w : World), Below W0.heap.size W0 w → (∀ s, (∀ j, j < m → s ≠ slot j) → (∀ k, k < n → s ≠ bx k) → a.tmps[s]? = a0.tmps[s]?) →
      (∀ j' ∈ dep j, ∃ u, a.tmps[slot j']? = some u ∧ V j' w u) → wpOp P ops Q j (fun a' w' => ∃ u, a' = a.put (some (slot j)) u ∧ V j w' u ∧ Below w.heap.size w w') a w)
    (hal : ∀ k, k < n → ∃ o, ops[m + k]? = some o ∧ o.guard = none ∧ o.op = .alloc T ∧ o.dst = some (bx k))
    (hz : ∀ w, (zeroValue T).run P w = .ok (.agg zs) w) (hi : (P.info? T).map (·.size) = some zs.size)
    (hst : ∀ k, k < n → vs k < m ∧ ∃ o, ops[m + n + k]? = some o ∧ o.guard = none ∧ o.op = .store T (.tmp (bx k)) (.tmp (slot (vs k))) ∧ o.dst = none ∧ (∃ e ∈ o.after, e.on = m + k ∧ Region.binds .any e = true) ∧ (∃ e ∈ o.after, e.on = vs k ∧ Region.binds .any e = true))
    (hin : ∀ j, j < m → slot j < a0.tmps.size) (hbin : ∀ k, k < n → bx k < a0.tmps.size)
    (hinj : ∀ j j', j < m → j' < m → slot j = slot j' → j = j') (hbinj : ∀ k k', k < n → k' < n → bx k = bx k' → k = k') (hsb : ∀ j k, j < m → k < n → slot j ≠ bx k)
    (hQ : ∀ (u : Nat → Value) (g : Nat → Nat) (a : Act) (w : World), Below W0.heap.size W0 w → (∀ j, j < m → a.tmps[slot j]? = some (u j) ∧ V j w (u j)) →
      (∀ k, k < n → a.tmps[bx k]? = some (.pointer (some ⟨g k, 0, none⟩)) ∧ W0.heap.size ≤ g k ∧ ∃ cs, u (vs k) = .agg cs ∧ w.heap[g k]? = some (.cells cs T (0, 0))) →
      a.tmps.size = a0.tmps.size → a.defers = a0.defers → (∀ s, (∀ j, j < m → s ≠ slot j) → (∀ k, k < n → s ≠ bx k) → a.tmps[s]? = a0.tmps[s]?) → Q .normal a w) :
    (Code.region id ops true).wp P Q a0 W0 := by
  refine wp_region_any hm ?_
  refine wpAny_inv (ParZ W0 a0 m n slot bx vs T zs V) ?_ ?_ ops.size _ a0 _ (by simp) ?_ (by simp)
  · -- a step
    intro listed a w i hl hI hr
    obtain ⟨hun, o, ho, hall⟩ := mem_ready.1 hr
    have hunf := not_listed hun
    have hio : i < ops.size := (Array.getElem?_eq_some_iff.1 ho).1
    have hil : i < listed.size := by omega
    have hset := listed_set hil
    have hne : ∀ x, x ≠ i → (listed.setIfInBounds i true).getD x false = listed.getD x false := fun x hx => getD_set_ne false (Ne.symm hx)
    have hpart : i < m ∨ (∃ k, k < n ∧ i = m + k) ∨ ∃ k, k < n ∧ i = m + n + k := by
      by_cases h1 : i < m
      · exact .inl h1
      · by_cases h2 : i < m + n
        · exact .inr (.inl ⟨i - m, by omega, by omega⟩)
        · exact .inr (.inr ⟨i - m - n, by omega, by omega⟩)
    rcases hpart with him | ⟨k, hk, rfl⟩ | ⟨k, hk, rfl⟩
    · refine wpOp_mono ?_ (hA i him a w hI.below hI.other fun j' hj' => ?_)
      · rintro a' w' ⟨u, rfl, hu, hb⟩
        have hlt : slot i < a.tmps.size := by rw [hI.size]; exact hin i him
        refine ⟨hI.below.trans (hb.mono hI.below.size), by rw [put_size]; exact hI.size, by rw [put_defers]; exact hI.defers, fun s h1 h2 => ?_, fun j hj h1 => ?_, fun k hk h1 => ?_, fun k k' hk hk' hkk h1 h2 => ?_, fun k hk h1 => ?_⟩
        · rw [put_get_ne (h1 i him)]; exact hI.other s h1 h2
        · by_cases e : j = i
          · subst e; exact ⟨u, put_get hlt, hu⟩
          · rw [hne j e] at h1
            obtain ⟨u', g1, g2⟩ := hI.val j hj h1
            exact ⟨u', by rw [put_get_ne (fun e2 => e (hinj j i hj him e2))]; exact g1, hV1 _ _ _ _ hb g2⟩
        · rw [hne _ (by omega)] at h1
          obtain ⟨g, cs, g1, g2, g3, g4, g5, g6⟩ := hI.box k hk h1
          refine ⟨g, cs, by rw [put_get_ne (Ne.symm (hsb i k him hk))]; exact g1, g2, (hb.block g (Array.getElem?_eq_some_iff.1 g3).1).trans g3, g4, fun h2 => ?_, fun h2 => g6 (by rw [← hne (m + n + k) (by omega)]; exact h2)⟩
          rw [hne _ (by omega)] at h2
          have h3 := (hI.stored k hk h2).2
          have h4 : vs k ≠ i := fun e => by rw [e, hunf] at h3; cases h3
          rw [put_get_ne (fun e2 => h4 (hinj _ _ (hst k hk).1 him e2))]
          exact g5 h2
        · rw [hne _ (by omega)] at h1 h2
          rw [put_get_ne (Ne.symm (hsb i k him hk)), put_get_ne (Ne.symm (hsb i k' him hk'))]
          exact hI.apart k k' hk hk' hkk h1 h2
        · rw [hne _ (by omega)] at h1
          obtain ⟨h2, h3⟩ := hI.stored k hk h1
          exact ⟨by rw [hne _ (by omega)]; exact h2, getD_set_true h3⟩
      · obtain ⟨h1, h2⟩ := hdep i him j' hj'
        obtain ⟨e, he, rfl, hbd⟩ := h2 o ho
        exact hI.val _ h1 (hall e he hbd)
    · obtain ⟨o', ho', hg, hop, hd⟩ := hal k hk
      refine step_alloc ho' hg hop hz ?_
      rw [hd]
      have hlt : bx k < a.tmps.size := by rw [hI.size]; exact hbin k hk
      have hbw : Below w.heap.size w (w.alloc (.cells zs T)) := (Below.refl _ _).alloc (Nat.le_refl _) _
      refine ⟨hI.below.trans (hbw.mono hI.below.size), by rw [put_size]; exact hI.size, by rw [put_defers]; exact hI.defers, fun s h1 h2 => ?_, fun j hj h1 => ?_, fun k1 hk1 h1 => ?_, fun k1 k2 hk1 hk2 hkk h1 h2 => ?_, fun k1 hk1 h1 => ?_⟩
      · rw [put_get_ne (h2 k hk)]; exact hI.other s h1 h2
      · rw [hne j (by omega)] at h1
        obtain ⟨u', g1, g2⟩ := hI.val j hj h1
        exact ⟨u', by rw [put_get_ne (hsb j k hj hk)]; exact g1, hV1 _ _ _ _ hbw g2⟩
      · by_cases e : k1 = k
        · subst e
          refine ⟨w.heap.size, zs, put_get hlt, hI.below.size, heap_alloc_new _ _, rfl, fun h2 => ?_, fun _ => rfl⟩
          rw [hne _ (by omega)] at h2
          have := (hI.stored k1 hk h2).1
          rw [hunf] at this
          cases this
        · rw [hne _ (by omega)] at h1
          obtain ⟨g, cs, g1, g2, g3, g4, g5, g6⟩ := hI.box k1 hk1 h1
          refine ⟨g, cs, by rw [put_get_ne (fun e2 => e (hbinj _ _ hk1 hk e2))]; exact g1, g2, (hbw.block g (Array.getElem?_eq_some_iff.1 g3).1).trans g3, g4, fun h2 => ?_, fun h2 => g6 (by rw [← hne (m + n + k1) (by omega)]; exact h2)⟩
          rw [hne _ (by omega)] at h2
          rw [put_get_ne (hsb _ k (hst k1 hk1).1 hk)]
          exact g5 h2
      · have old : ∀ k1, k1 < n → k1 ≠ k → listed.getD (m + k1) false = true → a.tmps[bx k1]? ≠ some (.pointer (some ⟨w.heap.size, 0, none⟩)) := fun k1 hk1 e h1 h2 => by
          obtain ⟨g, cs, g1, g2, g3, g4, g5, g6⟩ := hI.box k1 hk1 h1
          have hlt := (Array.getElem?_eq_some_iff.1 g3).1
          rw [g1] at h2
          simp only [Option.some.injEq, Value.pointer.injEq, Addr.mk.injEq] at h2
          omega
        by_cases e1 : k1 = k
        · subst e1
          rw [hne _ (by omega)] at h2
          rw [put_get hlt, put_get_ne (fun e2 => hkk (hbinj _ _ hk hk2 e2.symm))]
          exact Ne.symm (old k2 hk2 (Ne.symm hkk) h2)
        · rw [hne _ (by omega)] at h1
          by_cases e2 : k2 = k
          · subst e2
            rw [put_get hlt, put_get_ne (fun e2 => e1 (hbinj _ _ hk1 hk e2))]
            exact old k1 hk1 e1 h1
          · rw [hne _ (by omega)] at h2
            rw [put_get_ne (fun e3 => e1 (hbinj _ _ hk1 hk e3)), put_get_ne (fun e3 => e2 (hbinj _ _ hk2 hk e3))]
            exact hI.apart k1 k2 hk1 hk2 hkk h1 h2
      · rw [hne _ (by omega)] at h1
        obtain ⟨h2, h3⟩ := hI.stored k1 hk1 h1
        exact ⟨getD_set_true h2, getD_set_true h3⟩
    · obtain ⟨hvm, o', ho', hg, hop, hd, ⟨e1, he1, hon1, hb1⟩, e2, he2, hon2, hb2⟩ := hst k hk
      obtain rfl : o' = o := Option.some.inj (ho'.symm.trans ho)
      have l1 := hall e1 he1 hb1
      have l2 := hall e2 he2 hb2
      rw [hon1] at l1
      rw [hon2] at l2
      obtain ⟨u, hu1, hu2⟩ := hI.val _ hvm l2
      obtain ⟨cs, rfl, hc1, hc2⟩ := hVs k hk w u hu2
      obtain ⟨g, old, g1, g2, g3, g4, g5, g6⟩ := hI.box k hk l1
      rw [g6 hunf] at g3 g4
      refine step_store ho' hg hop g1 hu1 g3 (by rw [hc1]; exact hi) (by omega) hc2 ?_
      rw [hd]
      show ParZ W0 a0 m n slot bx vs T zs V _ a _
      refine ⟨below_row hI.below g2 _, hI.size, hI.defers, hI.other, fun j hj h1 => ?_, fun k1 hk1 h1 => ?_, fun k1 k2 hk1 hk2 hkk h1 h2 => ?_, fun k1 hk1 h1 => ?_⟩
      · rw [hne j (by omega)] at h1
        obtain ⟨u', q1, q2⟩ := hI.val j hj h1
        exact ⟨u', q1, hV2 _ _ _ _ _ g3 q2⟩
      · rw [hne _ (by omega)] at h1
        by_cases e : k1 = k
        · subst e
          exact ⟨g, cs, g1, g2, setRow_heap w g _ cs T _ g3, hc1, fun _ => hu1, fun h2 => by rw [hset] at h2; cases h2⟩
        · obtain ⟨g', cs', q1, q2, q3, q4, q5, q6⟩ := hI.box k1 hk1 h1
          have hgg : g' ≠ g := fun e2 => by
            subst e2
            exact hI.apart k1 k hk1 hk e h1 l1 (q1.trans g1.symm)
          refine ⟨g', cs', q1, q2, (setRow_other w g g' cs hgg).trans q3, q4, fun h2 => ?_, fun h2 => q6 (by rw [← hne (m + n + k1) (by omega)]; exact h2)⟩
          rw [hne _ (by omega)] at h2
          exact q5 h2
      · rw [hne _ (by omega)] at h1 h2
        exact hI.apart k1 k2 hk1 hk2 hkk h1 h2
      · by_cases e : k1 = k
        · subst e
          exact ⟨getD_set_true l1, getD_set_true l2⟩
        · rw [hne _ (by omega)] at h1
          obtain ⟨h2, h3⟩ := hI.stored k1 hk1 h1
          exact ⟨getD_set_true h2, getD_set_true h3⟩
  · -- the end: all have come up
    intro listed a w hl hI hr
    have hfull : ∀ i, i < ops.size → listed.getD i false = true := by
      intro i
      induction i using Nat.strongRecOn with
      | _ i ih =>
        intro hi
        cases hx : listed.getD i false with
        | true => rfl
        | false =>
          exfalso
          have ho : ops[i]? = some ops[i] := Array.getElem?_eq_getElem hi
          have : i ∈ Region.ready .any ops listed := by
            refine mem_ready.2 ⟨?_, ops[i], ho, fun e he _ => ih e.on (hord i _ ho e he) (Nat.lt_trans (hord i _ ho e he) hi)⟩
            have hil : i < listed.size := by omega
            simp only [Array.getD_eq_getD_getElem?, Array.getElem?_eq_getElem hil, Option.getD_some] at hx ⊢
            exact hx
          rw [hr] at this
          cases this
    have hval : ∀ j, ∃ u, j < m → a.tmps[slot j]? = some u ∧ V j w u := fun j => by
      by_cases hj : j < m
      · obtain ⟨u, h1, h2⟩ := hI.val j hj (hfull j (by omega))
        exact ⟨u, fun _ => ⟨h1, h2⟩⟩
      · exact ⟨undef, fun h => absurd h hj⟩
    obtain ⟨u, hu⟩ := Classical.axiomOfChoice hval
    have hbox : ∀ k, ∃ g, k < n → a.tmps[bx k]? = some (.pointer (some ⟨g, 0, none⟩)) ∧ W0.heap.size ≤ g ∧ ∃ cs, u (vs k) = .agg cs ∧ w.heap[g]? = some (.cells cs T (0, 0)) := fun k => by
      by_cases hk : k < n
      · obtain ⟨g, cs, h1, h2, h3, h4, h5, -⟩ := hI.box k hk (hfull _ (by omega))
        refine ⟨g, fun _ => ⟨h1, h2, cs, ?_, h3⟩⟩
        have h6 := h5 (hfull _ (by omega))
        rw [(hu _ (hst k hk).1).1] at h6
        exact Option.some.inj h6
      · exact ⟨0, fun h => absurd h hk⟩
    obtain ⟨g, hg⟩ := Classical.axiomOfChoice hbox
    exact hQ u g a w hI.below hu hg hI.size hI.defers hI.other
  · -- the start
    have h0 : ∀ x, (Array.replicate ops.size false).getD x false = true → False := fun x h => by
      simp [Array.getD_eq_getD_getElem?, Array.getElem?_replicate] at h
      split at h <;> simp at h
    exact ⟨(Below.refl _ _).drew, rfl, rfl, fun _ _ _ => rfl, fun j _ h => (h0 _ h).elim, fun k _ h => (h0 _ h).elim, fun k k' _ _ _ h => (h0 _ h).elim, fun k _ h => (h0 _ h).elim⟩
end Go.Proofs.YtcoclopllbfjcaaGreatDoor
