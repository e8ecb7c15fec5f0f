/- Own work: contracts of the program's functions, part 13: SP5 SQ2 SQ3 SQ1 SP1 SP2 SP3 SP4 SQ4 SQ5 SS1 SS2 SS3 SS4 SR1 SS5 SS6 ST1. -/
import Derived.Test.YtlicjplmcepbnaaGreatDoorA12
import Derived.Test.YtlicjplmcepbnaaGreatDoorA9
import Derived.Test.YtlicjplmcepbnaaGreatDoorA11
import Derived.Test.YtlicjplmcepbnaaGreatDoorA3
import Derived.Test.YtlicjplmcepbnaaGreatDoorA8
import Derived.Test.YtlicjplmcepbnaaGreatDoorA6
import Derived.Test.YtlicjplmcepbnaaGreatDoorA7

/- The program's powers and square roots of intervals, walked. -/
namespace Go.Proofs.YtlicjplmcepbnaaGreatDoor
set_option linter.unusedVariables false
set_option linter.unusedSimpArgs false
open Go.RowKit Go.Fl64
attribute [local go_sem] run_store_flt

theorem iv_other {W : World} {g k a b : Nat} (h : IvB W k a b) (c d : Nat) (hk : k ≠ g) : IvB ((W.setCell ⟨g, 0, none⟩ (.float .f64 c)).setCell ⟨g, 1, none⟩ (.float .f64 d)) k a b := by
  unfold IvB at *
  have h' : ¬ g = k := fun e => hk e.symm
  simp [World.setCell, Array.getElem?_modify, h', h]
set_option maxHeartbeats 4000000 in
set_option maxRecDepth 200000 in
theorem spow_no (a b : Nat) (n : Int) (v : Bool) (w : World) (hr : v = false ∨ n < 0 ∨ 1024 < n)
    (k0 : ∀ W, Calls Tryz.prog 24 #[.agg #[.float .f64 a, .float .f64 b]] W fun r w' => r = .returned (.bool v) ∧ Below W.heap.size W w') :
    Calls Tryz.prog 9 #[.agg #[.float .f64 a, .float .f64 b], .int .i64 n] w fun r w' => r = .returned (.tuple #[.agg #[.float .f64 0, .float .f64 0], .int .i64 1]) ∧ Below w.heap.size w w' := by
  obtain ⟨W, hW⟩ : ∃ W, W = ((w.alloc (.cells #[.float .f64 a, .float .f64 b] 24)).alloc (.cells #[.float .f64 0, .float .f64 0] 24)) := ⟨_, rfl⟩
  have HX : Hid (Below w.heap.size w W ∧ IvB W (w.heap.size) a b ∧ IvB W (w.heap.size + 1) 0 0) := by
    rw [hW]
    exact ⟨bxs2_0 w a b 0 0, bxs2_1 w a b 0 0, bxs2_2 w a b 0 0⟩
  have HK : Hid (∀ w', Below W.heap.size W w' → IvF w' (w.heap.size) a b ∧ IvF w' (w.heap.size + 1) 0 0) := fun w' hb => ⟨(HX.out.2.1).later hb, (HX.out.2.2).later hb⟩
  obtain ⟨⟨c0, c1, z0, z1⟩, ⟨c2, c3, z2, z3⟩⟩ := HK.out W (Below.refl _ _)
  have kk := k0 W
  clear k0
  go_enter Tryz.func9, Tryz.ntmps9
  go_upto_region 1 with fail
  rw [← hW]
  clear hW
  go_wp2_with fail
  refine kk.mono ?_
  rintro r w0 ⟨rfl, hb2⟩
  clear kk c0 z0 c1 z1 c2 z2 c3 z3
  obtain ⟨⟨c0, c1, z0, z1⟩, ⟨c2, c3, z2, z3⟩⟩ := HK.out w0 hb2
  have HB : Hid (Below w.heap.size w w0) := HX.out.1.trans (hb2.mono HX.out.1.size)
  have HR : Hid (IvB w0 (w.heap.size + 1) 0 0) := HX.out.2.2.box hb2
  clear hb2 HK HX
  by_cases hv : v = false
  · subst hv
    go_wp2
    refine bodyPost_ret (results_cell_tmp_row rfl _ _ (w.heap.size + 1) 24 #[.float .f64 0, .float .f64 0] (0, 0) _ rfl (HR.out.set _ _) Tryz.underlying24 rfl iv_info) rfl ?_
    exact ⟨rfl, below_store2 HB.out (by omega) _ _⟩
  · have hv' : v = true := by cases v <;> simp_all
    subst hv'
    by_cases hn : n < 0
    · clear hr
      go_wp2
      refine bodyPost_ret (results_cell_tmp_row rfl _ _ (w.heap.size + 1) 24 #[.float .f64 0, .float .f64 0] (0, 0) _ rfl (HR.out.set _ _) Tryz.underlying24 rfl iv_info) rfl ?_
      exact ⟨rfl, below_store2 HB.out (by omega) _ _⟩
    · have hn2 : 1024 < n := by rcases hr with h | h | h; (exact absurd h hv); omega; exact h
      clear hr
      go_wp2
      refine bodyPost_ret (results_cell_tmp_row rfl _ _ (w.heap.size + 1) 24 #[.float .f64 0, .float .f64 0] (0, 0) _ rfl (HR.out.set _ _) Tryz.underlying24 rfl iv_info) rfl ?_
      exact ⟨rfl, below_store2 HB.out (by omega) _ _⟩
set_option maxHeartbeats 4000000 in
set_option maxRecDepth 200000 in
theorem spow_1 (a b c d n p q x y : Nat) (w : World) (hn : n ≤ 1024)
    (k0 : ∀ W, Calls Tryz.prog 24 #[.agg #[.float .f64 a, .float .f64 b]] W fun r w' => r = .returned (.bool true) ∧ Below W.heap.size W w')
    (km : n % 2 = 0 → ∀ W, Below w.heap.size w W → Calls Tryz.prog 25 #[.agg #[.float .f64 a, .float .f64 b]] W fun r w' => r = .returned (.agg #[.float .f64 c, .float .f64 d]) ∧ Below W.heap.size W w')
    (ko : n % 2 = 1 → c = a ∧ d = b)
    (k1 : ∀ W, Below w.heap.size w W → Calls Tryz.prog 27 #[.float .f64 c, .int .i64 n, .int .i64 1] W fun r w' => r = .returned (.float .f64 p) ∧ Below W.heap.size W w')
    (k2 : ∀ W, Below w.heap.size w W → Calls Tryz.prog 27 #[.float .f64 d, .int .i64 n, .int .i64 3] W fun r w' => r = .returned (.float .f64 q) ∧ Below W.heap.size W w')
    (k3 : ∀ W, Below w.heap.size w W → Calls Tryz.prog 26 #[.float .f64 p, .float .f64 q] W fun r w' => r = .returned (.agg #[.float .f64 x, .float .f64 y]) ∧ Below W.heap.size W w') :
    Calls Tryz.prog 9 #[.agg #[.float .f64 a, .float .f64 b], .int .i64 n] w fun r w' => r = .returned (.tuple #[.agg #[.float .f64 x, .float .f64 y], .int .i64 0]) ∧ Below w.heap.size w w' := by
  have hn0 : ¬ (n : Int) < 0 := by omega
  have hn1 : ¬ 1024 < (n : Int) := by omega
  have htm : (n : Int).tmod 2 = ((n % 2 : Nat) : Int) := by rw [Int.tmod_eq_emod_of_nonneg (by omega)]; rfl
  obtain ⟨W, hW⟩ : ∃ W, W = ((w.alloc (.cells #[.float .f64 a, .float .f64 b] 24)).alloc (.cells #[.float .f64 0, .float .f64 0] 24)) := ⟨_, rfl⟩
  have HX : Hid (Below w.heap.size w W ∧ IvB W (w.heap.size) a b ∧ IvB W (w.heap.size + 1) 0 0) := by
    rw [hW]
    exact ⟨bxs2_0 w a b 0 0, bxs2_1 w a b 0 0, bxs2_2 w a b 0 0⟩
  have HK : Hid (∀ w', Below W.heap.size W w' → IvF w' (w.heap.size) a b ∧ IvF w' (w.heap.size + 1) 0 0) := fun w' hb => ⟨(HX.out.2.1).later hb, (HX.out.2.2).later hb⟩
  obtain ⟨⟨c0, c1, z0, z1⟩, ⟨c2, c3, z2, z3⟩⟩ := HK.out W (Below.refl _ _)
  have kk := k0 W
  clear k0
  go_enter Tryz.func9, Tryz.ntmps9
  go_upto_region 1 with fail
  rw [← hW]
  clear hW
  go_wp2_with fail
  refine kk.mono ?_
  rintro r w0 ⟨rfl, hb2⟩
  clear kk c0 z0 c1 z1 c2 z2 c3 z3
  obtain ⟨⟨c0, c1, z0, z1⟩, ⟨c2, c3, z2, z3⟩⟩ := HK.out w0 hb2
  rcases (show n % 2 = 0 ∨ n % 2 = 1 by omega) with hpar | hpar
  · rw [hpar] at htm
    have km' := km hpar w0 (HX.out.1.trans (hb2.mono HX.out.1.size))
    clear km ko
    go_wp2_with fail
    refine km'.mono ?_
    rintro r w1 ⟨rfl, hb3⟩
    have hb4 : Below W.heap.size W w1 := hb2.trans (hb3.mono hb2.size)
    clear c0 z0 c1 z1 c2 z2 c3 z3 km' hb2 hb3
    obtain ⟨⟨c0, c1, z0, z1⟩, ⟨c2, c3, z2, z3⟩⟩ := HK.out w1 hb4
    obtain ⟨V, hV⟩ : ∃ V, V = (w1.setCell ⟨w.heap.size, 0, none⟩ (.float .f64 c)).setCell ⟨w.heap.size, 1, none⟩ (.float .f64 d) := ⟨_, rfl⟩
    have HV : Hid (Below w.heap.size w V ∧ IvB V (w.heap.size) c d ∧ IvB V (w.heap.size + 1) 0 0) := by
      rw [hV]
      exact ⟨below_store2 (HX.out.1.trans (hb4.mono HX.out.1.size)) (Nat.le_refl _) _ _, (HX.out.2.1.box hb4).set _ _, iv_other (HX.out.2.2.box hb4) _ _ (by omega)⟩
    clear HX HK hb4
    go_upto_region 5 with fail
    rw [← hV]
    clear hV
    have HKK : Hid (∀ w', Below V.heap.size V w' → (w'.cell? ⟨w.heap.size, 0, none⟩ = some (.float .f64 c) ∧ w'.cell? ⟨w.heap.size, 1, none⟩ = some (.float .f64 d))) := fun w' hb => ⟨(HV.out.2.1.later hb).1, (HV.out.2.1.later hb).2.1⟩
    have hR : Below V.heap.size V V.drew := (Below.refl _ _).drew
    have q1 : ∀ W', Below V.heap.size V W' → Calls Tryz.prog 27 #[.float .f64 c, .int .i64 n, .int .i64 1] W' fun r w' => r = .returned (.float .f64 p) ∧ Below V.heap.size V w' := fun W' h => (k1 W' (HV.out.1.trans (h.mono HV.out.1.size))).mono fun r w' ⟨e1, e2⟩ => ⟨e1, h.trans (e2.mono h.size)⟩
    have q2 : ∀ W', Below V.heap.size V W' → Calls Tryz.prog 27 #[.float .f64 d, .int .i64 n, .int .i64 3] W' fun r w' => r = .returned (.float .f64 q) ∧ Below V.heap.size V w' := fun W' h => (k2 W' (HV.out.1.trans (h.mono HV.out.1.size))).mono fun r w' ⟨e1, e2⟩ => ⟨e1, h.trans (e2.mono h.size)⟩
    have q3 : ∀ W', Below V.heap.size V W' → Calls Tryz.prog 26 #[.float .f64 p, .float .f64 q] W' fun r w' => r = .returned (.agg #[.float .f64 x, .float .f64 y]) ∧ Below V.heap.size V w' ∧ (w'.cell? ⟨w.heap.size + 1, 0, none⟩ = some (.float .f64 0) ∧ w'.cell? ⟨w.heap.size + 1, 1, none⟩ = some (.float .f64 0) ∧ w'.frozen? ⟨w.heap.size + 1, 0, none⟩ = false ∧ w'.frozen? ⟨w.heap.size + 1, 1, none⟩ = false) := fun W' h => (k3 W' (HV.out.1.trans (h.mono HV.out.1.size))).mono fun r w' ⟨e1, e2⟩ => ⟨e1, h.trans (e2.mono h.size), HV.out.2.2.later (h.trans (e2.mono h.size))⟩
    clear k1 k2 k3 c0 c1 c2 c3 z0 z1 z2 z3
    obtain ⟨c0, c1⟩ := HKK.out V (Below.refl _ _)
    go_region_held3 (fun w' => (w'.cell? ⟨w.heap.size, 0, none⟩ = some (.float .f64 c) ∧ w'.cell? ⟨w.heap.size, 1, none⟩ = some (.float .f64 d))) (first | (with_reducible assumption) | exact HKK.out _ hR | (refine HKK.out _ ?_; with_reducible assumption) | (refine ⟨?_, ?_⟩ <;> (change World.cell? (World.setCell (World.setCell _ _ _) _ _) _ = _; rw [World.cell?_setCell_other _ _ _ _ (by first | (simp; done) | (simp; omega)), World.cell?_setCell_other _ _ _ _ (by first | (simp; done) | (simp; omega))]; first | exact (HKK.out _ hb7).1 | exact (HKK.out _ hb7).2)))
      (first | (go_at_call 27; with_reducible refine (q1 _ (by first | (with_reducible assumption) | exact hR)).mono ?_; rintro r w5 ⟨rfl, hb5⟩)
             | (go_at_call 27; with_reducible refine (q2 _ (by first | (with_reducible assumption) | exact hR)).mono ?_; rintro r w6 ⟨rfl, hb6⟩)
             | (go_at_call 26; with_reducible refine (q3 _ (by first | (with_reducible assumption) | exact hR)).mono ?_; rintro r w7 ⟨rfl, hb7, x0, x1, x2, x3⟩))
    have HB : Hid (Below w.heap.size w w7) := HV.out.1.trans (hb7.mono HV.out.1.size)
    have HR : Hid (IvB w7 (w.heap.size + 1) 0 0) := HV.out.2.2.box hb7
    clear q1 q2 q3 HKK HV hR hb7 x0 x1 x2 x3 c0 c1
    go_wp2_with fail
    refine bodyPost_ret (results_cell_tmp_row rfl _ _ (w.heap.size + 1) 24 #[.float .f64 x, .float .f64 y] (0, 0) _ rfl (HR.out.set _ _) Tryz.underlying24 rfl iv_info) rfl ?_
    first | exact ⟨rfl, below_store2 HB.out (by omega) _ _⟩ | exact ⟨rfl, (below_store2 HB.out (by omega) _ _).drew⟩
  · rw [hpar] at htm
    obtain ⟨rfl, rfl⟩ := ko hpar
    have HV : Hid (Below w.heap.size w w0 ∧ IvB w0 (w.heap.size) c d ∧ IvB w0 (w.heap.size + 1) 0 0) := ⟨HX.out.1.trans (hb2.mono HX.out.1.size), HX.out.2.1.box hb2, HX.out.2.2.box hb2⟩
    clear HX HK hb2 km ko
    have HKK : Hid (∀ w', Below w0.heap.size w0 w' → (w'.cell? ⟨w.heap.size, 0, none⟩ = some (.float .f64 c) ∧ w'.cell? ⟨w.heap.size, 1, none⟩ = some (.float .f64 d))) := fun w' hb => ⟨(HV.out.2.1.later hb).1, (HV.out.2.1.later hb).2.1⟩
    have hR : Below w0.heap.size w0 w0.drew := (Below.refl _ _).drew
    have q1 : ∀ W', Below w0.heap.size w0 W' → Calls Tryz.prog 27 #[.float .f64 c, .int .i64 n, .int .i64 1] W' fun r w' => r = .returned (.float .f64 p) ∧ Below w0.heap.size w0 w' := fun W' h => (k1 W' (HV.out.1.trans (h.mono HV.out.1.size))).mono fun r w' ⟨e1, e2⟩ => ⟨e1, h.trans (e2.mono h.size)⟩
    have q2 : ∀ W', Below w0.heap.size w0 W' → Calls Tryz.prog 27 #[.float .f64 d, .int .i64 n, .int .i64 3] W' fun r w' => r = .returned (.float .f64 q) ∧ Below w0.heap.size w0 w' := fun W' h => (k2 W' (HV.out.1.trans (h.mono HV.out.1.size))).mono fun r w' ⟨e1, e2⟩ => ⟨e1, h.trans (e2.mono h.size)⟩
    have q3 : ∀ W', Below w0.heap.size w0 W' → Calls Tryz.prog 26 #[.float .f64 p, .float .f64 q] W' fun r w' => r = .returned (.agg #[.float .f64 x, .float .f64 y]) ∧ Below w0.heap.size w0 w' ∧ (w'.cell? ⟨w.heap.size + 1, 0, none⟩ = some (.float .f64 0) ∧ w'.cell? ⟨w.heap.size + 1, 1, none⟩ = some (.float .f64 0) ∧ w'.frozen? ⟨w.heap.size + 1, 0, none⟩ = false ∧ w'.frozen? ⟨w.heap.size + 1, 1, none⟩ = false) := fun W' h => (k3 W' (HV.out.1.trans (h.mono HV.out.1.size))).mono fun r w' ⟨e1, e2⟩ => ⟨e1, h.trans (e2.mono h.size), HV.out.2.2.later (h.trans (e2.mono h.size))⟩
    clear k1 k2 k3 c0 c1 c2 c3 z0 z1 z2 z3
    obtain ⟨c0, c1⟩ := HKK.out w0 (Below.refl _ _)
    go_upto_region 5 with fail
    go_region_held3 (fun w' => (w'.cell? ⟨w.heap.size, 0, none⟩ = some (.float .f64 c) ∧ w'.cell? ⟨w.heap.size, 1, none⟩ = some (.float .f64 d))) (first | (with_reducible assumption) | exact HKK.out _ hR | (refine HKK.out _ ?_; with_reducible assumption) | (refine ⟨?_, ?_⟩ <;> (change World.cell? (World.setCell (World.setCell _ _ _) _ _) _ = _; rw [World.cell?_setCell_other _ _ _ _ (by first | (simp; done) | (simp; omega)), World.cell?_setCell_other _ _ _ _ (by first | (simp; done) | (simp; omega))]; first | exact (HKK.out _ hb7).1 | exact (HKK.out _ hb7).2)))
      (first | (go_at_call 27; with_reducible refine (q1 _ (by first | (with_reducible assumption) | exact hR)).mono ?_; rintro r w5 ⟨rfl, hb5⟩)
             | (go_at_call 27; with_reducible refine (q2 _ (by first | (with_reducible assumption) | exact hR)).mono ?_; rintro r w6 ⟨rfl, hb6⟩)
             | (go_at_call 26; with_reducible refine (q3 _ (by first | (with_reducible assumption) | exact hR)).mono ?_; rintro r w7 ⟨rfl, hb7, x0, x1, x2, x3⟩))
    have HB : Hid (Below w.heap.size w w7) := HV.out.1.trans (hb7.mono HV.out.1.size)
    have HR : Hid (IvB w7 (w.heap.size + 1) 0 0) := HV.out.2.2.box hb7
    clear q1 q2 q3 HKK HV hR hb7 x0 x1 x2 x3 c0 c1
    go_wp2_with fail
    refine bodyPost_ret (results_cell_tmp_row rfl _ _ (w.heap.size + 1) 24 #[.float .f64 x, .float .f64 y] (0, 0) _ rfl (HR.out.set _ _) Tryz.underlying24 rfl iv_info) rfl ?_
    first | exact ⟨rfl, below_store2 HB.out (by omega) _ _⟩ | exact ⟨rfl, (below_store2 HB.out (by omega) _ _).drew⟩
set_option maxHeartbeats 4000000 in
set_option maxRecDepth 200000 in
theorem ssqrt_no (a b : Nat) (v : Bool) (w : World) (hl : v = true → (FloatKind.f64.format.order a 0 == some Ordering.lt) = true)
    (k0 : ∀ W, Calls Tryz.prog 24 #[.agg #[.float .f64 a, .float .f64 b]] W fun r w' => r = .returned (.bool v) ∧ Below W.heap.size W w') :
    Calls Tryz.prog 11 #[.agg #[.float .f64 a, .float .f64 b]] w fun r w' => r = .returned (.tuple #[.agg #[.float .f64 0, .float .f64 0], .int .i64 (if v then 7 else 1)]) ∧ Below w.heap.size w w' := by
  obtain ⟨W, hW⟩ : ∃ W, W = ((w.alloc (.cells #[.float .f64 a, .float .f64 b] 24)).alloc (.cells #[.float .f64 0, .float .f64 0] 24)) := ⟨_, rfl⟩
  have HX : Hid (Below w.heap.size w W ∧ IvB W (w.heap.size) a b ∧ IvB W (w.heap.size + 1) 0 0) := by
    rw [hW]
    exact ⟨bxs2_0 w a b 0 0, bxs2_1 w a b 0 0, bxs2_2 w a b 0 0⟩
  have HK : Hid (∀ w', Below W.heap.size W w' → IvF w' (w.heap.size) a b ∧ IvF w' (w.heap.size + 1) 0 0) := fun w' hb => ⟨(HX.out.2.1).later hb, (HX.out.2.2).later hb⟩
  obtain ⟨⟨c0, c1, z0, z1⟩, ⟨c2, c3, z2, z3⟩⟩ := HK.out W (Below.refl _ _)
  have kk := k0 W
  clear k0
  go_enter Tryz.func11, Tryz.ntmps11
  go_upto_region 1 with fail
  rw [← hW]
  clear hW
  go_wp2_with fail
  refine kk.mono ?_
  rintro r w0 ⟨rfl, hb2⟩
  clear kk c0 z0 c1 z1 c2 z2 c3 z3
  obtain ⟨⟨c0, c1, z0, z1⟩, ⟨c2, c3, z2, z3⟩⟩ := HK.out w0 hb2
  have HB : Hid (Below w.heap.size w w0) := HX.out.1.trans (hb2.mono HX.out.1.size)
  have HR : Hid (IvB w0 (w.heap.size + 1) 0 0) := HX.out.2.2.box hb2
  clear hb2 HK HX
  cases v
  · clear hl
    go_wp2
    refine bodyPost_ret (results_cell_tmp_row rfl _ _ (w.heap.size + 1) 24 #[.float .f64 0, .float .f64 0] (0, 0) _ rfl (HR.out.set _ _) Tryz.underlying24 rfl iv_info) rfl ?_
    exact ⟨rfl, below_store2 HB.out (by omega) _ _⟩
  · have hl' := hl rfl
    clear hl
    go_wp2
    refine bodyPost_ret (results_cell_tmp_row rfl _ _ (w.heap.size + 1) 24 #[.float .f64 0, .float .f64 0] (0, 0) _ rfl (HR.out.set _ _) Tryz.underlying24 rfl iv_info) rfl ?_
    exact ⟨rfl, below_store2 HB.out (by omega) _ _⟩
set_option maxHeartbeats 4000000 in
set_option maxRecDepth 200000 in
theorem ssqrt_1 (a b p q x y : Nat) (w : World) (hl : (FloatKind.f64.format.order a 0 == some Ordering.lt) = false)
    (k0 : ∀ W, Calls Tryz.prog 24 #[.agg #[.float .f64 a, .float .f64 b]] W fun r w' => r = .returned (.bool true) ∧ Below W.heap.size W w')
    (k1 : ∀ W, Below w.heap.size w W → Calls Tryz.prog 29 #[.float .f64 a, .int .i64 1] W fun r w' => r = .returned (.float .f64 p) ∧ Below W.heap.size W w')
    (k2 : ∀ W, Below w.heap.size w W → Calls Tryz.prog 29 #[.float .f64 b, .int .i64 3] W fun r w' => r = .returned (.float .f64 q) ∧ Below W.heap.size W w')
    (k3 : ∀ W, Below w.heap.size w W → Calls Tryz.prog 26 #[.float .f64 p, .float .f64 q] W fun r w' => r = .returned (.agg #[.float .f64 x, .float .f64 y]) ∧ Below W.heap.size W w') :
    Calls Tryz.prog 11 #[.agg #[.float .f64 a, .float .f64 b]] w fun r w' => r = .returned (.tuple #[.agg #[.float .f64 x, .float .f64 y], .int .i64 0]) ∧ Below w.heap.size w w' := by
  obtain ⟨W, hW⟩ : ∃ W, W = ((w.alloc (.cells #[.float .f64 a, .float .f64 b] 24)).alloc (.cells #[.float .f64 0, .float .f64 0] 24)) := ⟨_, rfl⟩
  have HX : Hid (Below w.heap.size w W ∧ IvB W (w.heap.size) a b ∧ IvB W (w.heap.size + 1) 0 0) := by
    rw [hW]
    exact ⟨bxs2_0 w a b 0 0, bxs2_1 w a b 0 0, bxs2_2 w a b 0 0⟩
  have HK : Hid (∀ w', Below W.heap.size W w' → IvF w' (w.heap.size) a b ∧ IvF w' (w.heap.size + 1) 0 0) := fun w' hb => ⟨(HX.out.2.1).later hb, (HX.out.2.2).later hb⟩
  obtain ⟨⟨c0, c1, z0, z1⟩, ⟨c2, c3, z2, z3⟩⟩ := HK.out W (Below.refl _ _)
  have kk := k0 W
  clear k0
  go_enter Tryz.func11, Tryz.ntmps11
  go_upto_region 1 with fail
  rw [← hW]
  clear hW
  go_wp2_with fail
  refine kk.mono ?_
  rintro r w0 ⟨rfl, hb2⟩
  clear kk c0 z0 c1 z1 c2 z2 c3 z3
  obtain ⟨⟨c0, c1, z0, z1⟩, ⟨c2, c3, z2, z3⟩⟩ := HK.out w0 hb2
  have HV : Hid (Below w.heap.size w w0 ∧ IvB w0 (w.heap.size) a b ∧ IvB w0 (w.heap.size + 1) 0 0) := ⟨HX.out.1.trans (hb2.mono HX.out.1.size), HX.out.2.1.box hb2, HX.out.2.2.box hb2⟩
  clear HX HK hb2
  have HKK : Hid (∀ w', Below w0.heap.size w0 w' → (w'.cell? ⟨w.heap.size, 0, none⟩ = some (.float .f64 a) ∧ w'.cell? ⟨w.heap.size, 1, none⟩ = some (.float .f64 b))) := fun w' hb => ⟨(HV.out.2.1.later hb).1, (HV.out.2.1.later hb).2.1⟩
  have hR : Below w0.heap.size w0 w0.drew := (Below.refl _ _).drew
  have q1 : ∀ W', Below w0.heap.size w0 W' → Calls Tryz.prog 29 #[.float .f64 a, .int .i64 1] W' fun r w' => r = .returned (.float .f64 p) ∧ Below w0.heap.size w0 w' := fun W' h => (k1 W' (HV.out.1.trans (h.mono HV.out.1.size))).mono fun r w' ⟨e1, e2⟩ => ⟨e1, h.trans (e2.mono h.size)⟩
  have q2 : ∀ W', Below w0.heap.size w0 W' → Calls Tryz.prog 29 #[.float .f64 b, .int .i64 3] W' fun r w' => r = .returned (.float .f64 q) ∧ Below w0.heap.size w0 w' := fun W' h => (k2 W' (HV.out.1.trans (h.mono HV.out.1.size))).mono fun r w' ⟨e1, e2⟩ => ⟨e1, h.trans (e2.mono h.size)⟩
  have q3 : ∀ W', Below w0.heap.size w0 W' → Calls Tryz.prog 26 #[.float .f64 p, .float .f64 q] W' fun r w' => r = .returned (.agg #[.float .f64 x, .float .f64 y]) ∧ Below w0.heap.size w0 w' ∧ (w'.cell? ⟨w.heap.size + 1, 0, none⟩ = some (.float .f64 0) ∧ w'.cell? ⟨w.heap.size + 1, 1, none⟩ = some (.float .f64 0) ∧ w'.frozen? ⟨w.heap.size + 1, 0, none⟩ = false ∧ w'.frozen? ⟨w.heap.size + 1, 1, none⟩ = false) := fun W' h => (k3 W' (HV.out.1.trans (h.mono HV.out.1.size))).mono fun r w' ⟨e1, e2⟩ => ⟨e1, h.trans (e2.mono h.size), HV.out.2.2.later (h.trans (e2.mono h.size))⟩
  clear k1 k2 k3 c0 c1 c2 c3 z0 z1 z2 z3
  obtain ⟨c0, c1⟩ := HKK.out w0 (Below.refl _ _)
  go_upto_region 5 with fail
  go_region_held3 (fun w' => (w'.cell? ⟨w.heap.size, 0, none⟩ = some (.float .f64 a) ∧ w'.cell? ⟨w.heap.size, 1, none⟩ = some (.float .f64 b))) (first | (with_reducible assumption) | exact HKK.out _ hR | (refine HKK.out _ ?_; with_reducible assumption) | (refine ⟨?_, ?_⟩ <;> (change World.cell? (World.setCell (World.setCell _ _ _) _ _) _ = _; rw [World.cell?_setCell_other _ _ _ _ (by first | (simp; done) | (simp; omega)), World.cell?_setCell_other _ _ _ _ (by first | (simp; done) | (simp; omega))]; first | exact (HKK.out _ hb7).1 | exact (HKK.out _ hb7).2)))
    (first | (go_at_call 29; with_reducible refine (q1 _ (by first | (with_reducible assumption) | exact hR)).mono ?_; rintro r w5 ⟨rfl, hb5⟩)
           | (go_at_call 29; with_reducible refine (q2 _ (by first | (with_reducible assumption) | exact hR)).mono ?_; rintro r w6 ⟨rfl, hb6⟩)
           | (go_at_call 26; with_reducible refine (q3 _ (by first | (with_reducible assumption) | exact hR)).mono ?_; rintro r w7 ⟨rfl, hb7, x0, x1, x2, x3⟩))
  have HB : Hid (Below w.heap.size w w7) := HV.out.1.trans (hb7.mono HV.out.1.size)
  have HR : Hid (IvB w7 (w.heap.size + 1) 0 0) := HV.out.2.2.box hb7
  clear q1 q2 q3 HKK HV hR hb7 x0 x1 x2 x3 c0 c1
  go_wp2_with fail
  refine bodyPost_ret (results_cell_tmp_row rfl _ _ (w.heap.size + 1) 24 #[.float .f64 x, .float .f64 y] (0, 0) _ rfl (HR.out.set _ _) Tryz.underlying24 rfl iv_info) rfl ?_
  first | exact ⟨rfl, below_store2 HB.out (by omega) _ _⟩ | exact ⟨rfl, (below_store2 HB.out (by omega) _ _).drew⟩
end Go.Proofs.YtlicjplmcepbnaaGreatDoor
/- The document's powers of intervals, walked. -/
namespace Go.Proofs.YtlicjplmcepbnaaGreatDoor
set_option linter.unusedVariables false
set_option linter.unusedSimpArgs false
open Go.RowKit Go.Fl64
attribute [local go_sem] run_store_flt

end Go.Proofs.YtlicjplmcepbnaaGreatDoor
/- The document's square roots of intervals, walked. -/
namespace Go.Proofs.YtlicjplmcepbnaaGreatDoor
set_option linter.unusedVariables false
set_option linter.unusedSimpArgs false
open Go.RowKit Go.Fl64
attribute [local go_sem] run_store_flt

end Go.Proofs.YtlicjplmcepbnaaGreatDoor
/- The document's powers of ends, walked. -/
namespace Go.Proofs.YtlicjplmcepbnaaGreatDoor
set_option linter.unusedVariables false
set_option linter.unusedSimpArgs false
open Go.RowKit Go.Fl64

end Go.Proofs.YtlicjplmcepbnaaGreatDoor
/- The program's powers of numbers. -/
namespace Go.Proofs.YtlicjplmcepbnaaGreatDoor
set_option linter.unusedVariables false
set_option linter.unusedSimpArgs false
open Go.RowKit Go.Fl64

theorem pn_storeP {w : World} {A : Value} {t : Bool × Nat × Int} {g : Nat} {s : Bool} {ao : Option Addr} {n cap : Nat} {e : Int} (h : PN w A t) (hg : w.heap[g]? = some (.cells #[.bool s, .slice ao n cap, .int .i64 e] 65 (0, 0))) (a b c : Value) : PN (((w.setCell ⟨g, 0, none⟩ a).setCell ⟨g, 1, none⟩ b).setCell ⟨g, 2, none⟩ c) A t := by
  obtain ⟨oo, cc, h1, ao', cap', h2, h3, h4, h5⟩ := h
  exact ⟨oo, cc, h1, ao', cap', h2, h3, h4, at_boxP h5 hg (by simp) (by simp) (by simp) a b c⟩
theorem store3_other {w : World} {g k : Nat} (a b c : Value) (h : k ≠ g) : (((w.setCell ⟨g, 0, none⟩ a).setCell ⟨g, 1, none⟩ b).setCell ⟨g, 2, none⟩ c).heap[k]? = w.heap[k]? := by
  have h' : ¬ g = k := fun e => h e.symm
  simp [World.setCell, Array.getElem?_modify, h']
def NBx (W : World) (g : Nat) (s : Bool) (ao : Option Addr) (m cap : Nat) (e : Int) : Prop := W.heap[g]? = some (.cells #[.bool s, .slice ao m cap, .int .i64 e] 65 (0, 0))
/-- what holds between two rounds: the number's box, the answer's, the argument's -/
def RdP (w : World) (g : Nat) (t p : Bool × Nat × Int) (s0 : Bool) (ao0 : Option Addr) (m0 c0 : Nat) (e0 : Int) (wr : World) (s : Bool) (ao : Option Addr) (m cap : Nat) (e : Int) : Prop :=
  NBx wr g s ao m cap e ∧ NBx wr w.heap.size s0 ao0 m0 c0 e0 ∧ NBx wr (w.heap.size + 1) false none 0 0 0 ∧ PN wr (.agg #[.bool s, .slice ao m cap, .int .i64 e]) p ∧ Below w.heap.size w wr ∧ w.heap.size + 1 < g ∧ g < wr.heap.size
theorem RdP.next {w : World} {g : Nat} {t p q : Bool × Nat × Int} {s0 : Bool} {ao0 : Option Addr} {m0 c0 : Nat} {e0 : Int} {wr w' : World} {s s' : Bool} {ao ao' : Option Addr} {m cap m' cap' : Nat} {e e' : Int}
    (h : RdP w g t p s0 ao0 m0 c0 e0 wr s ao m cap e) (hb : Below wr.heap.size wr w') (hp : PN w' (.agg #[.bool s', .slice ao' m' cap', .int .i64 e']) q) :
    RdP w g t q s0 ao0 m0 c0 e0 (((w'.setCell ⟨g, 0, none⟩ (.bool s')).setCell ⟨g, 1, none⟩ (.slice ao' m' cap')).setCell ⟨g, 2, none⟩ (.int .i64 e')) s' ao' m' cap' e' := by
  obtain ⟨h1, h2, h3, h4, h5, h6, h7⟩ := h
  have hs := hb.size
  have b1 := box_later h1 hb h7
  refine ⟨store3 _ _ _ b1, ?_, ?_, pn_storeP hp b1 _ _ _, below_store3 (h5.trans (hb.mono h5.size)) (by omega) _ _ _, h6, by simp [World.setCell]; omega⟩
  · show _ = _
    rw [store3_other _ _ _ (by omega)]; exact box_later h2 hb (by omega)
  · show _ = _
    rw [store3_other _ _ _ (by omega)]; exact box_later h3 hb (by omega)

theorem bit_tab : ∀ k : Fin 1025, (bits BinOp.and IntKind.i64 ((k.val : Nat) : Int) 1 == 1) = (k.val % 2 == 1) := by decide +kernel
theorem bit_i64 {n q : Nat} (h : n ≤ 1024) : (bits BinOp.and IntKind.i64 ((n : Int) / 2 ^ q) 1 == 1) = (n / 2 ^ q % 2 == 1) := by
  have h1 := Nat.div_le_self n (2 ^ q)
  have h2 := bit_tab ⟨n / 2 ^ q, by omega⟩
  rw [show (n : Int) / 2 ^ q = ((n / 2 ^ q : Nat) : Int) by simp]
  exact h2
theorem two_half (n q : Nat) : n / 2 ^ (q + 1) + n / 2 ^ (q + 1) + n / 2 ^ q % 2 = n / 2 ^ q := by
  rw [Nat.pow_succ, ← Nat.div_div_eq_div_mul]; omega

set_option maxHeartbeats 4000000 in
set_option maxRecDepth 200000 in
theorem smult_1 (t : Bool × Nat × Int) (P : Nat → Bool × Nat × Int) (n L : Nat) (s0 : Bool) (ao0 : Option Addr) (m0 c0 : Nat) (e0 : Int) (w : World) (hn : n ≤ 1024) (hL : Hid (bl n = L)) (hL2 : L ≤ 11)
    (hA : PN w (.agg #[.bool s0, .slice ao0 m0 c0, .int .i64 e0]) (P 1))
    (kW : ∀ W, Below w.heap.size w W → Calls Tryz.prog 73 #[.int .i64 1] W fun r w' => OutA W (P 0) r w')
    (kM : ∀ W X Y a b, Below w.heap.size w W → PN W X (P a) → PN W Y (P b) → a + b ≤ n → Calls Tryz.prog 62 #[X, Y] W fun r w' => OutN8 W (P (a + b)) r w')
    (kL : ∀ W, Calls Tryz.prog 74 #[.int .u64 n] W fun r w' => r = .returned (.int .i64 L) ∧ w' = W) :
    Calls Tryz.prog 50 #[.agg #[.bool s0, .slice ao0 m0 c0, .int .i64 e0], .int .i64 n] w fun r w' => OutA w (P n) r w' := by
  obtain ⟨W, hW⟩ : ∃ W, W = (w.alloc (.cells #[.bool s0, .slice ao0 m0 c0, .int .i64 e0] 65)).alloc (.cells #[.bool false, .slice none 0 0, .int .i64 0] 65) := ⟨_, rfl⟩
  have hsz : W.heap.size = w.heap.size + 1 + 1 := by rw [hW]; simp
  have hBW : Below w.heap.size w W := by rw [hW]; exact ((Below.refl _ _).alloc (Nat.le_refl _) _).alloc (by simp) _
  have hA1 : NBx W w.heap.size s0 ao0 m0 c0 e0 := by
    show W.heap[w.heap.size]? = _
    rw [hW, Below.heap_alloc _ _ _ (by simp)]; exact heap_alloc_new _ _
  have hA2 : NBx W (w.heap.size + 1) false none 0 0 0 := by
    show W.heap[w.heap.size + 1]? = _
    have h := heap_alloc_new (w.alloc (.cells #[.bool s0, .slice ao0 m0 c0, .int .i64 e0] 65)) (.cells #[.bool false, .slice none 0 0, .int .i64 0] 65)
    rw [hW]; simpa using h
  have k1 := kW W hBW
  have HH : Hid (NBx W w.heap.size s0 ao0 m0 c0 e0 ∧ NBx W (w.heap.size + 1) false none 0 0 0 ∧ Below w.heap.size w W ∧ W.heap.size = w.heap.size + 1 + 1) := ⟨hA1, hA2, hBW, hsz⟩
  clear hA1 hA2 hBW hsz kW
  go_enter Tryz.func50, Tryz.ntmps50
  go_wp2_with fail
  rw [← hW]
  clear hW
  refine k1.mono ?_
  rintro r w1 ⟨s, ao, m, cap, e, rfl, hp, hb⟩
  clear k1
  obtain ⟨V, hV⟩ : ∃ V, V = w1.alloc (.cells #[.bool s, .slice ao m cap, .int .i64 e] 65) := ⟨_, rfl⟩
  obtain ⟨g, hg⟩ : ∃ g, g = w1.heap.size := ⟨_, rfl⟩
  have HR : Hid (RdP w g (P 1) (P 0) s0 ao0 m0 c0 e0 V s ao m cap e) := by
    obtain ⟨h1, h2, h3, h4⟩ := HH.out
    have hs := hb.size
    have hc : Below w1.heap.size w1 V := by rw [hV]; exact (Below.refl _ _).alloc (Nat.le_refl _) _
    refine ⟨by rw [hg, hV]; exact heap_alloc_new _ _, ?_, ?_, hp.later hc, (h3.trans (hb.mono h3.size)).trans (hc.mono (by omega)), by omega, by rw [hV, hg]; simp⟩
    · exact box_later (box_later h1 hb (by omega)) hc (by omega)
    · exact box_later (box_later h2 hb (by omega)) hc (by omega)
  go_wp2_with fail
  rw [← hV, ← hg]
  clear hV hg HH hp hb
  refine (kL _).mono ?_
  rintro r w2 ⟨rfl, rfl⟩
  go_wp2
  go_loopw [6] (fun v wr => ∃ (p : Nat) (s : Bool) (ao : Option Addr) (m cap : Nat) (e : Int), p ≤ L ∧ v = .int .i64 ((p : Int) - 1) ∧ Hid (RdP w g (P 1) (P (n / 2 ^ p)) s0 ao0 m0 c0 e0 wr s ao m cap e)) (fun v _ => (intOf v + 1).toNat)
  case atStart => exact ⟨L, s, ao, m, cap, e, Nat.le_refl _, rfl, by rw [← hL.out, Nat.div_eq_of_lt (lt_bl n)]; exact HR⟩
  case round =>
    obtain ⟨p, s, ao, m, cap, e, hp, rfl, HI⟩ := hrel
    clear HR
    by_cases h0 : 0 < p
    · obtain ⟨q, rfl⟩ : ∃ q, p = q + 1 := ⟨p - 1, by omega⟩
      have e1 : ((q + 1 : Nat) : Int) - 1 = (q : Int) := by omega
      have hq0 : (0 : Int) ≤ (q : Int) := by omega
      have hq1 : (q : Int) < 64 := by omega
      rw [e1]
      obtain ⟨⟨a0, a1, a2⟩, -⟩ := box_cells HI.out.1
      have k1 := kM wr _ _ (n / 2 ^ (q + 1)) (n / 2 ^ (q + 1)) HI.out.2.2.2.2.1 HI.out.2.2.2.1 HI.out.2.2.2.1 (by have := two_half n q; have := Nat.div_le_self n (2 ^ q); omega)
      go_wp2_with fail
      refine k1.mono ?_
      rintro r w3 ⟨s1, ao1, m1, cap1, e2, rfl, hp1, hb1⟩
      have HB3 : Hid (Below wr.heap.size wr w3) := hb1
      have HI3 : Hid (RdP w g (P 1) (P (n / 2 ^ (q + 1) + n / 2 ^ (q + 1))) s0 ao0 m0 c0 e0 (((w3.setCell ⟨g, 0, none⟩ (.bool s1)).setCell ⟨g, 1, none⟩ (.slice ao1 m1 cap1)).setCell ⟨g, 2, none⟩ (.int .i64 e2)) s1 ao1 m1 cap1 e2) := HI.out.next hb1 hp1
      clear k1 a0 a1 a2
      obtain ⟨⟨a0, a1, a2⟩, f0, f1, f2⟩ := box_cells (box_later HI.out.1 hb1 HI.out.2.2.2.2.2.2)
      clear hp1 hb1 HI HB3
      go_upto_region 6 with fail
      obtain ⟨U, hU⟩ : ∃ U, U = (((w3.setCell ⟨g, 0, none⟩ (.bool s1)).setCell ⟨g, 1, none⟩ (.slice ao1 m1 cap1)).setCell ⟨g, 2, none⟩ (.int .i64 e2)) := ⟨_, rfl⟩
      rw [← hU] at HI3 ⊢
      clear hU a0 a1 a2 f0 f1 f2
      have hbit := bit_i64 (q := q) hn
      have h2 := two_half n q
      by_cases hodd : n / 2 ^ q % 2 = 1
      · rw [show (n / 2 ^ q % 2 == 1) = true by simp [hodd]] at hbit
        obtain ⟨⟨a0, a1, a2⟩, -⟩ := box_cells HI3.out.1
        obtain ⟨⟨b0, b1, b2⟩, -⟩ := box_cells HI3.out.2.1
        have k2 := kM U _ _ (n / 2 ^ (q + 1) + n / 2 ^ (q + 1)) 1 HI3.out.2.2.2.2.1 HI3.out.2.2.2.1 (hA.later HI3.out.2.2.2.2.1) (by have := Nat.div_le_self n (2 ^ q); omega)
        rw [show n / 2 ^ (q + 1) + n / 2 ^ (q + 1) + 1 = n / 2 ^ q by omega] at k2
        clear h2
        go_wp2_with fail
        refine k2.mono ?_
        rintro r w4 ⟨s3, ao3, m3, cap3, e3, rfl, hp4, hb4⟩
        have HI4 : Hid (RdP w g (P 1) (P (n / 2 ^ q)) s0 ao0 m0 c0 e0 (((w4.setCell ⟨g, 0, none⟩ (.bool s3)).setCell ⟨g, 1, none⟩ (.slice ao3 m3 cap3)).setCell ⟨g, 2, none⟩ (.int .i64 e3)) s3 ao3 m3 cap3 e3) := HI3.out.next hb4 hp4
        clear k2 a0 a1 a2 b0 b1 b2
        obtain ⟨⟨a0, a1, a2⟩, f0, f1, f2⟩ := box_cells (box_later HI3.out.1 hb4 HI3.out.2.2.2.2.2.2)
        clear hp4 hb4 HI3 hbit hodd
        go_wp2_with fail
        exact ⟨⟨q, s3, ao3, m3, cap3, e3, by omega, rfl, HI4⟩, by simp [intOf]⟩
      · rw [show (n / 2 ^ q % 2 == 1) = false by simp [hodd]] at hbit
        rw [show n / 2 ^ (q + 1) + n / 2 ^ (q + 1) = n / 2 ^ q by omega] at HI3
        clear h2 hodd
        go_wp2_with fail
        exact ⟨⟨q, s1, ao1, m1, cap1, e2, by omega, rfl, HI3⟩, by simp [intOf]⟩
    · obtain rfl : p = 0 := by omega
      rw [Nat.pow_zero, Nat.div_one] at HI
      obtain ⟨⟨a0, a1, a2⟩, -⟩ := box_cells HI.out.1
      obtain ⟨⟨b0, b1, b2⟩, f0, f1, f2⟩ := box_cells HI.out.2.2.1
      go_wp2_with fail
      refine bodyPost_ret (results_cell_row rfl _ _ (w.heap.size + 1) 65 #[.bool s, .slice ao m cap, .int .i64 e] (0, 0) _ rfl (store3 _ _ _ HI.out.2.2.1) Tryz.underlying65 rfl Tryz.info65) rfl ?_
      exact ⟨s, ao, m, cap, e, rfl, pn_storeP HI.out.2.2.2.1 HI.out.2.2.1 _ _ _, below_store3 HI.out.2.2.2.2.1 (by omega) _ _ _⟩
end Go.Proofs.YtlicjplmcepbnaaGreatDoor
/- Powers in numbers. -/
namespace Go.Proofs.YtlicjplmcepbnaaGreatDoor
set_option linter.unusedVariables false
set_option linter.unusedSimpArgs false
open Go.RowKit Go.Fl64

/-- a number to the n -/
def pw (t : Bool × Nat × Int) (n : Nat) : Bool × Nat × Int := if t.2.1 = 0 then (false, if n = 0 then 1 else 0, 0) else (t.1 && n % 2 == 1, t.2.1 ^ n, t.2.2 * n)
theorem pow_odd {x : Nat} (h : x % 2 = 1) (n : Nat) : x ^ n % 2 = 1 := by rw [Nat.pow_mod, h, Nat.one_pow]
theorem pw_mul {t : Bool × Nat × Int} (ho : t.2.1 ≠ 0 → t.2.1 % 2 = 1) (a b : Nat) : tM (pw t a) (pw t b) = pw t (a + b) := by
  unfold pw tM
  by_cases h0 : t.2.1 = 0
  · simp only [if_pos h0]
    by_cases ha : a = 0 <;> by_cases hb : b = 0 <;> simp [ha, hb, cn, tz_odd]
  · simp only [if_neg h0]
    rw [← Nat.pow_add, cn_odd (pow_odd (ho h0) _)]
    have h1 : (!((t.1 && a % 2 == 1) == (t.1 && b % 2 == 1))) = (t.1 && (a + b) % 2 == 1) := by
      cases t.1
      · rfl
      · rcases Nat.mod_two_eq_zero_or_one a with h | h <;> rcases Nat.mod_two_eq_zero_or_one b with h' | h' <;> rw [h, h', Nat.add_mod, h, h'] <;> rfl
    have h2 : t.2.2 * (a : Int) + t.2.2 * (b : Int) = t.2.2 * ((a + b : Nat) : Int) := by rw [← Int.mul_add]; rfl
    rw [h1, h2]
theorem pw_zero (t : Bool × Nat × Int) : pw t 0 = (false, 1, 0) := by
  unfold pw
  by_cases h0 : t.2.1 = 0 <;> simp [h0]
theorem pw_one {t : Bool × Nat × Int} (h : t.2.1 = 0 → t = (false, 0, 0)) : pw t 1 = t := by
  unfold pw
  by_cases h0 : t.2.1 = 0
  · rw [if_pos h0, h h0]; rfl
  · rw [if_neg h0]; simp
theorem pw_ltk {x n k : Nat} (h : x < 9007199254740992) (hp : 0 < n) (hk : 53 * n ≤ 32 * k) : x ^ n < B ^ k := by
  have h1 : x ^ n < (2 ^ 53) ^ n := Nat.pow_lt_pow_left (by omega) (by omega)
  refine Nat.lt_of_lt_of_le h1 ?_
  rw [← Nat.pow_mul, B_two, ← Nat.pow_mul]
  exact Nat.pow_le_pow_right (by decide) hk
theorem dlen_one1 : dlen 1 ≤ 1 := (dlen_le 1 1).2 (by decide)
theorem pw_ltd {x n k : Nat} (h : x < 9007199254740992) (hp : 0 < n) (hk : 53 * n ≤ 32 * k) : dlen (x ^ n) ≤ k := (dlen_le _ _).2 (pw_ltk h hp hk)
theorem pw_lt {x n : Nat} (h : x < 9007199254740992) (hn : n ≤ 1024) : dlen (x ^ n) ≤ 1696 := by
  rcases Nat.eq_zero_or_pos n with rfl | hp
  · rw [Nat.pow_zero]; exact Nat.le_trans dlen_one1 (by decide)
  · exact pw_ltd h hp (by omega)
theorem ok_mk {s : Bool} {x : Nat} {e : Int} (ho : x % 2 = 1) (hd : dlen x ≤ 2048) (h1 : -65536 ≤ e) (h2 : e ≤ 65536) : Ok (s, x, e) := by
  unfold Ok okN
  have hx : x ≠ 0 := by omega
  rw [if_neg (fun e0 => hx (dlen_eq_zero.1 e0))]
  have g1 : (dg x (dlen x - 1) != 0) = true := by simp; exact dg_top hx
  have g2 : (dg x 0 % 2 == 1) = true := by
    have : dg x 0 % 2 = 1 := by
      unfold dg
      simp only [Nat.pow_zero, Nat.div_one]
      unfold B
      omega
    simp [this]
  show (decide (dlen x ≤ 2048) && (dg x (dlen x - 1) != 0) && (dg x 0 % 2 == 1) && decide (-65536 ≤ e) && decide (e ≤ 65536)) = true
  rw [g1, g2]
  simp [hd, h1, h2]
theorem pw_ok {s : Bool} {x n : Nat} (ho : x ≠ 0 → x % 2 = 1) (h : x < 9007199254740992) (hn : n ≤ 1024) : Ok (pw (s, x, 0) n) := by
  unfold pw
  by_cases h0 : x = 0
  · rw [if_pos h0]
    by_cases hn0 : n = 0
    · rw [if_pos hn0]; exact ok_mk rfl (Nat.le_trans dlen_one1 (by decide)) (by decide) (by decide)
    · rw [if_neg hn0]; unfold Ok; rw [dlen_zero]; rfl
  · rw [if_neg h0]
    exact ok_mk (pow_odd (ho h0) n) (Nat.le_trans (pw_lt h hn) (by decide)) (by simp) (by simp)
end Go.Proofs.YtlicjplmcepbnaaGreatDoor
/- The program's powers of floats, rounded. -/
namespace Go.Proofs.YtlicjplmcepbnaaGreatDoor
set_option linter.unusedVariables false
set_option linter.unusedSimpArgs false
open Go.RowKit Go.Fl64

set_option maxRecDepth 200000 in
theorem spower_0 (a : Nat) (m : Int) (M E : Int) (s fi : Bool) (w : World)
    (kS : Calls Tryz.prog 47 #[.float .f64 a] w fun r w' => r = .returned (.tuple #[.int .u64 M, .int .i64 E, .bool s, .bool fi]) ∧ ∃ n, w' = w.drewN n) :
    Calls Tryz.prog 27 #[.float .f64 a, .int .i64 0, .int .i64 m] w fun r w' => r = .returned (.float .f64 4607182418800017408) ∧ Below w.heap.size w w' := by
  have k := kS
  clear kS
  go_enter Tryz.func27, Tryz.ntmps27
  go_wp2_with fail
  refine k.mono ?_
  rintro r w1 ⟨rfl, d, rfl⟩
  clear k
  go_wp2
  go_ret
  exact ⟨rfl, below_drewN (Below.refl _ _) _⟩
set_option maxRecDepth 200000 in
theorem spower_i (a : Nat) (n m : Int) (M E : Int) (s : Bool) (w : World) (hn : (n == 0) = false)
    (kS : Calls Tryz.prog 47 #[.float .f64 a] w fun r w' => r = .returned (.tuple #[.int .u64 M, .int .i64 E, .bool s, .bool false]) ∧ ∃ n, w' = w.drewN n) :
    Calls Tryz.prog 27 #[.float .f64 a, .int .i64 n, .int .i64 m] w fun r w' => r = .returned (.float .f64 a) ∧ Below w.heap.size w w' := by
  have k := kS
  clear kS
  go_enter Tryz.func27, Tryz.ntmps27
  go_wp2_with fail
  refine k.mono ?_
  rintro r w1 ⟨rfl, d, rfl⟩
  clear k
  go_wp2
  go_ret
  exact ⟨rfl, below_drewN (Below.refl _ _) _⟩

set_option maxHeartbeats 4000000 in
set_option maxRecDepth 200000 in
theorem spower_1 (a n M F : Nat) (m E K d0 d1 : Int) (s : Bool) (t p q : Bool × Nat × Int) (w : World) (hn0 : ((n : Int) == 0) = false) (hM : M < 18446744073709551616)
    (hd0 : (M : Int) % 4294967296 = d0) (hd1 : (M : Int) / 4294967296 = d1) (hE1 : -4000000 ≤ E) (hE2 : E ≤ 4000000) (hn : n ≤ 1024) (hK : max (-65536) (min (E * n) 65536) = K) (hEn : IntKind.i64.wrap (E * n) = E * n)
    (kS : Calls Tryz.prog 47 #[.float .f64 a] w fun r w' => r = .returned (.tuple #[.int .u64 M, .int .i64 E, .bool s, .bool true]) ∧ ∃ n, w' = w.drewN n)
    (kK : ∀ W g, Below w.heap.size w W → W.heap[g]? = some (.cells #[.int .u32 d0, .int .u32 d1] 72 (0, 0)) → Calls Tryz.prog 48 #[.bool s, .slice (some ⟨g, 0, none⟩) 2 2, .int .i64 0] W fun r w' => OutN8 W t r w')
    (kM : ∀ W X, Below w.heap.size w W → PN W X t → Calls Tryz.prog 50 #[X, .int .i64 n] W fun r w' => OutA W p r w')
    (kH : ∀ W X, Below w.heap.size w W → PN W X p → Calls Tryz.prog 49 #[X, .int .i64 K] W fun r w' => OutN8 W q r w')
    (kR : ∀ W X, Below w.heap.size w W → PN W X q → Calls Tryz.prog 51 #[X, .int .i64 m] W fun r w' => r = .returned (.tuple #[.float .f64 F, .int .i64 0]) ∧ Below W.heap.size W w') :
    Calls Tryz.prog 27 #[.float .f64 a, .int .i64 n, .int .i64 m] w fun r w' => r = .returned (.float .f64 F) ∧ Below w.heap.size w w' := by
  have k := kS
  clear kS
  go_enter Tryz.func27, Tryz.ntmps27
  go_wp2_with fail
  refine k.mono ?_
  rintro r w1 ⟨rfl, d, hd⟩
  have HB1 : Hid (Below w.heap.size w w1) := by rw [hd]; exact below_drewN (Below.refl _ _) _
  clear k hd
  obtain ⟨W, hW⟩ : ∃ W, W = w1.alloc (.cells #[.int .u32 d0, .int .u32 d1] 72) := ⟨_, rfl⟩
  have HBW : Hid (Below w.heap.size w W) := by rw [hW]; exact HB1.out.alloc HB1.out.size _
  have k1 := kK W w1.heap.size HBW.out (by rw [hW]; exact heap_alloc_new _ _)
  clear kK
  go_wp2_with fail
  rw [← hW]
  clear hW
  refine k1.mono ?_
  rintro r w2 ⟨s2, ao2, m2, cap2, e2, rfl, hp2, hb2⟩
  have HB2 : Hid (Below w.heap.size w w2) := HBW.out.trans (hb2.mono HBW.out.size)
  clear k1 hb2 HBW HB1
  obtain ⟨V, hV⟩ : ∃ V, V = w2.alloc (.cells #[.bool s2, .slice ao2 m2 cap2, .int .i64 e2] 65) := ⟨_, rfl⟩
  have HBV : Hid (Below w.heap.size w V) := by rw [hV]; exact HB2.out.alloc HB2.out.size _
  obtain ⟨⟨a0, a1, a2⟩, -⟩ := box_cells (w := V) (g := w2.heap.size) (by rw [hV]; exact heap_alloc_new _ _)
  have k2 := kM V _ HBV.out (hp2.later (by rw [hV]; exact (Below.refl _ _).alloc (Nat.le_refl _) _))
  clear kM hp2 HB2
  go_wp2_with fail
  rw [← hV]
  clear hV
  refine k2.mono ?_
  rintro r w3 ⟨s3, ao3, m3, cap3, e3, rfl, hp3, hb3⟩
  have HB3 : Hid (Below w.heap.size w w3) := HBV.out.trans (hb3.mono HBV.out.size)
  have k3 := kH w3 _ HB3.out hp3
  clear k2 kH hp3 hb3 HBV a0 a1 a2
  go_wp2_with fail
  refine k3.mono ?_
  rintro r w4 ⟨s4, ao4, m4, cap4, e4, rfl, hp4, hb4⟩
  have HB4 : Hid (Below w.heap.size w w4) := HB3.out.trans (hb4.mono HB3.out.size)
  obtain ⟨U, hU⟩ : ∃ U, U = w4.alloc (.cells #[.bool s4, .slice ao4 m4 cap4, .int .i64 e4] 65) := ⟨_, rfl⟩
  have HBU : Hid (Below w.heap.size w U) := by rw [hU]; exact HB4.out.alloc HB4.out.size _
  obtain ⟨⟨a0, a1, a2⟩, -⟩ := box_cells (w := U) (g := w4.heap.size) (by rw [hU]; exact heap_alloc_new _ _)
  have k4 := kR U _ HBU.out (hp4.later (by rw [hU]; exact (Below.refl _ _).alloc (Nat.le_refl _) _))
  clear k3 kR hp4 hb4 HB4 HB3
  go_wp2_with fail
  rw [← hU]
  clear hU
  refine k4.mono ?_
  rintro r w5 ⟨rfl, hb5⟩
  have HB5 : Hid (Below w.heap.size w w5) := HBU.out.trans (hb5.mono HBU.out.size)
  clear k4 hb5
  go_wp2_with fail
  go_ret
  exact ⟨rfl, HB5.out⟩
end Go.Proofs.YtlicjplmcepbnaaGreatDoor
/- The program's powers of floats, joined. -/
namespace Go.Proofs.YtlicjplmcepbnaaGreatDoor
set_option linter.unusedVariables false
set_option linter.unusedSimpArgs false
open Go.RowKit Go.Fl64

theorem sM_odd {a m : Nat} (ha : a < 18446744073709551616) (hf : mag a < 9218868437227405312) (hm : Ie.sM a = (m : Int)) (h : m ≠ 0) : m % 2 = 1 ∧ m < 9007199254740992 := by
  unfold Ie.sM at hm
  rw [if_neg (by omega)] at hm
  by_cases h0 : mag a = 0
  · rw [if_pos h0] at hm; omega
  · rw [if_neg h0] at hm
    have hb := Ie.mant_bound a
    have hne := Ie.mant_ne h0
    have hct : Lib.ctz 64 (Ie.mant a) = tz (Ie.mant a) := tz_ctz hne (by omega)
    rw [hct] at hm
    have e1 : m = Ie.mant a / 2 ^ tz (Ie.mant a) := by
      have : ((Ie.mant a / 2 ^ tz (Ie.mant a) : Nat) : Int) = (m : Int) := by rw [← hm]; simp
      omega
    obtain ⟨h1, h2⟩ := tz_spec _ (Ie.mant a) (Nat.le_refl _) hne
    rw [← e1] at h2
    refine ⟨h2, ?_⟩
    have := Nat.div_le_self (Ie.mant a) (2 ^ tz (Ie.mant a))
    omega
theorem tfF_big {s : Bool} {x : Nat} {e e' m : Int} (h0 : x ≠ 0) (h1 : 1024 < (bl x : Int) + e) (h2 : 1024 < (bl x : Int) + e') (hm : 1 ≤ m ∧ m ≤ 3) : tfF s true x e m = tfF s true x e' m := by
  have hw : wyN s m = 0 ∨ wyN s m = 1 ∨ wyN s m = 2 := by unfold wyN; split <;> (try split) <;> simp
  rw [tf_bdy hm, tf_bdy hm, bdy_big h0 h1 hw, bdy_big h0 h2 hw]
theorem tfF_tiny {s : Bool} {x : Nat} {e e' m : Int} (h0 : x ≠ 0) (h1 : (bl x : Int) + e < -1075) (h2 : (bl x : Int) + e' < -1075) (hm : 1 ≤ m ∧ m ≤ 3) : tfF s true x e m = tfF s true x e' m := by
  have hw : wyN s m = 0 ∨ wyN s m = 1 ∨ wyN s m = 2 := by unfold wyN; split <;> (try split) <;> simp
  rw [tf_bdy hm, tf_bdy hm, bdy_tiny h0 h1 hw, bdy_tiny h0 h2 hw]
theorem tfF_nought {s : Bool} {e m : Int} (hm : 1 ≤ m ∧ m ≤ 3) : tfF s true 0 e m = sig s 0 := by
  rw [tf_bdy hm]; unfold bdy; rw [if_pos rfl]

/-- the power of a float, rounded -/
def pwF (a n : Nat) (m : Int) : Nat := if n = 0 then 4607182418800017408 else if fin a then toD (pw (tF a) n) m else a
theorem pw_clamp {s : Bool} {x n : Nat} {E K m : Int} (ho : x ≠ 0 → x % 2 = 1) (hx : x < 9007199254740992) (hn1 : 1 ≤ n) (hn : n ≤ 1024) (hK : max (-65536) (min (E * n) 65536) = K) (hm : 1 ≤ m ∧ m ≤ 3) :
    tfF (tSh (pw (cn s x 0) n) K).1 true (tSh (pw (cn s x 0) n) K).2.1 (tSh (pw (cn s x 0) n) K).2.2 m = toD (pw (cn s x E) n) m := by
  by_cases h0 : x = 0
  · subst h0
    have e1 : pw (cn s 0 0) n = (false, 0, 0) := by unfold pw cn; simp; omega
    have e2 : pw (cn s 0 E) n = (false, 0, 0) := by unfold pw cn; simp; omega
    rw [e1, e2]
    show tfF false true 0 0 m = 0
    rw [tfF_nought hm]; rfl
  · rw [cn_odd (ho h0), cn_odd (ho h0)]
    have hp : x ^ n ≠ 0 := by have := pow_odd (ho h0) n; omega
    unfold pw toD tSh
    simp only [if_neg h0, if_neg hp]
    rw [show (0 : Int) * (n : Int) + K = K by omega]
    have hb := pw_lt hx hn
    have hb2 := bl_le_dlen (x ^ n)
    have hb3 := bl_ne hp
    by_cases hg : 65536 < E * n
    · exact tfF_big hp (by omega) (by omega) hm
    · by_cases hl : E * n < -65536
      · exact tfF_tiny hp (by omega) (by omega) hm
      · rw [show K = E * n by omega]
theorem spower {a n : Nat} {m : Int} {w : World} (ha : a < 18446744073709551616) (hn : n ≤ 1024) (hm : 1 ≤ m ∧ m ≤ 3) (hT : Tab32 w) (hJ : Ie.Tab w) :
    Calls Tryz.prog 27 #[.float .f64 a, .int .i64 n, .int .i64 m] w fun r w' => r = .returned (.float .f64 (pwF a n m)) ∧ Below w.heap.size w w' := by
  have kS := Ie.c22 a ha w hJ
  unfold pwF
  by_cases h0 : n = 0
  · subst h0
    rw [if_pos rfl]
    exact spower_0 a m _ _ _ _ w kS
  · rw [if_neg h0]
    have hn0 : ((n : Int) == 0) = false := by simp; omega
    by_cases hf : mag a < 9218868437227405312
    · rw [show fin a = true by unfold fin; simp [hf], if_pos rfl]
      obtain ⟨x, hx, hx64⟩ := sM_lt a ha
      have hso : Ie.sO a = true := by unfold Ie.sO; rw [if_neg (by omega)]
      have hsn : Ie.sN a = neg a := by unfold Ie.sN; rw [if_neg (by omega)]
      rw [hx, hso, hsn] at kS
      have ho : x ≠ 0 → x % 2 = 1 := fun h => (sM_odd ha hf hx h).1
      have hx53 : x < 9007199254740992 := by
        by_cases h : x = 0
        · omega
        · exact (sM_odd ha hf hx h).2
      obtain ⟨hE1, hE2⟩ := sE_le a
      obtain ⟨K, hK⟩ : ∃ K, max (-65536) (min (Ie.sE a * n) 65536) = K := ⟨_, rfl⟩
      have hT1 : cn (neg a) x (Ie.sE a) = tF a := cn_parts a x ha hf hx
      have hcn : cn (neg a) x 0 = (if x = 0 then (false, 0, 0) else (neg a, x, 0)) := by
        by_cases h : x = 0
        · rw [h]; rfl
        · rw [if_neg h, cn_odd (ho h)]
      have hok : ∀ k, k ≤ 1024 → Ok (pw (cn (neg a) x 0) k) := by
        intro k hk
        rw [hcn]
        by_cases h : x = 0
        · rw [if_pos h]; exact pw_ok (fun h => absurd rfl h) (by omega) hk
        · rw [if_neg h]; exact pw_ok ho hx53 hk
      have hodd : (cn (neg a) x 0).2.1 ≠ 0 → (cn (neg a) x 0).2.1 % 2 = 1 := by
        rw [hcn]
        by_cases h : x = 0
        · rw [if_pos h]; intro h; exact absurd rfl h
        · rw [if_neg h]; exact ho
      have hz : (cn (neg a) x 0).2.1 = 0 → cn (neg a) x 0 = (false, 0, 0) := by
        rw [hcn]
        by_cases h : x = 0
        · rw [if_pos h]; intro _; rfl
        · rw [if_neg h]; intro h'; exact absurd h' h
      have h22 : (pw (cn (neg a) x 0) n).2.2 = 0 := by
        rw [hcn]; unfold pw
        by_cases h : x = 0
        · rw [if_pos h]; rfl
        · rw [if_neg h]; simp [h]
      rw [← hT1, ← pw_clamp (s := neg a) ho hx53 (by omega) hn hK hm]
      have hbE : -4096000000 ≤ Ie.sE a * n ∧ Ie.sE a * n ≤ 4096000000 := by
        have h1 : (n : Int) ≤ 1024 := by omega
        have h2 : (0 : Int) ≤ n := by omega
        constructor
        · have := Int.mul_le_mul_of_nonneg_right hE1 h2; omega
        · have := Int.mul_le_mul_of_nonneg_right hE2 h2; omega
      refine spower_1 a n x _ m (Ie.sE a) K _ _ (neg a) (cn (neg a) x 0) (pw (cn (neg a) x 0) n) (tSh (pw (cn (neg a) x 0) n) K) w hn0 hx64 rfl rfl hE1 hE2 hn hK (by rw [IntKind.wrap_i64]; omega) kS ?_ ?_ ?_ ?_
      · intro W g hW hg
        have hcell : ∀ i, i < 2 → W.cell? ⟨g, 0 + i, none⟩ = some (.int .u32 (dg x i : Nat)) := by
          intro i hi
          rcases (show i = 0 ∨ i = 1 by omega) with rfl | rfl
          · rw [show (dg x 0 : Nat) = x % 4294967296 by unfold dg B; simp]
            simp [World.cell?, hg]
          · rw [show (dg x 1 : Nat) = x / 4294967296 by unfold dg B; rw [Nat.pow_one, Nat.mod_eq_of_lt (by omega)]]
            simp [World.cell?, hg]
        have hR : okR (neg a) x 0 = true := by
          by_cases h : x = 0
          · unfold okR; rw [if_pos h]
          · exact okR_odd (ho h) (by have := hok 1 (by omega); rw [pw_one hz, hcn, if_neg h] at this; exact this)
        have key : Calls Tryz.prog 48 #[.bool (neg a), .slice (some ⟨g, 0, none⟩) 2 2, .int .i64 0] W fun r w' => Mk25 W w' (neg a) x 0 r ∧ Below W.heap.size W w' := by
          by_cases h : x = 0
          · subst h
            exact c15_0 (neg a) (some ⟨g, 0, none⟩) 2 2 0 W ⟨g, 0, fun _ => rfl, hcell⟩ (by omega) (by omega)
          · exact c15_1 (neg a) g 0 2 2 x 0 W hcell ((dlen_le 2 x).2 (by unfold B; omega)) (by omega) (by omega) (by omega) h (by omega) (hT.later hW)
        refine key.mono ?_
        rintro r w' ⟨⟨-, A, rfl, hN⟩ | ⟨h, -⟩, hb⟩
        · have hp := hN.pn
          obtain ⟨s, ao, n, cap, e, rfl⟩ := hp.shape
          exact ⟨s, ao, n, cap, e, rfl, hp, hb⟩
        · rw [hR] at h; cases h
      · intro W X hW hX
        obtain ⟨s, ao, k, cap, e, rfl⟩ := hX.shape
        refine smult_1 (cn (neg a) x 0) (pw (cn (neg a) x 0)) n (bl n) s ao k cap e W hn rfl ((bl_le _ _).2 (by omega)) (by rw [pw_one hz]; exact hX) ?_ ?_ ?_
        · intro V hV
          refine (c12 (n := 1) ((hT.later hW).later hV) (by omega)).mono ?_
          rintro r w' ⟨A, rfl, hN, hb⟩
          have hp := hN.pn
          obtain ⟨s, ao, n, cap, e, rfl⟩ := hp.shape
          rw [show (decide ((1 : Int) < 0)) = false from rfl, show Int.natAbs 1 = 1 from rfl, cn_odd rfl] at hp
          rw [pw_zero]
          exact ⟨s, ao, n, cap, e, rfl, hp, hb⟩
        · intro V X Y i j hV hX hY hij
          have ho1 := hok (i + j) (by omega)
          rw [← pw_mul hodd] at ho1 ⊢
          refine (mul_op (hok i (by omega)) (hok j (by omega)) (by rw [okR_cn]; exact ho1) V X Y ((hT.later hW).later hV) hX hY).mono ?_
          rintro r w' ⟨s, ao, n, cap, e, rfl, hp, hb⟩
          exact ⟨s, ao, n, cap, e, rfl, hp, hb⟩
        · intro V
          exact c156 n (by omega) V
      · intro W X hW hX
        exact pshift (hok n hn) hX (by rw [h22]; omega) (by rw [h22]; omega)
      · intro W X hW hX
        exact pround (hT.later hW) (tSh_ok (hok n hn) (fun _ => by rw [h22]; omega)) hX hm
    · rw [show fin a = false by unfold fin; simp; omega]
      have hso : Ie.sO a = false := by unfold Ie.sO; rw [if_pos (by omega)]
      rw [hso] at kS
      exact spower_i a n m _ _ _ w hn0 kS
end Go.Proofs.YtlicjplmcepbnaaGreatDoor
/- The document's powers of ends, joined. -/
namespace Go.Proofs.YtlicjplmcepbnaaGreatDoor
set_option linter.unusedVariables false
set_option linter.unusedSimpArgs false
open Go.RowKit Go.Fl64

end Go.Proofs.YtlicjplmcepbnaaGreatDoor
/- SpanPowers. -/
namespace Go.Proofs.YtlicjplmcepbnaaGreatDoor
set_option linter.unusedVariables false
set_option linter.unusedSimpArgs false
open Go.RowKit Go.Fl64
attribute [local go_sem] run_store_flt

/-- the interval whose powers are taken -/
def pcX (a b n : Nat) : Nat := if n % 2 = 0 then mgX a b else a
def pcY (a b n : Nat) : Nat := if n % 2 = 0 then mgY a b else b
def pwX (a b n : Nat) : Nat := pl (pwF (pcX a b n) n 1)
def pwY (a b n : Nat) : Nat := pl (pwF (pcY a b n) n 3)
/-- whether an interval and a power are such -/
def pOk (a b : Nat) (n : Int) : Bool := vI a b && decide (0 ≤ n) && decide (n ≤ 1024)
theorem pwF_lt {f n : Nat} {m : Int} (hf : f < 18446744073709551616) (hm : 1 ≤ m ∧ m ≤ 3) : pwF f n m < 18446744073709551616 := by
  unfold pwF
  split
  · omega
  · split
    · exact toD_lt hm
    · exact hf
theorem mg_facts {a b : Nat} (ha : a < 18446744073709551616) (hb : b < 18446744073709551616) (h : vI a b = true) :
    mgX a b < 18446744073709551616 ∧ mgY a b < 18446744073709551616 ∧ isNaN (mgX a b) = false ∧ isNaN (mgY a b) = false ∧ mgX a b ≠ 18442240474082181120 ∧ mgY a b ≠ 18442240474082181120 := by
  obtain ⟨na, nb⟩ := vI_nn h
  unfold vI at h
  simp only [Bool.and_eq_true, decide_eq_true_eq] at h
  obtain ⟨⟨⟨⟨h1, h2⟩, h3⟩, h4⟩, h5⟩ := h
  have ai : a ≠ 9218868437227405312 := by rintro rfl; revert h2; decide
  have bi : b ≠ 18442240474082181120 := by rintro rfl; revert h3; decide
  have pln : ∀ x, isNaN x = false → isNaN (pl x) = false := fun x hx => by unfold pl; split; decide; exact hx
  have pli : ∀ x, x ≠ 18442240474082181120 → pl x ≠ 18442240474082181120 := fun x hx => by unfold pl; split; decide; exact hx
  have ngi : ∀ x, x < 18446744073709551616 → x ≠ 9218868437227405312 → ngt x ≠ 18442240474082181120 := fun x hx h0 => by
    unfold ngt neg
    split
    · rename_i hh; simp only [decide_eq_true_eq] at hh; omega
    · omega
  unfold mgX mgY
  by_cases c1 : le 0 a = true
  · rw [if_pos c1, if_pos c1]
    exact ⟨ha, hb, na, nb, by rintro rfl; revert c1; decide, bi⟩
  · rw [if_neg c1, if_neg c1]
    by_cases c2 : le b 0 = true
    · rw [if_pos c2, if_pos c2]
      exact ⟨pl_lt (ngt_lt hb), pl_lt (ngt_lt ha), pln _ (by rw [ngt_nan8 hb]; exact nb), pln _ (by rw [ngt_nan8 ha]; exact na), pli _ (ngi b hb (by rintro rfl; revert c2; decide)), pli _ (ngi a ha ai)⟩
    · rw [if_neg c2, if_neg c2]
      have fm : fMax (ngt a) b = ngt a ∨ fMax (ngt a) b = b := by
        unfold fMax
        split
        · exact .inr rfl
        · split
          · exact .inl rfl
          · split
            · exact .inr rfl
            · exact .inl rfl
      refine ⟨by omega, ?_, by decide, ?_, by decide, ?_⟩
      · rcases fm with e | e <;> rw [e]
        · exact ngt_lt ha
        · exact hb
      · rcases fm with e | e <;> rw [e]
        · rw [ngt_nan8 ha]; exact na
        · exact nb
      · rcases fm with e | e <;> rw [e]
        · exact ngi a ha ai
        · exact bi
theorem pc_facts {a b n : Nat} (ha : a < 18446744073709551616) (hb : b < 18446744073709551616) (h : vI a b = true) :
    pcX a b n < 18446744073709551616 ∧ pcY a b n < 18446744073709551616 ∧ isNaN (pcX a b n) = false ∧ isNaN (pcY a b n) = false ∧ (pcX a b n = 18442240474082181120 → n % 2 = 1) ∧ (pcY a b n = 18442240474082181120 → n % 2 = 1) := by
  obtain ⟨h1, h2, h3, h4, h5, h6⟩ := mg_facts ha hb h
  obtain ⟨na, nb⟩ := vI_nn h
  unfold pcX pcY
  rcases Nat.mod_two_eq_zero_or_one n with hp | hp
  · rw [if_pos hp, if_pos hp]
    exact ⟨h1, h2, h3, h4, fun h => absurd h h5, fun h => absurd h h6⟩
  · rw [if_neg (by omega), if_neg (by omega)]
    exact ⟨ha, hb, na, nb, fun _ => hp, fun _ => hp⟩
/-- the program's Pow -/
theorem spow (a b : Nat) (n : Int) (w : World) (ha : a < 18446744073709551616) (hb : b < 18446744073709551616) (hT : Tab32 w) (hJ : Ie.Tab w) :
    Calls Tryz.prog 9 #[.agg #[.float .f64 a, .float .f64 b], .int .i64 n] w fun r w' => r = .returned (.tuple #[.agg #[.float .f64 (if pOk a b n then pwX a b n.toNat else 0), .float .f64 (if pOk a b n then pwY a b n.toNat else 0)], .int .i64 (if pOk a b n then 0 else 1)]) ∧ Below w.heap.size w w' := by
  by_cases hok : pOk a b n = true
  · rw [hok]
    unfold pOk at hok
    simp only [Bool.and_eq_true, decide_eq_true_eq] at hok
    obtain ⟨⟨hv, h0⟩, h1⟩ := hok
    obtain ⟨k, rfl⟩ : ∃ k : Nat, n = (k : Int) := ⟨n.toNat, by omega⟩
    rw [Int.toNat_natCast]
    obtain ⟨f1, f2, f3, f4, f5, f6⟩ := pc_facts (n := k) ha hb hv
    obtain ⟨na, nb⟩ := vI_nn hv
    refine spow_1 a b (pcX a b k) (pcY a b k) k (pwF (pcX a b k) k 1) (pwF (pcY a b k) k 3) (pwX a b k) (pwY a b k) w (by omega) (fun W => by have := svalid a b ha hb W; rw [hv] at this; exact this) ?_ ?_ ?_ ?_ ?_
    · intro hp W hW
      unfold pcX pcY
      rw [if_pos hp, if_pos hp]
      exact smag a b W ha hb na nb
    · intro hp
      unfold pcX pcY
      rw [if_neg (by omega), if_neg (by omega)]
      exact ⟨rfl, rfl⟩
    · exact fun W hW => spower f1 (by omega) (by omega) (hT.later hW) (Tab.later hJ hW)
    · exact fun W hW => spower f2 (by omega) (by omega) (hT.later hW) (Tab.later hJ hW)
    · exact fun W hW => sbetween _ _ W (pwF_lt f1 (by omega)) (pwF_lt f2 (by omega))
  · have hok' : pOk a b n = false := by cases h : pOk a b n <;> simp_all
    rw [hok']
    refine spow_no a b n (vI a b) w ?_ (fun W => svalid a b ha hb W)
    unfold pOk at hok'
    cases hv : vI a b
    · exact .inl rfl
    · rw [hv] at hok'
      by_cases h0 : n < 0
      · exact .inr (.inl h0)
      · refine .inr (.inr ?_)
        rw [decide_eq_true (show 0 ≤ n by omega)] at hok'
        simp at hok'
        omega
theorem tfF_pl {ex : Bool} {x : Nat} {e m : Int} (hm : 1 ≤ m ∧ m ≤ 3) : pl (tfF false ex x e m) = tfF false ex x e m := by
  have h : tfF false ex x e m < 9223372036854775808 := by
    unfold tfF Ie.mk
    rw [if_pos (by omega)]
    unfold sig
    rw [if_neg (by decide)]
    split
    · omega
    · rename_i h0
      have := Ie.bod_bounds (tfM ex x) (e + (tfD x : Int)) (Ie.wy false m) (tfM_lt ex x) h0
      generalize Ie.bod (tfM ex x) (e + (tfD x : Int)) (Ie.wy false m) = z at *
      omega
  unfold pl
  rw [if_neg (by omega)]
end Go.Proofs.YtlicjplmcepbnaaGreatDoor
/- SpanLaws in numbers: squares and products. -/
namespace Go.Proofs.YtlicjplmcepbnaaGreatDoor
set_option linter.unusedVariables false
set_option linter.unusedSimpArgs false
open Go.RowKit Go.Fl64

theorem toD_modes {t : Bool × Nat × Int} (o : Ok t) : stp (toD t 1) ≤ stp (toD t 3) := by
  rw [toD_tf o (by omega), toD_tf o (by omega)]
  obtain ⟨h1, h2, -⟩ := order_modes (K := 70000) (Nat.le_refl _) (s := t.1) (x := t.2.1) (e := t.2.2) o
  omega
theorem enF_modes (i : Int) {t : Bool × Nat × Int} (o : Ok t) : stp (enF i t 1) ≤ stp (enF i t 3) := by
  unfold enF
  by_cases h : i = 0
  · rw [if_pos h, if_pos h, pl_stp, pl_stp]; exact toD_modes o
  · rw [if_neg h, if_neg h]; exact Int.le_refl _
theorem toD_dn (t : Bool × Nat × Int) : stp (toD t 1) < 9218868437227405312 := by
  unfold toD
  by_cases h0 : t.2.1 = 0
  · rw [if_pos h0]; decide
  · rw [if_neg h0, tf_bdy (by omega)]
    cases t.1
    · rw [show wyN false 1 = 0 by decide]
      unfold bdy
      rw [if_neg h0]
      split
      · rename_i h
        rw [show stp (sig false (rwb t.2.1 t.2.2 0)) = (rwb t.2.1 t.2.2 0 : Int) by unfold stp sgn sig neg mag; simp; omega]
        omega
      · rw [if_pos rfl]; decide
    · unfold stp sgn
      have hl := bdy_le t.2.1 t.2.2 (wyN true 1)
      obtain ⟨h1, h2, -⟩ := mag_sig (s := true) hl
      rw [h1, h2]
      simp
      omega
theorem enF_dn (t : Bool × Nat × Int) : stp (enF 0 t 1) < 9218868437227405312 := by
  unfold enF
  rw [if_pos rfl, pl_stp]; exact toD_dn t
theorem vz_scale {K L : Nat} {s : Bool} {x : Nat} {e : Int} (h : 0 ≤ e + K) : vz (K + L) s x e = vz K s x e * ((2 ^ L : Nat) : Int) := by
  unfold vz
  rw [show (e + ((K + L : Nat) : Int)).toNat = (e + K).toNat + L by omega, Nat.pow_add, Int.natCast_mul, ← Int.mul_assoc]
/-- products in numbers, by their signs -/
theorem V8_tM {t u : Bool × Nat × Int} (o1 : Ok t) (o2 : Ok u) {K : Nat} (hK : 2 * K = 5000000) : V8 (tM t u) = vz K t.1 t.2.1 t.2.2 * vz K u.1 u.2.1 u.2.2 := by
  obtain ⟨-, f2, f3, -, -⟩ := o1.facts
  obtain ⟨-, g2, g3, -, -⟩ := o2.facts
  unfold V8 tM
  rw [vz_cn (by omega), ← vz_mul (by omega) (by omega), show K + K = 5000000 by omega]
theorem V8_K {t : Bool × Nat × Int} (o : Ok t) {K : Nat} (hK : 2 * K = 5000000) : V8 t = vz K t.1 t.2.1 t.2.2 * ((2 ^ K : Nat) : Int) := by
  obtain ⟨-, f2, f3, -, -⟩ := o.facts
  unfold V8
  rw [← vz_scale (by omega), show K + K = 5000000 by omega]
theorem K_pos {x : Int} {P : Nat} (hP : 0 < P) : (0 ≤ x * (P : Int) ↔ 0 ≤ x) ∧ (x * (P : Int) ≤ 0 ↔ x ≤ 0) := by
  have hp : (0 : Int) < (P : Int) := by omega
  constructor
  · constructor
    · intro h; exact Int.not_lt.1 fun hx => by have := Int.mul_neg_of_neg_of_pos hx hp; omega
    · intro h; exact Int.mul_nonneg h (by omega)
  · constructor
    · intro h; exact Int.not_lt.1 fun hx => by have := Int.mul_pos hx hp; omega
    · intro h; exact Int.mul_nonpos_of_nonpos_of_nonneg h (by omega)
/-- the product of two ends, rounded -/
def PE (x y : Nat) (m : Int) : Nat := enF (tmI (eI x) (eI y) (eT x) (eT y)) (tmT (eI x) (eI y) (eT x) (eT y)) m
theorem tmT_ok8 (x y : Nat) : Ok (tmT (eI x) (eI y) (eT x) (eT y)) := by
  have hz : Ok (false, 0, 0) := by unfold Ok; rw [dlen_zero]; rfl
  unfold tmT
  split
  · exact hz
  · split
    · exact hz
    · rename_i h
      have h1 : eI x = 0 := by omega
      have h2 : eI y = 0 := by omega
      unfold eT
      rw [if_pos h1, if_pos h2]
      exact tM_ok (tM_okR x y)
theorem tmI_b8 (x y : Nat) : -1 ≤ tmI (eI x) (eI y) (eT x) (eT y) ∧ tmI (eI x) (eI y) (eT x) (eT y) ≤ 1 := by
  unfold tmI
  split
  · omega
  · split
    · exact mul_b (sgE_b _ (eI_b x)) (sgE_b _ (eI_b y))
    · omega
end Go.Proofs.YtlicjplmcepbnaaGreatDoor
/- SpanLaws in numbers: a square lies within the product; orders do not count. -/
namespace Go.Proofs.YtlicjplmcepbnaaGreatDoor
set_option linter.unusedVariables false
set_option linter.unusedSimpArgs false
open Go.RowKit Go.Fl64

theorem on_PE {x y : Nat} (hx : x < 18446744073709551616) (hy : y < 18446744073709551616) (nx : isNaN x = false) (ny : isNaN y = false) {m : Int} (hm : 1 ≤ m ∧ m ≤ 3) : stp (onF (fMul x y m)) = stp (PE x y m) := by
  unfold PE
  rw [enF_times hx hy nx ny hm, pl_stp]
theorem mlo_min {a b c d : Nat} (ha : a < 18446744073709551616) (hb : b < 18446744073709551616) (hc : c < 18446744073709551616) (hd : d < 18446744073709551616) (na : isNaN a = false) (nb : isNaN b = false) (nc : isNaN c = false) (nd : isNaN d = false) :
    stp (mlo a b c d) = min (min (min (min 9218868437227405312 (stp (PE a c 1))) (stp (PE a d 1))) (stp (PE b c 1))) (stp (PE b d 1)) := by
  unfold mlo
  rw [pl_stp]
  simp only [lowF, fMin_stp]
  show min (min (min (min (stp 9218868437227405312) (stp (onF (fMul a c 1)))) (stp (onF (fMul a d 1)))) (stp (onF (fMul b c 1)))) (stp (onF (fMul b d 1))) = _
  rw [on_PE ha hc na nc (by omega), on_PE ha hd na nd (by omega), on_PE hb hc nb nc (by omega), on_PE hb hd nb nd (by omega), show stp 9218868437227405312 = 9218868437227405312 by decide]
theorem mhi_max {a b c d : Nat} (ha : a < 18446744073709551616) (hb : b < 18446744073709551616) (hc : c < 18446744073709551616) (hd : d < 18446744073709551616) (na : isNaN a = false) (nb : isNaN b = false) (nc : isNaN c = false) (nd : isNaN d = false) :
    stp (mhi a b c d) = max (max (max (max (-9218868437227405312) (stp (PE a c 3))) (stp (PE a d 3))) (stp (PE b c 3))) (stp (PE b d 3)) := by
  unfold mhi
  rw [pl_stp]
  simp only [hiF, fMax_stp]
  show max (max (max (max (stp 18442240474082181120) (stp (onF (fMul a c 3)))) (stp (onF (fMul a d 3)))) (stp (onF (fMul b c 3)))) (stp (onF (fMul b d 3))) = _
  rw [on_PE ha hc na nc (by omega), on_PE ha hd na nd (by omega), on_PE hb hc nb nc (by omega), on_PE hb hd nb nd (by omega), show stp 18442240474082181120 = -9218868437227405312 by decide]
theorem mlo_ok (a b c d : Nat) : mlo a b c d < 18446744073709551616 ∧ mhi a b c d < 18446744073709551616 ∧ isNaN (mlo a b c d) = false ∧ isNaN (mhi a b c d) = false ∧ mlo a b c d ≠ 9223372036854775808 ∧ mhi a b c d ≠ 9223372036854775808 := by
  have h1 := lowF_ok (D := fun i => onF (fMul (pk4 a a b b i) (pk4 c d c d i) 1)) (fun i => onF_ok fMul_lt) 4
  have h2 := hiF_ok (D := fun i => onF (fMul (pk4 a a b b i) (pk4 c d c d i) 3)) (fun i => onF_ok fMul_lt) 4
  have pln : ∀ x, isNaN x = false → isNaN (pl x) = false := fun x hx => by unfold pl; split; decide; exact hx
  exact ⟨pl_lt h1.1, pl_lt h2.1, pln _ h1.2, pln _ h2.2, pl_nZ _, pl_nZ _⟩
end Go.Proofs.YtlicjplmcepbnaaGreatDoor
/- SpanLaws in numbers: the square within the product. -/
namespace Go.Proofs.YtlicjplmcepbnaaGreatDoor
set_option linter.unusedVariables false
set_option linter.unusedSimpArgs false
open Go.RowKit Go.Fl64

theorem mkvI {x y : Nat} (nx : isNaN x = false) (ny : isNaN y = false) (zx : x ≠ 9223372036854775808) (zy : y ≠ 9223372036854775808) (h : stp x ≤ stp y) (h1 : stp x < 9218868437227405312) (h2 : -9218868437227405312 < stp y) : vI x y = true := by
  unfold vI le lt
  rw [nx, ny, show stp 9218868437227405312 = 9218868437227405312 by decide, show stp 18442240474082181120 = -9218868437227405312 by decide, show isNaN 9218868437227405312 = false by decide, show isNaN 18442240474082181120 = false by decide]
  simp [h, h1, h2, zx, zy]
theorem vI_facts {a b : Nat} (h : vI a b = true) : isNaN a = false ∧ isNaN b = false ∧ stp a ≤ stp b ∧ stp a < 9218868437227405312 ∧ -9218868437227405312 < stp b ∧ a ≠ 9223372036854775808 ∧ b ≠ 9223372036854775808 := by
  obtain ⟨na, nb⟩ := vI_nn h
  unfold vI le lt at h
  rw [na, nb, show stp 9218868437227405312 = 9218868437227405312 by decide, show stp 18442240474082181120 = -9218868437227405312 by decide, show isNaN 9218868437227405312 = false by decide, show isNaN 18442240474082181120 = false by decide] at h
  simp at h
  obtain ⟨⟨⟨⟨h1, h2⟩, h3⟩, h4⟩, h5⟩ := h
  exact ⟨na, nb, h1, h2, h3, h4, h5⟩
theorem le_stp {x y : Nat} (nx : isNaN x = false) (ny : isNaN y = false) : (le x y = true ↔ stp x ≤ stp y) := by
  unfold le; rw [nx, ny]; simp
end Go.Proofs.YtlicjplmcepbnaaGreatDoor
/- SpanLaws in numbers: an interval lies around its middle. -/
namespace Go.Proofs.YtlicjplmcepbnaaGreatDoor
set_option linter.unusedVariables false
set_option linter.unusedSimpArgs false
open Go.RowKit Go.Fl64

theorem fin_stp8 {x : Nat} (h : mag x < 9218868437227405312) : -9218868437227405312 < stp x ∧ stp x < 9218868437227405312 := by
  unfold stp sgn
  split <;> omega
end Go.Proofs.YtlicjplmcepbnaaGreatDoor
/- SpanPoints: what holds a number alone. -/
namespace Go.Proofs.YtlicjplmcepbnaaGreatDoor
set_option linter.unusedVariables false
set_option linter.unusedSimpArgs false
open Go.RowKit Go.Fl64

end Go.Proofs.YtlicjplmcepbnaaGreatDoor
/- SpanLaws, walked. -/
namespace Go.Proofs.YtlicjplmcepbnaaGreatDoor
set_option linter.unusedVariables false
set_option linter.unusedSimpArgs false
open Go.RowKit Go.Fl64
attribute [local go_sem] run_store_flt

end Go.Proofs.YtlicjplmcepbnaaGreatDoor
/- SpanLaws. -/
namespace Go.Proofs.YtlicjplmcepbnaaGreatDoor
set_option linter.unusedVariables false
set_option linter.unusedSimpArgs false
open Go.RowKit Go.Fl64

theorem ord_V8 {t u : Bool × Nat × Int} (o1 : Ok t) (o2 : Ok u) : ordN t.1 t.2.1 t.2.2 u.1 u.2.1 u.2.2 = cmpI (V8 t) (V8 u) := ordN_vz o1.e8 o2.e8
end Go.Proofs.YtlicjplmcepbnaaGreatDoor
/- What lies within others: order of ends, sums and products in numbers. -/
namespace Go.Proofs.YtlicjplmcepbnaaGreatDoor
set_option linter.unusedVariables false
set_option linter.unusedSimpArgs false
open Go.RowKit Go.Fl64

theorem eI_three {x : Nat} (hx : x < 18446744073709551616) (nx : isNaN x = false) : (eI x = 1 ∧ x = 9218868437227405312 ∧ stp x = 9218868437227405312) ∨ (eI x = -1 ∧ x = 18442240474082181120 ∧ stp x = -9218868437227405312) ∨ (eI x = 0 ∧ mag x < 9218868437227405312 ∧ eT x = tF x ∧ -9218868437227405312 < stp x ∧ stp x < 9218868437227405312) := by
  by_cases h : eI x = 0
  · have hf := (fin_iff8 hx nx).1 h
    exact .inr (.inr ⟨h, hf, by unfold eT; rw [if_pos h], fin_stp8 hf⟩)
  · unfold eI at h ⊢
    by_cases h1 : x = 9218868437227405312
    · rw [if_pos h1]; subst h1; exact .inl ⟨rfl, rfl, by decide⟩
    · rw [if_neg h1] at h ⊢
      by_cases h2 : x = 18442240474082181120
      · rw [if_pos h2]; subst h2; exact .inr (.inl ⟨rfl, rfl, by decide⟩)
      · rw [if_neg h2] at h; exact absurd rfl h
theorem xle_stp {x y : Nat} (hx : x < 18446744073709551616) (hy : y < 18446744073709551616) (nx : isNaN x = false) (ny : isNaN y = false) (h : stp x ≤ stp y) : xle (eI x) (eI y) (eT x) (eT y) := by
  rcases eI_three hx nx with ⟨e1, -, s1⟩ | ⟨e1, -, s1⟩ | ⟨e1, f1, t1, l1, u1⟩ <;> rcases eI_three hy ny with ⟨e2, -, s2⟩ | ⟨e2, -, s2⟩ | ⟨e2, f2, t2, l2, u2⟩
  · exact .inr ⟨by omega, fun h => by omega⟩
  · omega
  · omega
  · exact .inl (by omega)
  · exact .inr ⟨by omega, fun h => by omega⟩
  · exact .inl (by omega)
  · exact .inl (by omega)
  · omega
  · refine .inr ⟨by omega, fun _ => ?_⟩
    rw [t1, t2]
    exact (V8_cmp hx hy f1 f2).2 h
theorem enF_mono2 {i j : Int} {t u : Bool × Nat × Int} (o1 : Ok t) (o2 : Ok u) {m : Int} (hm : 1 ≤ m ∧ m ≤ 3) (h : xle i j t u) : stp (enF i t m) ≤ stp (enF j u m) := by
  have b1 := nan_stp (enF_nn i t hm)
  have b2 := nan_stp (enF_nn j u hm)
  have sI : stp 9218868437227405312 = 9218868437227405312 := by decide
  have sN : stp 18442240474082181120 = -9218868437227405312 := by decide
  rcases h with h | ⟨rfl, h⟩
  · by_cases h1 : 0 < j
    · have e : enF j u m = 9218868437227405312 := by unfold enF; rw [if_neg (by omega), if_pos h1]
      rw [e, sI]; exact b1.2
    · have e : enF i t m = 18442240474082181120 := by unfold enF; rw [if_neg (by omega), if_neg (by omega)]
      rw [e, sN]; exact b2.1
  · by_cases h0 : i = 0
    · have k := toD_mono o1 o2 hm (h h0)
      unfold enF
      rw [if_pos h0, if_pos h0, pl_stp, pl_stp]
      exact k
    · unfold enF
      rw [if_neg h0, if_neg h0]
      exact Int.le_refl _
theorem toD_up3 {t : Bool × Nat × Int} (o : Ok t) : -9218868437227405312 < stp (toD t 3) := by
  rw [toD_tf o (by omega), tf_bdy (by omega), (stp_sig (bdy_le _ _ _)).1]
  have f := o.facts
  cases h : t.1
  · simp only [sv]
    have : (0 : Int) ≤ ((bdy t.2.1 t.2.2 (wyN false 3) : Nat) : Int) := Int.natCast_nonneg _
    simp
    omega
  · obtain ⟨-, -, o3, -⟩ := bdy_order (K := 70000) (by omega) (x := t.2.1) (e := t.2.2) f.2.1
    rw [show wyN true 3 = 0 from rfl]
    simp only [sv]
    simp
    omega
theorem enF_up3 {i : Int} {t : Bool × Nat × Int} (o : Ok t) (h : 0 ≤ i) : -9218868437227405312 < stp (enF i t 3) := by
  by_cases h0 : i = 0
  · unfold enF; rw [if_pos h0, pl_stp]; exact toD_up3 o
  · have e : enF i t 3 = 9218868437227405312 := by unfold enF; rw [if_neg h0, if_pos (by omega)]
    rw [e]; decide
theorem enF_dn1 {i : Int} {t : Bool × Nat × Int} (h : i ≤ 0) : stp (enF i t 1) < 9218868437227405312 := by
  by_cases h0 : i = 0
  · subst h0; exact enF_dn t
  · have e : enF i t 1 = 18442240474082181120 := by unfold enF; rw [if_neg h0, if_neg (by omega)]
    rw [e]; decide
theorem wI_mk {x y u v : Nat} (h1 : vI x y = true) (h2 : vI u v = true) (h3 : stp u ≤ stp x) (h4 : stp y ≤ stp v) : wI x y u v = true := by
  obtain ⟨nx, ny, -⟩ := vI_facts h1
  obtain ⟨nu, nv, -⟩ := vI_facts h2
  unfold wI
  rw [h1, h2, (le_stp nu nx).2 h3, (le_stp ny nv).2 h4]
  rfl
theorem wI_un {x y u v : Nat} (h : wI x y u v = true) : vI x y = true ∧ vI u v = true ∧ stp u ≤ stp x ∧ stp y ≤ stp v := by
  unfold wI at h
  simp only [Bool.and_eq_true] at h
  obtain ⟨⟨⟨h1, h2⟩, h3⟩, h4⟩ := h
  obtain ⟨nx, ny, -⟩ := vI_facts h1
  obtain ⟨nu, nv, -⟩ := vI_facts h2
  exact ⟨h1, h2, (le_stp nu nx).1 h3, (le_stp ny nv).1 h4⟩
/-- the ends of an interval, as the document's -/
theorem vI_ends5 {a b : Nat} (ha : a < 18446744073709551616) (hb : b < 18446744073709551616) (h : vI a b = true) : isNaN a = false ∧ isNaN b = false ∧ eI a ≤ 0 ∧ 0 ≤ eI b ∧ stp a ≤ stp b := by
  obtain ⟨na, nb, hs, h1, h2, -⟩ := vI_facts h
  refine ⟨na, nb, ?_, ?_, hs⟩
  · rcases eI_three ha na with ⟨e1, -, s1⟩ | ⟨e1, -, s1⟩ | ⟨e1, -⟩ <;> omega
  · rcases eI_three hb nb with ⟨e1, -, s1⟩ | ⟨e1, -, s1⟩ | ⟨e1, -⟩ <;> omega
theorem add_xle {a b c d : Nat} (ha : a < 18446744073709551616) (hb : b < 18446744073709551616) (hc : c < 18446744073709551616) (hd : d < 18446744073709551616) (na : isNaN a = false) (nb : isNaN b = false) (nc : isNaN c = false) (nd : isNaN d = false)
    (h1 : stp a ≤ stp c) (h2 : stp b ≤ stp d) (g : eI a ≤ 0 ∧ eI b ≤ 0 ∨ 0 ≤ eI a ∧ 0 ≤ eI b) : xle (eI a + eI b) (eI c + eI d) (plT (eI a) (eI b) (eT a) (eT b)) (plT (eI c) (eI d) (eT c) (eT d)) := by
  have x1 := xle_stp ha hc na nc h1
  have x2 := xle_stp hb hd nb nd h2
  have l1 : eI a ≤ eI c := by rcases x1 with h | h <;> omega
  have l2 : eI b ≤ eI d := by rcases x2 with h | h <;> omega
  rcases (show eI a + eI b < eI c + eI d ∨ (eI a = eI c ∧ eI b = eI d) by omega) with h | ⟨e1, e2⟩
  · exact .inl h
  · refine .inr ⟨by omega, fun h0 => ?_⟩
    have z1 : eI a = 0 := by omega
    have z2 : eI b = 0 := by omega
    unfold plT
    rw [if_pos h0, if_pos (by omega)]
    have y1 : V8 (eT a) ≤ V8 (eT c) := by rcases x1 with h | h; omega; exact h.2 z1
    have y2 : V8 (eT b) ≤ V8 (eT d) := by rcases x2 with h | h; omega; exact h.2 z2
    have t1 : eT a = tF a := by unfold eT; rw [if_pos z1]
    have t2 : eT b = tF b := by unfold eT; rw [if_pos z2]
    have t3 : eT c = tF c := by unfold eT; rw [if_pos (by omega)]
    have t4 : eT d = tF d := by unfold eT; rw [if_pos (by omega)]
    rw [t1, t3] at y1
    rw [t2, t4] at y2
    rw [t1, t2, t3, t4]
    rw [V8_sum (E8_tF a) (E8_tF b), V8_sum (E8_tF c) (E8_tF d)]
    omega
theorem add_vI {a b c d : Nat} (ha : a < 18446744073709551616) (hb : b < 18446744073709551616) (hc : c < 18446744073709551616) (hd : d < 18446744073709551616) (h1 : vI a b = true) (h2 : vI c d = true) : vI (pl (fAdM a c 1)) (pl (fAdM b d 3)) = true := by
  obtain ⟨na, nb, ia, ib, s1⟩ := vI_ends5 ha hb h1
  obtain ⟨nc, nd, ic, id, s2⟩ := vI_ends5 hc hd h2
  have e1 := enF_plus ha hc na nc (by omega) (by omega) (m := 1) (by omega)
  have e3 := enF_plus hb hd nb nd (by omega) (by omega) (m := 3) (by omega)
  rw [← e1, ← e3]
  refine mkvI (enF_nn _ _ (by omega)) (enF_nn _ _ (by omega)) (enF_nZ _ _ _) (enF_nZ _ _ _) ?_ (enF_dn1 (by omega)) (enF_up3 (plT_ok _ _ _ _) (by omega))
  exact Int.le_trans (enF_modes _ (plT_ok _ _ _ _)) (enF_mono2 (plT_ok _ _ _ _) (plT_ok _ _ _ _) (by omega) (add_xle ha hc hb hd na nc nb nd s1 s2 (.inl ⟨ia, ic⟩)))
theorem add_within {a b c d x y : Nat} (ha : a < 18446744073709551616) (hb : b < 18446744073709551616) (hc : c < 18446744073709551616) (hd : d < 18446744073709551616) (hx : x < 18446744073709551616) (hy : y < 18446744073709551616) (h : wI a b c d = true) (h2 : vI x y = true) :
    wI (pl (fAdM a x 1)) (pl (fAdM b y 3)) (pl (fAdM c x 1)) (pl (fAdM d y 3)) = true := by
  obtain ⟨v1, v2, s1, s2⟩ := wI_un h
  obtain ⟨na, nb, ia, ib, -⟩ := vI_ends5 ha hb v1
  obtain ⟨nc, nd, ic, id, -⟩ := vI_ends5 hc hd v2
  obtain ⟨nx, ny, ix, iy, -⟩ := vI_ends5 hx hy h2
  refine wI_mk (add_vI ha hb hx hy v1 h2) (add_vI hc hd hx hy v2 h2) ?_ ?_
  · rw [← enF_plus ha hx na nx (by omega) (by omega) (m := 1) (by omega), ← enF_plus hc hx nc nx (by omega) (by omega) (m := 1) (by omega)]
    exact enF_mono2 (plT_ok _ _ _ _) (plT_ok _ _ _ _) (by omega) (add_xle hc hx ha hx nc nx na nx s1 (Int.le_refl _) (.inl ⟨ic, ix⟩))
  · rw [← enF_plus hb hy nb ny (by omega) (by omega) (m := 3) (by omega), ← enF_plus hd hy nd ny (by omega) (by omega) (m := 3) (by omega)]
    exact enF_mono2 (plT_ok _ _ _ _) (plT_ok _ _ _ _) (by omega) (add_xle hb hy hd hy nb ny nd ny s2 (Int.le_refl _) (.inr ⟨ib, iy⟩))
end Go.Proofs.YtlicjplmcepbnaaGreatDoor
