/- Own work: contracts of the program's functions, part 12: SNN SNS SNK SNT SNU. -/
import Derived.Test.YtjiolfnchiioaaaGreatDoorA11
import Derived.Test.YtjiolfnchiioaaaGreatDoorA8
import Derived.Test.YtjiolfnchiioaaaGreatDoorA9

set_option maxHeartbeats 16000000
set_option maxRecDepth 200000
set_option linter.unusedVariables false
set_option linter.unusedSimpArgs false
namespace Go.Proofs.YtjiolfnchiioaaaGreatDoor
open Go.RowKit Go.Fl64
attribute [local go_sem] run_store_flt
theorem eI_b (f:Nat) : -1≤eI f∧eI f≤1:=by
 rcases eI_cases f with h|h|h <;> rw[h] <;> omega
theorem neg_b {i:Int} (h : -1≤i∧i≤1) : -1 ≤ -i ∧ -i≤1:=by omega
theorem dneg_1 (a b : Nat) (w : World) (ha : a < 18446744073709551616) (hb : b < 18446744073709551616) :
    Calls Tryz.prog 6 #[.agg #[.float .f64 a, .float .f64 b]] w fun r w' => r = .returned (orV (vI a b) (enF (-(eI b)) (tNeg (eT b)) 1) (enF (-(eI a)) (tNeg (eT a)) 3) (.int .i64 0) (.int .i64 1)) ∧ Bw w w' := by
  have k1 := fun W => d8valid a b ha hb W
  have HN1 : Hid (vI a b = true → isNaN a = false ∧ isNaN b = false) := vI_nn
  generalize hu : vI a b = u at *
  clear hu
  generalize hX : (enF (-(eI b)) (tNeg (eT b)) 1) = X
  generalize hY : (enF (-(eI a)) (tNeg (eT a)) 3) = Y
  have HXY : Hid ((enF (-(eI b)) (tNeg (eT b)) 1) = X ∧ (enF (-(eI a)) (tNeg (eT a)) 3) = Y) := ⟨hX, hY⟩
  clear hX hY
  obtain ⟨W, hW⟩ : ∃ W, W = ((w.alloc (.cells #[.float .f64 a, .float .f64 b] 24)).alloc (.cells #[.float .f64 0, .float .f64 0] 24)) := ⟨_, rfl⟩
  have HX : Hid (Bw w W ∧ IvB W (w.heap.size) a b ∧ IvB W (w.heap.size + 1) 0 0) := by
    rw [hW]
    exact ⟨bxs2_0 w a b 0 0, bxs2_1 w a b 0 0, bxs2_2 w a b 0 0⟩
  have HK : Hid (∀ w', Bw W w' → IvF w' (w.heap.size) a b ∧ IvF w' (w.heap.size + 1) 0 0) := fun w' hb => ⟨(HX.out.2.1).later hb, (HX.out.2.2).later hb⟩
  obtain ⟨⟨c0, c1, z0, z1⟩, ⟨c2, c3, z2, z3⟩⟩ := HK.out W (Below.refl _ _)
  have kv := k1 W
  clear k1
  go_enter Tryz.func6, Tryz.ntmps6
  go_upto_region 1 with fail
  rw [← hW]
  clear hW
  go_wp2_with fail
  refine kv.mono ?_
  rintro r w1 ⟨rfl, hb1⟩
  clear kv
  clear c0 z0 c1 z1 c2 z2 c3 z3
  obtain ⟨⟨c0, c1, z0, z1⟩, ⟨c2, c3, z2, z3⟩⟩ := HK.out w1 hb1
  cases u
  · have HB : Hid (Bw w w1) := HX.out.1.trans (hb1.mono HX.out.1.size)
    have HR : Hid (IvB w1 (w.heap.size + 1) 0 0) := HX.out.2.2.box hb1
    clear hb1 HK HX 
    go_wp2
    refine bodyPost_ret (results_cell_tmp_row rfl _ _ (w.heap.size + 1) 24 #[.float .f64 0, .float .f64 0] (0, 0) _ rfl (HR.out.set _ _) Tryz.underlying24 rfl iv_info) rfl ?_
    exact ⟨rfl, below_store2 HB.out (by omega) _ _⟩
  obtain ⟨Na, Nb⟩ := HN1.out (by simp)
  have kT : ∀ W A B, EN W A (-(eI b)) (tNeg (eT b)) → EN W B (-(eI a)) (tNeg (eT a)) → Calls Tryz.prog 23 #[A, B] W fun r w' => r = .returned (.agg #[.float .f64 X, .float .f64 Y]) ∧ Bw W w' := fun W A B h1 h2 => by
    have k := dTight (tNeg_ok (eT_ok b)) (tNeg_ok (eT_ok a)) h1 h2
    rw [HXY.out.1, HXY.out.2] at k
    exact k
  have HKK : Hid (∀ w', Bw W w' → (w'.cell? ⟨w.heap.size, 0, none⟩ = some (.float .f64 a) ∧ w'.cell? ⟨w.heap.size, 1, none⟩ = some (.float .f64 b))) := fun w' hb => ⟨(HK.out w' hb).1.1, (HK.out w' hb).1.2.1⟩
  have hR : Bw W w1.drew := hb1.drew
  go_upto_region 3 with fail
  go_region_held3 (fun w' => (w'.cell? ⟨w.heap.size, 0, none⟩ = some (.float .f64 a) ∧ w'.cell? ⟨w.heap.size, 1, none⟩ = some (.float .f64 b))) (first | (with_reducible assumption) | (with_reducible exact HKK.out _ hR) | (with_reducible exact HKK.out _ hb1) | (with_reducible refine HKK.out _ ?_; with_reducible assumption) | (refine ⟨?_, ?_⟩ <;> (change World.cell? (World.setCell (World.setCell _ _ _) _ _) _ = _; rw [World.cell?_setCell_other _ _ _ _ (by first | (simp; done) | (simp; omega)), World.cell?_setCell_other _ _ _ _ (by first | (simp; done) | (simp; omega))]; first | exact (HKK.out _ B).1 | exact (HKK.out _ B).2)) | go_keep)
    (first | (go_at_call 25; with_reducible refine (dend b hb Nb _).mono ?_; rintro r v1 ⟨A1, rfl, E1, hq⟩; have B := hR.trans (hq.mono hR.size);  clear hq)
           | (go_at_call 24; with_reducible refine (d8turn (eI_b b) E1).mono ?_; rintro r v2 ⟨A2, rfl, E2, hq⟩; replace B := B.trans (hq.mono B.size); replace E1 := E1.later hq; clear hq)
           | (go_at_call 25; with_reducible refine (dend a ha Na _).mono ?_; rintro r v3 ⟨A3, rfl, E3, hq⟩; replace B := B.trans (hq.mono B.size); replace E1 := E1.later hq; replace E2 := E2.later hq; clear hq)
           | (go_at_call 24; with_reducible refine (d8turn (eI_b a) E3).mono ?_; rintro r v4 ⟨A4, rfl, E4, hq⟩; replace B := B.trans (hq.mono B.size); replace E1 := E1.later hq; replace E2 := E2.later hq; replace E3 := E3.later hq; clear hq)
           | (go_at_call 23; with_reducible refine (kT _ _ _ E2 E4).mono ?_; rintro r v5 ⟨rfl, hq⟩; replace B := B.trans (hq.mono B.size); replace E1 := E1.later hq; replace E2 := E2.later hq; replace E3 := E3.later hq; replace E4 := E4.later hq; have x4 : IvF v5 (w.heap.size + 1) 0 0 := HX.out.2.2.later B; unfold IvF at x4; obtain ⟨x0, x1, x2, x3⟩ := x4; clear hq))
  have HB : Hid (Bw w v5) := HX.out.1.trans (B.mono HX.out.1.size)
  have HR : Hid (IvB v5 (w.heap.size + 1) 0 0) := HX.out.2.2.box B
  clear kT HKK HK HX hR B x0 x1 x2 x3
  go_wp2_with fail
  refine bodyPost_ret (results_cell_tmp_row rfl _ _ (w.heap.size + 1) 24 #[.float .f64 X, .float .f64 Y] (0, 0) _ rfl (HR.out.set _ _) Tryz.underlying24 rfl iv_info) rfl ?_
  first | exact ⟨rfl, below_store2 HB.out (by omega) _ _⟩ | exact ⟨rfl, (below_store2 HB.out (by omega) _ _).drew⟩
theorem dadd_18 (a b c d : Nat) (w : World) (ha : a < 18446744073709551616) (hb : b < 18446744073709551616) (hc : c < 18446744073709551616) (hd : d < 18446744073709551616) (O3 : vI a b && vI c d = true → Ok (plT (eI a) (eI c) (eT a) (eT c))) (O6 : vI a b && vI c d = true → Ok (plT (eI b) (eI d) (eT b) (eT d))) :
    Calls Tryz.prog 10 #[.agg #[.float .f64 a, .float .f64 b], .agg #[.float .f64 c, .float .f64 d]] w fun r w' => r = .returned (orV (vI a b && vI c d) (enF ((eI a) + (eI c)) (plT (eI a) (eI c) (eT a) (eT c)) 1) (enF ((eI b) + (eI d)) (plT (eI b) (eI d) (eT b) (eT d)) 3) (.int .i64 0) (.int .i64 1)) ∧ Bw w w' := by
  have k1 := fun W => d8valid a b ha hb W
  have k2 := fun W => d8valid c d hc hd W
  have HN1 : Hid (vI a b = true → isNaN a = false ∧ isNaN b = false) := vI_nn
  have HN2 : Hid (vI c d = true → isNaN c = false ∧ isNaN d = false) := vI_nn
  have HO3 : Hid (vI a b && vI c d = true → Ok (plT (eI a) (eI c) (eT a) (eT c))) := O3
  clear O3
  have HO6 : Hid (vI a b && vI c d = true → Ok (plT (eI b) (eI d) (eT b) (eT d))) := O6
  clear O6
  generalize hu : vI a b = u at *
  generalize hv : vI c d = v at *
  clear hu hv
  generalize hX : (enF ((eI a) + (eI c)) (plT (eI a) (eI c) (eT a) (eT c)) 1) = X
  generalize hY : (enF ((eI b) + (eI d)) (plT (eI b) (eI d) (eT b) (eT d)) 3) = Y
  have HXY : Hid ((enF ((eI a) + (eI c)) (plT (eI a) (eI c) (eT a) (eT c)) 1) = X ∧ (enF ((eI b) + (eI d)) (plT (eI b) (eI d) (eT b) (eT d)) 3) = Y) := ⟨hX, hY⟩
  clear hX hY
  obtain ⟨W, hW⟩ : ∃ W, W = (((w.alloc (.cells #[.float .f64 a, .float .f64 b] 24)).alloc (.cells #[.float .f64 c, .float .f64 d] 24)).alloc (.cells #[.float .f64 0, .float .f64 0] 24)) := ⟨_, rfl⟩
  have HX : Hid (Bw w W ∧ IvB W (w.heap.size) a b ∧ IvB W (w.heap.size + 1) c d ∧ IvB W (w.heap.size + 1 + 1) 0 0) := by
    rw [hW]
    exact ⟨bxs3_0 w a b c d 0 0, bxs3_1 w a b c d 0 0, bxs3_2 w a b c d 0 0, bxs3_3 w a b c d 0 0⟩
  have HK : Hid (∀ w', Bw W w' → IvF w' (w.heap.size) a b ∧ IvF w' (w.heap.size + 1) c d ∧ IvF w' (w.heap.size + 1 + 1) 0 0) := fun w' hb => ⟨(HX.out.2.1).later hb, (HX.out.2.2.1).later hb, (HX.out.2.2.2).later hb⟩
  obtain ⟨⟨c0, c1, z0, z1⟩, ⟨c2, c3, z2, z3⟩, ⟨c4, c5, z4, z5⟩⟩ := HK.out W (Below.refl _ _)
  have kv := k1 W
  clear k1
  go_enter Tryz.func10, Tryz.ntmps10
  go_upto_region 1 with fail
  rw [← hW]
  clear hW
  go_wp2_with fail
  refine kv.mono ?_
  rintro r w1 ⟨rfl, hb1⟩
  clear kv
  clear c0 z0 c1 z1 c2 z2 c3 z3 c4 z4 c5 z5
  obtain ⟨⟨c0, c1, z0, z1⟩, ⟨c2, c3, z2, z3⟩, ⟨c4, c5, z4, z5⟩⟩ := HK.out w1 hb1
  cases u
  · have HB : Hid (Bw w w1) := HX.out.1.trans (hb1.mono HX.out.1.size)
    have HR : Hid (IvB w1 (w.heap.size + 1 + 1) 0 0) := HX.out.2.2.2.box hb1
    clear hb1 HK HX k2
    go_wp2
    refine bodyPost_ret (results_cell_tmp_row rfl _ _ (w.heap.size + 1 + 1) 24 #[.float .f64 0, .float .f64 0] (0, 0) _ rfl (HR.out.set _ _) Tryz.underlying24 rfl iv_info) rfl ?_
    exact ⟨rfl, below_store2 HB.out (by omega) _ _⟩
  have kv := k2 w1
  have HB1 : Hid (Bw W w1) := hb1
  clear hb1 k2
  go_wp2_with fail
  refine kv.mono ?_
  rintro r w2 ⟨rfl, hb2⟩
  have hb3 : Bw W w2 := HB1.out.trans (hb2.mono HB1.out.size)
  clear kv hb2 HB1
  clear c0 z0 c1 z1 c2 z2 c3 z3 c4 z4 c5 z5
  obtain ⟨⟨c0, c1, z0, z1⟩, ⟨c2, c3, z2, z3⟩, ⟨c4, c5, z4, z5⟩⟩ := HK.out w2 hb3
  cases v
  · have HB : Hid (Bw w w2) := HX.out.1.trans (hb3.mono HX.out.1.size)
    have HR : Hid (IvB w2 (w.heap.size + 1 + 1) 0 0) := HX.out.2.2.2.box hb3
    clear hb3 HK HX
    go_wp2
    refine bodyPost_ret (results_cell_tmp_row rfl _ _ (w.heap.size + 1 + 1) 24 #[.float .f64 0, .float .f64 0] (0, 0) _ rfl (HR.out.set _ _) Tryz.underlying24 rfl iv_info) rfl ?_
    exact ⟨rfl, below_store2 HB.out (by omega) _ _⟩
  obtain ⟨Na, Nb⟩ := HN1.out (by simp)
  obtain ⟨Nc, Nd⟩ := HN2.out (by simp)
  have O3 := HO3.out (by simp)
  have O6 := HO6.out (by simp)
  have kT : ∀ W A B, EN W A ((eI a) + (eI c)) (plT (eI a) (eI c) (eT a) (eT c)) → EN W B ((eI b) + (eI d)) (plT (eI b) (eI d) (eT b) (eT d)) → Calls Tryz.prog 23 #[A, B] W fun r w' => r = .returned (.agg #[.float .f64 X, .float .f64 Y]) ∧ Bw W w' := fun W A B h1 h2 => by
    have k := dTight O3 O6 h1 h2
    rw [HXY.out.1, HXY.out.2] at k
    exact k
  have HKK : Hid (∀ w', Bw W w' → (w'.cell? ⟨w.heap.size, 0, none⟩ = some (.float .f64 a) ∧ w'.cell? ⟨w.heap.size, 1, none⟩ = some (.float .f64 b)) ∧ (w'.cell? ⟨w.heap.size + 1, 0, none⟩ = some (.float .f64 c) ∧ w'.cell? ⟨w.heap.size + 1, 1, none⟩ = some (.float .f64 d))) := fun w' hb => ⟨⟨(HK.out w' hb).1.1, (HK.out w' hb).1.2.1⟩, ⟨(HK.out w' hb).2.1.1, (HK.out w' hb).2.1.2.1⟩⟩
  have hR : Bw W w2.drew := hb3.drew
  go_upto_region 3 with fail
  go_region_held3 (fun w' => (w'.cell? ⟨w.heap.size, 0, none⟩ = some (.float .f64 a) ∧ w'.cell? ⟨w.heap.size, 1, none⟩ = some (.float .f64 b)) ∧ (w'.cell? ⟨w.heap.size + 1, 0, none⟩ = some (.float .f64 c) ∧ w'.cell? ⟨w.heap.size + 1, 1, none⟩ = some (.float .f64 d))) (first | (with_reducible assumption) | (with_reducible exact HKK.out _ hR) | (with_reducible exact HKK.out _ hb3) | (with_reducible refine HKK.out _ ?_; with_reducible assumption) | (refine ⟨⟨?_, ?_⟩, ?_, ?_⟩ <;> (change World.cell? (World.setCell (World.setCell _ _ _) _ _) _ = _; rw [World.cell?_setCell_other _ _ _ _ (by first | (simp; done) | (simp; omega)), World.cell?_setCell_other _ _ _ _ (by first | (simp; done) | (simp; omega))]; first | exact (HKK.out _ B).1.1 | exact (HKK.out _ B).1.2 | exact (HKK.out _ B).2.1 | exact (HKK.out _ B).2.2)) | go_keep)
    (first | (go_at_call 25; with_reducible refine (dend a ha Na _).mono ?_; rintro r v1 ⟨A1, rfl, E1, hq⟩; have B := hR.trans (hq.mono hR.size);  clear hq)
           | (go_at_call 25; with_reducible refine (dend c hc Nc _).mono ?_; rintro r v2 ⟨A2, rfl, E2, hq⟩; replace B := B.trans (hq.mono B.size); replace E1 := E1.later hq; clear hq)
           | (go_at_call 31; with_reducible refine (dplus (eI_b a) (eI_b c) (eT_ok a) (eT_ok c) E1 E2).mono ?_; rintro r v3 ⟨A3, rfl, E3, hq⟩; replace B := B.trans (hq.mono B.size); replace E1 := E1.later hq; replace E2 := E2.later hq; clear hq)
           | (go_at_call 25; with_reducible refine (dend b hb Nb _).mono ?_; rintro r v4 ⟨A4, rfl, E4, hq⟩; replace B := B.trans (hq.mono B.size); replace E1 := E1.later hq; replace E2 := E2.later hq; replace E3 := E3.later hq; clear hq)
           | (go_at_call 25; with_reducible refine (dend d hd Nd _).mono ?_; rintro r v5 ⟨A5, rfl, E5, hq⟩; replace B := B.trans (hq.mono B.size); replace E1 := E1.later hq; replace E2 := E2.later hq; replace E3 := E3.later hq; replace E4 := E4.later hq; clear hq)
           | (go_at_call 31; with_reducible refine (dplus (eI_b b) (eI_b d) (eT_ok b) (eT_ok d) E4 E5).mono ?_; rintro r v6 ⟨A6, rfl, E6, hq⟩; replace B := B.trans (hq.mono B.size); replace E1 := E1.later hq; replace E2 := E2.later hq; replace E3 := E3.later hq; replace E4 := E4.later hq; replace E5 := E5.later hq; clear hq)
           | (go_at_call 23; with_reducible refine (kT _ _ _ E3 E6).mono ?_; rintro r v7 ⟨rfl, hq⟩; replace B := B.trans (hq.mono B.size); replace E1 := E1.later hq; replace E2 := E2.later hq; replace E3 := E3.later hq; replace E4 := E4.later hq; replace E5 := E5.later hq; replace E6 := E6.later hq; have x4 : IvF v7 (w.heap.size + 1 + 1) 0 0 := HX.out.2.2.2.later B; unfold IvF at x4; obtain ⟨x0, x1, x2, x3⟩ := x4; clear hq))
  have HB : Hid (Bw w v7) := HX.out.1.trans (B.mono HX.out.1.size)
  have HR : Hid (IvB v7 (w.heap.size + 1 + 1) 0 0) := HX.out.2.2.2.box B
  clear kT HKK HK HX hR B x0 x1 x2 x3
  go_wp2_with fail
  refine bodyPost_ret (results_cell_tmp_row rfl _ _ (w.heap.size + 1 + 1) 24 #[.float .f64 X, .float .f64 Y] (0, 0) _ rfl (HR.out.set _ _) Tryz.underlying24 rfl iv_info) rfl ?_
  first | exact ⟨rfl, below_store2 HB.out (by omega) _ _⟩ | exact ⟨rfl, (below_store2 HB.out (by omega) _ _).drew⟩
theorem dsub_18 (a b c d : Nat) (w : World) (ha : a < 18446744073709551616) (hb : b < 18446744073709551616) (hc : c < 18446744073709551616) (hd : d < 18446744073709551616) (O4 : vI a b && vI c d = true → Ok (plT (eI a) (-(eI d)) (eT a) (tNeg (eT d)))) (O8 : vI a b && vI c d = true → Ok (plT (eI b) (-(eI c)) (eT b) (tNeg (eT c)))) :
    Calls Tryz.prog 12 #[.agg #[.float .f64 a, .float .f64 b], .agg #[.float .f64 c, .float .f64 d]] w fun r w' => r = .returned (orV (vI a b && vI c d) (enF ((eI a) + (-(eI d))) (plT (eI a) (-(eI d)) (eT a) (tNeg (eT d))) 1) (enF ((eI b) + (-(eI c))) (plT (eI b) (-(eI c)) (eT b) (tNeg (eT c))) 3) (.int .i64 0) (.int .i64 1)) ∧ Bw w w' := by
  have k1 := fun W => d8valid a b ha hb W
  have k2 := fun W => d8valid c d hc hd W
  have HN1 : Hid (vI a b = true → isNaN a = false ∧ isNaN b = false) := vI_nn
  have HN2 : Hid (vI c d = true → isNaN c = false ∧ isNaN d = false) := vI_nn
  have HO4 : Hid (vI a b && vI c d = true → Ok (plT (eI a) (-(eI d)) (eT a) (tNeg (eT d)))) := O4
  clear O4
  have HO8 : Hid (vI a b && vI c d = true → Ok (plT (eI b) (-(eI c)) (eT b) (tNeg (eT c)))) := O8
  clear O8
  generalize hu : vI a b = u at *
  generalize hv : vI c d = v at *
  clear hu hv
  generalize hX : (enF ((eI a) + (-(eI d))) (plT (eI a) (-(eI d)) (eT a) (tNeg (eT d))) 1) = X
  generalize hY : (enF ((eI b) + (-(eI c))) (plT (eI b) (-(eI c)) (eT b) (tNeg (eT c))) 3) = Y
  have HXY : Hid ((enF ((eI a) + (-(eI d))) (plT (eI a) (-(eI d)) (eT a) (tNeg (eT d))) 1) = X ∧ (enF ((eI b) + (-(eI c))) (plT (eI b) (-(eI c)) (eT b) (tNeg (eT c))) 3) = Y) := ⟨hX, hY⟩
  clear hX hY
  obtain ⟨W, hW⟩ : ∃ W, W = (((w.alloc (.cells #[.float .f64 a, .float .f64 b] 24)).alloc (.cells #[.float .f64 c, .float .f64 d] 24)).alloc (.cells #[.float .f64 0, .float .f64 0] 24)) := ⟨_, rfl⟩
  have HX : Hid (Bw w W ∧ IvB W (w.heap.size) a b ∧ IvB W (w.heap.size + 1) c d ∧ IvB W (w.heap.size + 1 + 1) 0 0) := by
    rw [hW]
    exact ⟨bxs3_0 w a b c d 0 0, bxs3_1 w a b c d 0 0, bxs3_2 w a b c d 0 0, bxs3_3 w a b c d 0 0⟩
  have HK : Hid (∀ w', Bw W w' → IvF w' (w.heap.size) a b ∧ IvF w' (w.heap.size + 1) c d ∧ IvF w' (w.heap.size + 1 + 1) 0 0) := fun w' hb => ⟨(HX.out.2.1).later hb, (HX.out.2.2.1).later hb, (HX.out.2.2.2).later hb⟩
  obtain ⟨⟨c0, c1, z0, z1⟩, ⟨c2, c3, z2, z3⟩, ⟨c4, c5, z4, z5⟩⟩ := HK.out W (Below.refl _ _)
  have kv := k1 W
  clear k1
  go_enter Tryz.func12, Tryz.ntmps12
  go_upto_region 1 with fail
  rw [← hW]
  clear hW
  go_wp2_with fail
  refine kv.mono ?_
  rintro r w1 ⟨rfl, hb1⟩
  clear kv
  clear c0 z0 c1 z1 c2 z2 c3 z3 c4 z4 c5 z5
  obtain ⟨⟨c0, c1, z0, z1⟩, ⟨c2, c3, z2, z3⟩, ⟨c4, c5, z4, z5⟩⟩ := HK.out w1 hb1
  cases u
  · have HB : Hid (Bw w w1) := HX.out.1.trans (hb1.mono HX.out.1.size)
    have HR : Hid (IvB w1 (w.heap.size + 1 + 1) 0 0) := HX.out.2.2.2.box hb1
    clear hb1 HK HX k2
    go_wp2
    refine bodyPost_ret (results_cell_tmp_row rfl _ _ (w.heap.size + 1 + 1) 24 #[.float .f64 0, .float .f64 0] (0, 0) _ rfl (HR.out.set _ _) Tryz.underlying24 rfl iv_info) rfl ?_
    exact ⟨rfl, below_store2 HB.out (by omega) _ _⟩
  have kv := k2 w1
  have HB1 : Hid (Bw W w1) := hb1
  clear hb1 k2
  go_wp2_with fail
  refine kv.mono ?_
  rintro r w2 ⟨rfl, hb2⟩
  have hb3 : Bw W w2 := HB1.out.trans (hb2.mono HB1.out.size)
  clear kv hb2 HB1
  clear c0 z0 c1 z1 c2 z2 c3 z3 c4 z4 c5 z5
  obtain ⟨⟨c0, c1, z0, z1⟩, ⟨c2, c3, z2, z3⟩, ⟨c4, c5, z4, z5⟩⟩ := HK.out w2 hb3
  cases v
  · have HB : Hid (Bw w w2) := HX.out.1.trans (hb3.mono HX.out.1.size)
    have HR : Hid (IvB w2 (w.heap.size + 1 + 1) 0 0) := HX.out.2.2.2.box hb3
    clear hb3 HK HX
    go_wp2
    refine bodyPost_ret (results_cell_tmp_row rfl _ _ (w.heap.size + 1 + 1) 24 #[.float .f64 0, .float .f64 0] (0, 0) _ rfl (HR.out.set _ _) Tryz.underlying24 rfl iv_info) rfl ?_
    exact ⟨rfl, below_store2 HB.out (by omega) _ _⟩
  obtain ⟨Na, Nb⟩ := HN1.out (by simp)
  obtain ⟨Nc, Nd⟩ := HN2.out (by simp)
  have O4 := HO4.out (by simp)
  have O8 := HO8.out (by simp)
  have kT : ∀ W A B, EN W A ((eI a) + (-(eI d))) (plT (eI a) (-(eI d)) (eT a) (tNeg (eT d))) → EN W B ((eI b) + (-(eI c))) (plT (eI b) (-(eI c)) (eT b) (tNeg (eT c))) → Calls Tryz.prog 23 #[A, B] W fun r w' => r = .returned (.agg #[.float .f64 X, .float .f64 Y]) ∧ Bw W w' := fun W A B h1 h2 => by
    have k := dTight O4 O8 h1 h2
    rw [HXY.out.1, HXY.out.2] at k
    exact k
  have HKK : Hid (∀ w', Bw W w' → (w'.cell? ⟨w.heap.size, 0, none⟩ = some (.float .f64 a) ∧ w'.cell? ⟨w.heap.size, 1, none⟩ = some (.float .f64 b)) ∧ (w'.cell? ⟨w.heap.size + 1, 0, none⟩ = some (.float .f64 c) ∧ w'.cell? ⟨w.heap.size + 1, 1, none⟩ = some (.float .f64 d))) := fun w' hb => ⟨⟨(HK.out w' hb).1.1, (HK.out w' hb).1.2.1⟩, ⟨(HK.out w' hb).2.1.1, (HK.out w' hb).2.1.2.1⟩⟩
  have hR : Bw W w2.drew := hb3.drew
  go_upto_region 3 with fail
  go_region_held3 (fun w' => (w'.cell? ⟨w.heap.size, 0, none⟩ = some (.float .f64 a) ∧ w'.cell? ⟨w.heap.size, 1, none⟩ = some (.float .f64 b)) ∧ (w'.cell? ⟨w.heap.size + 1, 0, none⟩ = some (.float .f64 c) ∧ w'.cell? ⟨w.heap.size + 1, 1, none⟩ = some (.float .f64 d))) (first | (with_reducible assumption) | (with_reducible exact HKK.out _ hR) | (with_reducible exact HKK.out _ hb3) | (with_reducible refine HKK.out _ ?_; with_reducible assumption) | (refine ⟨⟨?_, ?_⟩, ?_, ?_⟩ <;> (change World.cell? (World.setCell (World.setCell _ _ _) _ _) _ = _; rw [World.cell?_setCell_other _ _ _ _ (by first | (simp; done) | (simp; omega)), World.cell?_setCell_other _ _ _ _ (by first | (simp; done) | (simp; omega))]; first | exact (HKK.out _ B).1.1 | exact (HKK.out _ B).1.2 | exact (HKK.out _ B).2.1 | exact (HKK.out _ B).2.2)) | go_keep)
    (first | (go_at_call 25; with_reducible refine (dend a ha Na _).mono ?_; rintro r v1 ⟨A1, rfl, E1, hq⟩; have B := hR.trans (hq.mono hR.size);  clear hq)
           | (go_at_call 25; with_reducible refine (dend d hd Nd _).mono ?_; rintro r v2 ⟨A2, rfl, E2, hq⟩; replace B := B.trans (hq.mono B.size); replace E1 := E1.later hq; clear hq)
           | (go_at_call 24; with_reducible refine (d8turn (eI_b d) E2).mono ?_; rintro r v3 ⟨A3, rfl, E3, hq⟩; replace B := B.trans (hq.mono B.size); replace E1 := E1.later hq; replace E2 := E2.later hq; clear hq)
           | (go_at_call 31; with_reducible refine (dplus (eI_b a) (neg_b (eI_b d)) (eT_ok a) (tNeg_ok (eT_ok d)) E1 E3).mono ?_; rintro r v4 ⟨A4, rfl, E4, hq⟩; replace B := B.trans (hq.mono B.size); replace E1 := E1.later hq; replace E2 := E2.later hq; replace E3 := E3.later hq; clear hq)
           | (go_at_call 25; with_reducible refine (dend b hb Nb _).mono ?_; rintro r v5 ⟨A5, rfl, E5, hq⟩; replace B := B.trans (hq.mono B.size); replace E1 := E1.later hq; replace E2 := E2.later hq; replace E3 := E3.later hq; replace E4 := E4.later hq; clear hq)
           | (go_at_call 25; with_reducible refine (dend c hc Nc _).mono ?_; rintro r v6 ⟨A6, rfl, E6, hq⟩; replace B := B.trans (hq.mono B.size); replace E1 := E1.later hq; replace E2 := E2.later hq; replace E3 := E3.later hq; replace E4 := E4.later hq; replace E5 := E5.later hq; clear hq)
           | (go_at_call 24; with_reducible refine (d8turn (eI_b c) E6).mono ?_; rintro r v7 ⟨A7, rfl, E7, hq⟩; replace B := B.trans (hq.mono B.size); replace E1 := E1.later hq; replace E2 := E2.later hq; replace E3 := E3.later hq; replace E4 := E4.later hq; replace E5 := E5.later hq; replace E6 := E6.later hq; clear hq)
           | (go_at_call 31; with_reducible refine (dplus (eI_b b) (neg_b (eI_b c)) (eT_ok b) (tNeg_ok (eT_ok c)) E5 E7).mono ?_; rintro r v8 ⟨A8, rfl, E8, hq⟩; replace B := B.trans (hq.mono B.size); replace E1 := E1.later hq; replace E2 := E2.later hq; replace E3 := E3.later hq; replace E4 := E4.later hq; replace E5 := E5.later hq; replace E6 := E6.later hq; replace E7 := E7.later hq; clear hq)
           | (go_at_call 23; with_reducible refine (kT _ _ _ E4 E8).mono ?_; rintro r v9 ⟨rfl, hq⟩; replace B := B.trans (hq.mono B.size); replace E1 := E1.later hq; replace E2 := E2.later hq; replace E3 := E3.later hq; replace E4 := E4.later hq; replace E5 := E5.later hq; replace E6 := E6.later hq; replace E7 := E7.later hq; replace E8 := E8.later hq; have x4 : IvF v9 (w.heap.size + 1 + 1) 0 0 := HX.out.2.2.2.later B; unfold IvF at x4; obtain ⟨x0, x1, x2, x3⟩ := x4; clear hq))
  have HB : Hid (Bw w v9) := HX.out.1.trans (B.mono HX.out.1.size)
  have HR : Hid (IvB v9 (w.heap.size + 1 + 1) 0 0) := HX.out.2.2.2.box B
  clear kT HKK HK HX hR B x0 x1 x2 x3
  go_wp2_with fail
  refine bodyPost_ret (results_cell_tmp_row rfl _ _ (w.heap.size + 1 + 1) 24 #[.float .f64 X, .float .f64 Y] (0, 0) _ rfl (HR.out.set _ _) Tryz.underlying24 rfl iv_info) rfl ?_
  first | exact ⟨rfl, below_store2 HB.out (by omega) _ _⟩ | exact ⟨rfl, (below_store2 HB.out (by omega) _ _).drew⟩
attribute [local go_sem] run_store_flt
def abX (a b:Nat):Nat:=if 0≤sgE (eI a) (eT a)then a else if sgE (eI b) (eT b)≤0 then(enF (-eI b) (tNeg (eT b)) 1)else 0
def abY (a b:Nat):Nat:=if 0≤sgE (eI a) (eT a)then b else if sgE (eI b) (eT b)≤0 then(enF (-eI a) (tNeg (eT a)) 3)else if 0<ordE (-eI a) (eI b) (tNeg (eT a)) (eT b) then(enF (-eI a) (tNeg (eT a)) 3) else(enF (eI b) (eT b) 3)
theorem lt28 {k:Nat} (h:k<2):k=0∨k=1:=by omega
theorem enF_0 (m:Int):enF 0 (false,0,0) m=0:=by unfold enF toD;rfl
theorem dabs_1 (a b : Nat) (w : World) (ha : a < 18446744073709551616) (hb : b < 18446744073709551616) :
    Calls Tryz.prog 8 #[.agg #[.float .f64 a, .float .f64 b]] w fun r w' => r = .returned (orV (vI a b) (abX a b) (abY a b) (.int .i64 0) (.int .i64 1)) ∧ Bw w w' := by
  have k1 := fun W => d8valid a b ha hb W
  have HN1 : Hid (vI a b = true → isNaN a = false ∧ isNaN b = false) := vI_nn
  generalize hu : vI a b = u at *
  clear hu
  generalize hX : abX a b = X
  generalize hY : abY a b = Y
  have HXY : Hid (abX a b = X ∧ abY a b = Y) := ⟨hX, hY⟩
  clear hX hY
  obtain ⟨W, hW⟩ : ∃ W, W = ((w.alloc (.cells #[.float .f64 a, .float .f64 b] 24)).alloc (.cells #[.float .f64 0, .float .f64 0] 24)) := ⟨_, rfl⟩
  have HX : Hid (Bw w W ∧ IvB W (w.heap.size) a b ∧ IvB W (w.heap.size + 1) 0 0) := by
    rw [hW]
    exact ⟨bxs2_0 w a b 0 0, bxs2_1 w a b 0 0, bxs2_2 w a b 0 0⟩
  have HK : Hid (∀ w', Bw W w' → IvF w' (w.heap.size) a b ∧ IvF w' (w.heap.size + 1) 0 0) := fun w' hb => ⟨(HX.out.2.1).later hb, (HX.out.2.2).later hb⟩
  obtain ⟨⟨c0, c1, z0, z1⟩, ⟨c2, c3, z2, z3⟩⟩ := HK.out W (Below.refl _ _)
  have kv := k1 W
  clear k1
  go_enter Tryz.func8, Tryz.ntmps8
  go_upto_region 1 with fail
  rw [← hW]
  clear hW
  go_wp2_with fail
  refine kv.mono ?_
  rintro r w1 ⟨rfl, hb1⟩
  clear kv
  clear c0 z0 c1 z1 c2 z2 c3 z3
  obtain ⟨⟨c0, c1, z0, z1⟩, ⟨c2, c3, z2, z3⟩⟩ := HK.out w1 hb1
  cases u
  · have HB : Hid (Bw w w1) := HX.out.1.trans (hb1.mono HX.out.1.size)
    have HR : Hid (IvB w1 (w.heap.size + 1) 0 0) := HX.out.2.2.box hb1
    clear hb1 HK HX
    go_wp2
    refine bodyPost_ret (results_cell_tmp_row rfl _ _ (w.heap.size + 1) 24 #[.float .f64 0, .float .f64 0] (0, 0) _ rfl (HR.out.set _ _) Tryz.underlying24 rfl iv_info) rfl ?_
    exact ⟨rfl, below_store2 HB.out (by omega) _ _⟩
  obtain ⟨Na, Nb⟩ := HN1.out (by simp)
  have HB1 : Hid (Bw W w1) := hb1
  have HAB : Hid (a < 18446744073709551616 ∧ b < 18446744073709551616 ∧ isNaN a = false ∧ isNaN b = false) := ⟨ha, hb, Na, Nb⟩
  clear hb1 HN1 ha hb Na Nb
  go_upto_region 3 with fail
  go_cut [4, 5] from 10 to 15 (fun p q wx => ∃ (g0 g1 : Nat) (s0 : Bool) (ao0 : Option Addr) (n0 cap0 : Nat) (e0 : Int) (s1 : Bool) (ao1 : Option Addr) (n1 cap1 : Nat) (e1 : Int), p = .pointer (some ⟨g0, 0, none⟩) ∧ q = .pointer (some ⟨g1, 0, none⟩) ∧ Hid (Bw w1 wx ∧ EnB wx g0 (.int .i64 (eI a)) (.bool s0) (.slice ao0 n0 cap0) (.int .i64 e0) ∧ EnB wx g1 (.int .i64 (eI b)) (.bool s1) (.slice ao1 n1 cap1) (.int .i64 e1) ∧ EN wx (.agg #[.int .i64 (eI a), .bool s0, .slice ao0 n0 cap0, .int .i64 e0]) (eI a) (eT a) ∧ EN wx (.agg #[.int .i64 (eI b), .bool s1, .slice ao1 n1 cap1, .int .i64 e1]) (eI b) (eT b) ∧ w1.heap.size ≤ g0 ∧ w1.heap.size ≤ g1))
  case first =>
    refine ends_region 2 (fun k => 1) (fun k => 10 + 3 * k) (fun k => 11 + 3 * k) (fun k => 12 + 3 * k) (fun k => 4 + k) (fun k => w.heap.size) (fun k => k) (fun k => if k = 0 then a else b) w1 _ rfl (ord_of (by kernel_rfl)) ?_ ?_ ?_ ?_ ?_ ?_ ?_ ?_ ?_ ?_ ?_ ?_ ?_
    · intro k hk
      rcases lt28 hk with rfl | rfl
      · exact ⟨rfl, .inl rfl, fun w' hw => (HK.out w' (HB1.out.trans (hw.mono HB1.out.size))).1.1, HAB.out.1, HAB.out.2.2.1⟩
      · exact ⟨rfl, .inr rfl, fun w' hw => (HK.out w' (HB1.out.trans (hw.mono HB1.out.size))).1.2.1, HAB.out.2.1, HAB.out.2.2.2⟩
    · intro k hk
      rcases lt28 hk with rfl | rfl <;> decide
    · intro k hk
      rcases lt28 hk with rfl | rfl <;> exact ⟨_, rfl, rfl, rfl, rfl⟩
    · intro k hk
      rcases lt28 hk with rfl | rfl <;> exact ⟨_, rfl, rfl, rfl, rfl, ⟨_, .data⟩, by simp, rfl, rfl⟩
    · intro k hk
      rcases lt28 hk with rfl | rfl <;> exact ⟨_, rfl, rfl, ⟨_, rfl⟩, rfl, ⟨_, .data⟩, by simp, rfl, rfl⟩
    · intro k hk
      rcases lt28 hk with rfl | rfl <;> exact ⟨_, rfl, rfl, rfl, rfl⟩
    · intro k hk
      rcases lt28 hk with rfl | rfl <;> exact ⟨_, rfl, rfl, rfl, rfl, ⟨⟨_, .data⟩, by simp, rfl, rfl⟩, ⟨_, .data⟩, by simp, rfl, rfl⟩
    · show ∀ j, j < 3 * 2 → eslot (fun k => 10 + 3 * k) (fun k => 11 + 3 * k) (fun k => 12 + 3 * k) j < 43
      decide
    · show ∀ k, k < 2 → 4 + k < 43
      decide
    · decide
    · decide
    · decide
    · intro u g wx hb hk
      obtain ⟨x1, x0, cs0, x2, x3⟩ := hk 0 (by omega)
      obtain ⟨y1, y0, cs1, y2, y3⟩ := hk 1 (by omega)
      have x1' := x1
      have y1' := y1
      obtain ⟨s0, ao0, n0, cap0, e0, x4, -⟩ := x1'
      obtain ⟨s1, ao1, n1, cap1, e1, y4, -⟩ := y1'
      have x5 : cs0 = #[.int .i64 (eI a), .bool s0, .slice ao0 n0 cap0, .int .i64 e0] := by
        have := x2.symm.trans x4
        simpa using this
      have y5 : cs1 = #[.int .i64 (eI b), .bool s1, .slice ao1 n1 cap1, .int .i64 e1] := by
        have := y2.symm.trans y4
        simpa using this
      rw [x5] at x3
      rw [y5] at y3
      rw [x4] at x1
      rw [y4] at y1
      have HF : Hid (Bw w1 wx ∧ EnB wx (g 0) (.int .i64 (eI a)) (.bool s0) (.slice ao0 n0 cap0) (.int .i64 e0) ∧ EnB wx (g 1) (.int .i64 (eI b)) (.bool s1) (.slice ao1 n1 cap1) (.int .i64 e1) ∧ EN wx (.agg #[.int .i64 (eI a), .bool s0, .slice ao0 n0 cap0, .int .i64 e0]) (eI a) (eT a) ∧ EN wx (.agg #[.int .i64 (eI b), .bool s1, .slice ao1 n1 cap1, .int .i64 e1]) (eI b) (eT b) ∧ w1.heap.size ≤ g 0 ∧ w1.heap.size ≤ g 1) := ⟨hb, x3, y3, x1, y1, x0, y0⟩
      clear hk x0 y0 x1 x2 x3 x4 x5 y1 y2 y3 y4 y5 hb
      simp only [putL, eslot, show List.range (3 * 2) = [0, 1, 2, 3, 4, 5] from rfl, show List.range 2 = [0, 1] from rfl, List.map_cons, List.map_nil, List.cons_append, List.nil_append, List.foldl_cons, List.foldl_nil, Nat.reduceMod, Nat.reduceDiv, Nat.reduceMul, Nat.reduceAdd, Nat.reduceEqDiff, reduceIte, Nat.one_ne_zero, Act.put, List.setIfInBounds_toArray, List.set_cons_zero, List.set_cons_succ]
      go_wp2_with fail
      go_meet
      exact ⟨_, _, _, _, _, _, _, _, _, _, _, _, rfl, rfl, HF⟩
  case rest =>
    obtain ⟨w8, hw8⟩ : ∃ w8 : World, w8 = wc := ⟨_, rfl⟩
    subst hw8
    obtain ⟨g0, g1, s0, ao0, n0, cap0, e0, s1, ao1, n1, cap1, e1, rfl, rfl, HF⟩ := hcut
    have HB8 : Hid (Bw W w8) := HB1.out.trans (HF.out.1.mono HB1.out.size)
    have HKK : Hid (∀ w', Bw w8 w' → (w'.cell? ⟨g0, 0, none⟩ = some (.int .i64 (eI a)) ∧ w'.cell? ⟨g0, 1, none⟩ = some (.bool s0) ∧ w'.cell? ⟨g0, 2, none⟩ = some (.slice ao0 n0 cap0) ∧ w'.cell? ⟨g0, 3, none⟩ = some (.int .i64 e0)) ∧ (w'.cell? ⟨g1, 0, none⟩ = some (.int .i64 (eI b)) ∧ w'.cell? ⟨g1, 1, none⟩ = some (.bool s1) ∧ w'.cell? ⟨g1, 2, none⟩ = some (.slice ao1 n1 cap1) ∧ w'.cell? ⟨g1, 3, none⟩ = some (.int .i64 e1))) := fun w' h => ⟨(HF.out.2.1.box h).facts.1, (HF.out.2.2.1.box h).facts.1⟩
    have HE : Hid (EN w8 (.agg #[.int .i64 (eI a), .bool s0, .slice ao0 n0 cap0, .int .i64 e0]) (eI a) (eT a) ∧ EN w8 (.agg #[.int .i64 (eI b), .bool s1, .slice ao1 n1 cap1, .int .i64 e1]) (eI b) (eT b)) := ⟨HF.out.2.2.2.1, HF.out.2.2.2.2.1⟩
    have hsz : w.heap.size + 1 < w1.heap.size := Nat.lt_of_lt_of_le HX.out.2.2.lt HB1.out.size
    have HG : Hid (¬ g0 = w.heap.size + 1 ∧ ¬ g1 = w.heap.size + 1) := ⟨by have := HF.out.2.2.2.2.2.1; omega, by have := HF.out.2.2.2.2.2.2; omega⟩
    clear hsz
    clear HF HB1 c0 c1 c2 c3 z0 z1 z2 z3
    obtain ⟨⟨a0, a1, a2, a3⟩, b0, b1, b2, b3⟩ := HKK.out w8 (Below.refl _ _)
    have kk := dsignE HE.out.1
    generalize hsa : sgE (eI a) (eT a) = sa at *
    have HSA : Hid (sgE (eI a) (eT a) = sa) := hsa
    clear hsa
    go_wp2_with fail
    refine kk.mono ?_
    rintro r w9 ⟨rfl, hb9⟩
    have H9 : Hid (Bw w8 w9) := hb9
    have HW9 : Hid (Bw W w9) := HB8.out.trans (hb9.mono HB8.out.size)
    clear kk hb9 a0 a1 a2 a3 b0 b1 b2 b3
    by_cases hP : 0 ≤ sa
    · have eX : X = a := by rw [← HXY.out.1]; unfold abX; rw [HSA.out, if_pos hP]
      have eY : Y = b := by rw [← HXY.out.2]; unfold abY; rw [HSA.out, if_pos hP]
      have HXY2 : Hid (X = a ∧ Y = b) := ⟨eX, eY⟩
      clear eX eY
      have hPd : decide (sa ≥ 0) = true := decide_eq_true hP
      have hPd2 : decide (0 ≤ sa) = true := decide_eq_true hP
      obtain ⟨⟨c0, c1, z0, z1⟩, c2, c3, z2, z3⟩ := HK.out w9 HW9.out
      have HR : Hid (IvB w9 (w.heap.size + 1) 0 0) := HX.out.2.2.box HW9.out
      have HB : Hid (Bw w w9) := HX.out.1.trans (HW9.out.mono HX.out.1.size)
      clear HK HX HKK HE H9 HW9 HB8 HSA HXY
      go_wp2
      refine bodyPost_ret (results_cell_tmp_row rfl _ _ (w.heap.size + 1) 24 #[.float .f64 a, .float .f64 b] (0, 0) _ rfl (HR.out.set _ _) Tryz.underlying24 rfl iv_info) rfl ?_
      exact ⟨by rw [HXY2.out.1, HXY2.out.2]; rfl, below_store2 HB.out (by omega) _ _⟩
    have hPd : decide (sa ≥ 0) = false := decide_eq_false hP
    have hPd2 : decide (0 ≤ sa) = false := decide_eq_false hP
    have HP : Hid (¬ 0 ≤ sa) := hP
    clear hP
    obtain ⟨⟨a0, a1, a2, a3⟩, b0, b1, b2, b3⟩ := HKK.out w9 H9.out
    have kk := dsignE (HE.out.2.later H9.out)
    generalize hsb : sgE (eI b) (eT b) = sb at *
    have HSB : Hid (sgE (eI b) (eT b) = sb) := hsb
    clear hsb
    go_wp2_with fail
    refine kk.mono ?_
    rintro r w10 ⟨rfl, hb9⟩
    have H10 : Hid (Bw w8 w10) := H9.out.trans (hb9.mono H9.out.size)
    have HW10 : Hid (Bw W w10) := HB8.out.trans (H10.out.mono HB8.out.size)
    clear kk hb9 a0 a1 a2 a3 b0 b1 b2 b3 H9 HW9
    have hR : Bw w8 w10.drew := H10.out.drew
    by_cases hQ : sb ≤ 0
    · have eX : (enF (-eI b) (tNeg (eT b)) 1) = X := by rw [← HXY.out.1]; unfold abX; rw [HSA.out, HSB.out, if_neg (by have := HP.out; omega), if_pos hQ]
      have eY : (enF (-eI a) (tNeg (eT a)) 3) = Y := by rw [← HXY.out.2]; unfold abY; rw [HSA.out, HSB.out, if_neg (by have := HP.out; omega), if_pos hQ]
      have hQd : decide (sb ≤ 0) = true := decide_eq_true hQ
      have kT : ∀ W A B, EN W A (-eI b) (tNeg (eT b)) → EN W B (-eI a) (tNeg (eT a)) → Calls Tryz.prog 23 #[A, B] W fun r w' => r = .returned (.agg #[.float .f64 X, .float .f64 Y]) ∧ Bw W w' := fun W A B h1 h2 => by
        have k := dTight (tNeg_ok (eT_ok b)) (tNeg_ok (eT_ok a)) h1 h2
        rw [eX, eY] at k
        exact k
      clear eX eY
      obtain ⟨⟨a0, a1, a2, a3⟩, b0, b1, b2, b3⟩ := HKK.out w10 H10.out
      obtain ⟨hne0, hne1⟩ := HG.out
      have E0 := HE.out.1.later hR
      have E1 := HE.out.2.later hR
      go_upto_region 7 with fail
      go_region_held3 (fun w' => (w'.cell? ⟨g0, 0, none⟩ = some (.int .i64 (eI a)) ∧ w'.cell? ⟨g0, 1, none⟩ = some (.bool s0) ∧ w'.cell? ⟨g0, 2, none⟩ = some (.slice ao0 n0 cap0) ∧ w'.cell? ⟨g0, 3, none⟩ = some (.int .i64 e0)) ∧ (w'.cell? ⟨g1, 0, none⟩ = some (.int .i64 (eI b)) ∧ w'.cell? ⟨g1, 1, none⟩ = some (.bool s1) ∧ w'.cell? ⟨g1, 2, none⟩ = some (.slice ao1 n1 cap1) ∧ w'.cell? ⟨g1, 3, none⟩ = some (.int .i64 e1))) (first | (with_reducible assumption) | (with_reducible exact HKK.out _ hR) | (with_reducible exact HKK.out _ H10.out) | (with_reducible refine HKK.out _ ?_; with_reducible assumption) | (refine ⟨⟨?_, ?_, ?_, ?_⟩, ?_, ?_, ?_, ?_⟩ <;> (change World.cell? (World.setCell (World.setCell _ _ _) _ _) _ = _; rw [World.cell?_setCell_other _ _ _ _ (by first | (simp; done) | (simp; omega)), World.cell?_setCell_other _ _ _ _ (by first | (simp; done) | (simp; omega))]; first | exact (HKK.out _ B).1.1 | exact (HKK.out _ B).1.2.1 | exact (HKK.out _ B).1.2.2.1 | exact (HKK.out _ B).1.2.2.2 | exact (HKK.out _ B).2.1 | exact (HKK.out _ B).2.2.1 | exact (HKK.out _ B).2.2.2.1 | exact (HKK.out _ B).2.2.2.2)) | go_keep)
        (first | (go_at_call 24; with_reducible refine (d8turn (eI_b b) E1).mono ?_; rintro r v1 ⟨A1, rfl, F1, hq⟩; have B := hR.trans (hq.mono hR.size); replace E0 := E0.later hq; clear hq E1)
               | (go_at_call 24; with_reducible refine (d8turn (eI_b a) E0).mono ?_; rintro r v2 ⟨A2, rfl, F2, hq⟩; replace B := B.trans (hq.mono B.size); replace F1 := F1.later hq; clear hq)
               | (go_at_call 23; with_reducible refine (kT _ _ _ F1 F2).mono ?_; rintro r v3 ⟨rfl, hq⟩; replace B := B.trans (hq.mono B.size); have x4 : IvF v3 (w.heap.size + 1) 0 0 := HX.out.2.2.later (HB8.out.trans (B.mono HB8.out.size)); unfold IvF at x4; obtain ⟨x0, x1, x2, x3⟩ := x4; clear hq))
      have HB : Hid (Bw w v3) := HX.out.1.trans ((HB8.out.trans (B.mono HB8.out.size)).mono HX.out.1.size)
      have HR : Hid (IvB v3 (w.heap.size + 1) 0 0) := HX.out.2.2.box (HB8.out.trans (B.mono HB8.out.size))
      clear kT HKK HK HX hR B x0 x1 x2 x3 a0 a1 a2 a3 b0 b1 b2 b3 E0 F1 F2 HE HXY hne0 hne1 HG
      go_wp2_with fail
      refine bodyPost_ret (results_cell_tmp_row rfl _ _ (w.heap.size + 1) 24 #[.float .f64 X, .float .f64 Y] (0, 0) _ rfl (HR.out.set _ _) Tryz.underlying24 rfl iv_info) rfl ?_
      first | exact ⟨rfl, below_store2 HB.out (by omega) _ _⟩ | exact ⟨rfl, (below_store2 HB.out (by omega) _ _).drew⟩
    have hQd : decide (sb ≤ 0) = false := decide_eq_false hQ
    have HQ : Hid (¬ sb ≤ 0) := hQ
    clear hQ
    obtain ⟨⟨a0, a1, a2, a3⟩, b0, b1, b2, b3⟩ := HKK.out w10 H10.out
    have E0 := HE.out.1.later hR
    have E1 := HE.out.2.later hR
    have kO : ∀ W A B, EN W A (-eI a) (tNeg (eT a)) → EN W B (eI b) (eT b) → Calls Tryz.prog 28 #[A, B] W fun r w' => r = .returned (.int .i64 (ordE (-eI a) (eI b) (tNeg (eT a)) (eT b))) ∧ Bw W w' := fun W A B h1 h2 => dorderE (tNeg_ok (eT_ok a)) (eT_ok b) h1 h2
    generalize hso : ordE (-eI a) (eI b) (tNeg (eT a)) (eT b) = so at *
    have HSO : Hid (ordE (-eI a) (eI b) (tNeg (eT a)) (eT b) = so) := hso
    clear hso
    go_upto_region 8 with fail
    go_region_held3 (fun w' => (w'.cell? ⟨g0, 0, none⟩ = some (.int .i64 (eI a)) ∧ w'.cell? ⟨g0, 1, none⟩ = some (.bool s0) ∧ w'.cell? ⟨g0, 2, none⟩ = some (.slice ao0 n0 cap0) ∧ w'.cell? ⟨g0, 3, none⟩ = some (.int .i64 e0)) ∧ (w'.cell? ⟨g1, 0, none⟩ = some (.int .i64 (eI b)) ∧ w'.cell? ⟨g1, 1, none⟩ = some (.bool s1) ∧ w'.cell? ⟨g1, 2, none⟩ = some (.slice ao1 n1 cap1) ∧ w'.cell? ⟨g1, 3, none⟩ = some (.int .i64 e1))) (first | (with_reducible assumption) | (with_reducible exact HKK.out _ hR) | (with_reducible exact HKK.out _ H10.out) | (with_reducible refine HKK.out _ ?_; with_reducible assumption) | go_keep)
      (first | (go_at_call 24; with_reducible refine (d8turn (eI_b a) E0).mono ?_; rintro r v1 ⟨A1, rfl, F1, hq⟩; have B := hR.trans (hq.mono hR.size); replace E1 := E1.later hq; clear hq E0)
             | (go_at_call 28; with_reducible refine (kO _ _ _ F1 E1).mono ?_; rintro r v2 ⟨rfl, hq⟩; replace B := B.trans (hq.mono B.size); clear hq F1 E1))
    have HV : Hid (Bw w8 v2) := B
    have HWV : Hid (Bw W v2) := HB8.out.trans (B.mono HB8.out.size)
    clear B hR kO a0 a1 a2 a3 b0 b1 b2 b3 H10 HW10
    obtain ⟨⟨a0, a1, a2, a3⟩, b0, b1, b2, b3⟩ := HKK.out v2 HV.out
    obtain ⟨⟨c0, c1, z0, z1⟩, c2, c3, z2, z3⟩ := HK.out v2 HWV.out
    have E0 := HE.out.1.later HV.out
    have E1 := HE.out.2.later HV.out
    have N0 : EN v2 (.agg #[.int .i64 0, .bool false, .slice none 0 0, .int .i64 0]) 0 (false, 0, 0) := ⟨_, _, _, _, _, rfl, dn_nil _⟩
    have oN : Ok (false, 0, 0) := by unfold Ok; rw [dlen_zero]; rfl
    by_cases hO : 0 < so
    · have eX : X = 0 := by rw [← HXY.out.1]; unfold abX; rw [HSA.out, HSB.out, if_neg (by have := HP.out; omega), if_neg (by have := HQ.out; omega)]
      have eY : (enF (-eI a) (tNeg (eT a)) 3) = Y := by rw [← HXY.out.2]; unfold abY; rw [HSA.out, HSB.out, HSO.out, if_neg (by have := HP.out; omega), if_neg (by have := HQ.out; omega), if_pos hO]
      have hOd : decide (so > 0) = true := decide_eq_true hO
      have hOd2 : decide (0 < so) = true := decide_eq_true hO
      have kk := d8turn (eI_b a) E0
      have HN : Hid (EN v2 (.agg #[.int .i64 0, .bool false, .slice none 0 0, .int .i64 0]) 0 (false, 0, 0) ∧ Ok (false, 0, 0)) := ⟨N0, oN⟩
      have HEQ : Hid (X = 0 ∧ (enF (-eI a) (tNeg (eT a)) 3) = Y) := ⟨eX, eY⟩
      clear eX eY E0 E1 N0 oN
      go_wp2_with fail
      refine kk.mono ?_
      rintro r v3 ⟨A3, rfl, F3, hq⟩
      have kT := dTight HN.out.2 (tNeg_ok (eT_ok a)) (HN.out.1.later hq) F3
      rw [HEQ.out.2, enF_0] at kT
      have HW3 : Hid (Bw W v3) := HWV.out.trans (hq.mono HWV.out.size)
      clear kk hq F3
      go_wp2_with fail
      refine kT.mono ?_
      rintro r v4 ⟨rfl, hq⟩
      have hW4 : Bw W v4 := HW3.out.trans (hq.mono HW3.out.size)
      clear c0 c1 c2 c3 z0 z1 z2 z3 a0 a1 a2 a3 b0 b1 b2 b3
      obtain ⟨⟨c0, c1, z0, z1⟩, c2, c3, z2, z3⟩ := HK.out v4 hW4
      have HB : Hid (Bw w v4) := HX.out.1.trans (hW4.mono HX.out.1.size)
      have HR : Hid (IvB v4 (w.heap.size + 1) 0 0) := HX.out.2.2.box hW4
      clear kT hq hW4 HW3 HK HX HKK HE
      go_wp2_with fail
      refine bodyPost_ret (results_cell_tmp_row rfl _ _ (w.heap.size + 1) 24 #[.float .f64 0, .float .f64 Y] (0, 0) _ rfl (HR.out.set _ _) Tryz.underlying24 rfl iv_info) rfl ?_
      exact ⟨by rw [HEQ.out.1]; rfl, below_store2 HB.out (by omega) _ _⟩
    · have eX : X = 0 := by rw [← HXY.out.1]; unfold abX; rw [HSA.out, HSB.out, if_neg (by have := HP.out; omega), if_neg (by have := HQ.out; omega)]
      have eY : (enF (eI b) (eT b) 3) = Y := by rw [← HXY.out.2]; unfold abY; rw [HSA.out, HSB.out, HSO.out, if_neg (by have := HP.out; omega), if_neg (by have := HQ.out; omega), if_neg hO]
      have hOd : decide (so > 0) = false := decide_eq_false hO
      have hOd2 : decide (0 < so) = false := decide_eq_false hO
      have kT := dTight oN (eT_ok b) N0 E1
      rw [eY, enF_0] at kT
      have HEQ : Hid (X = 0) := eX
      clear eX eY E0 E1 N0 oN
      go_wp2_with fail
      refine kT.mono ?_
      rintro r v4 ⟨rfl, hq⟩
      have hW4 : Bw W v4 := HWV.out.trans (hq.mono HWV.out.size)
      clear c0 c1 c2 c3 z0 z1 z2 z3 a0 a1 a2 a3 b0 b1 b2 b3
      obtain ⟨⟨c0, c1, z0, z1⟩, c2, c3, z2, z3⟩ := HK.out v4 hW4
      have HB : Hid (Bw w v4) := HX.out.1.trans (hW4.mono HX.out.1.size)
      have HR : Hid (IvB v4 (w.heap.size + 1) 0 0) := HX.out.2.2.box hW4
      clear kT hq hW4 HK HX HKK HE
      go_wp2_with fail
      refine bodyPost_ret (results_cell_tmp_row rfl _ _ (w.heap.size + 1) 24 #[.float .f64 0, .float .f64 Y] (0, 0) _ rfl (HR.out.set _ _) Tryz.underlying24 rfl iv_info) rfl ?_
      exact ⟨by rw [HEQ.out]; rfl, below_store2 HB.out (by omega) _ _⟩
attribute [local go_sem] run_store_flt
theorem sadd_1 (a b c d x y:Nat) (v:Bool) (w:World)
  (k0:∀ W g T,W.heap[g]?=some (.cells #[.float .f64 a,.float .f64 b,.float .f64 c,.float .f64 d] T (0,0))→Calls Tryz.prog 29 #[.slice (some ⟨g,0,none⟩) 2 2] W fun r w'=>r=.returned (.bool v)∧Bw W w')
  (k1:v=true→∀ W,Bw w W→Calls Tryz.prog 30 #[.agg #[.float .f64 a,.float .f64 b],.agg #[.float .f64 c,.float .f64 d]] W fun r w'=>r=.returned (.agg #[.float .f64 x,.float .f64 y])∧Bw W w') :
  Calls Tryz.prog 9 #[.agg #[.float .f64 a,.float .f64 b],.agg #[.float .f64 c,.float .f64 d]] w fun r w'=>r=.returned (orV v x y (.int .i64 0) (.int .i64 1))∧Bw w w':=by
 have H0:Hid _:=k0
 have H1:Hid _:=k1
 obtain⟨W,hW⟩:∃ W,W=(((w.alloc (.cells #[.float .f64 a,.float .f64 b] 24)).alloc (.cells #[.float .f64 c,.float .f64 d] 24)).alloc (.cells #[.float .f64 0,.float .f64 0] 24)):=⟨_,rfl⟩
 have HX:Hid (Bw w W∧IvB W (w.heap.size) a b∧IvB W (w.heap.size+1) c d∧IvB W (w.heap.size+1+1) 0 0):=by
  rw[hW]
  exact⟨bxs3_0 w a b c d 0 0,bxs3_1 w a b c d 0 0,bxs3_2 w a b c d 0 0,bxs3_3 w a b c d 0 0⟩
 have HK:Hid (∀ w',Bw W w'→IvF w' (w.heap.size) a b∧IvF w' (w.heap.size+1) c d∧IvF w' (w.heap.size+1+1) 0 0):=fun w' hb=>⟨(HX.out.2.1).later hb,(HX.out.2.2.1).later hb,(HX.out.2.2.2).later hb⟩
 obtain⟨⟨c0,c1,z0,z1⟩,⟨c2,c3,z2,z3⟩,⟨c4,c5,z4,z5⟩⟩:=HK.out W (Below.refl _ _)
 have kk:=H0.out (W.alloc (.cells #[.float .f64 a,.float .f64 b,.float .f64 c,.float .f64 d] 24)) W.heap.size _ (heap_alloc_new _ _)
 clear k0 k1 H0
 go_enter Tryz.func9,Tryz.ntmps9
 go_upto_region 1 with fail
 rw[←hW]
 clear hW
 go_wp2_with fail
 refine kk.mono ?_
 rintro r w0 ⟨rfl,hb1⟩
 clear kk
 have hb2:Bw W w0:=((Below.refl _ _).alloc (Nat.le_refl _) _).trans (hb1.mono (by simp))
 clear c0 z0 c1 z1 c2 z2 c3 z3 c4 z4 c5 z5
 obtain⟨⟨c0,c1,z0,z1⟩,⟨c2,c3,z2,z3⟩,⟨c4,c5,z4,z5⟩⟩:=HK.out w0 hb2
 cases v
 ·have HB:Hid (Bw w w0):=HX.out.1.trans (hb2.mono HX.out.1.size)
  have HR:Hid (IvB w0 (w.heap.size+1+1) 0 0):=HX.out.2.2.2.box hb2
  clear hb1 hb2 HK HX H1
  go_wp2
  refine bodyPost_ret (results_cell_tmp_row rfl _ _ (w.heap.size+1+1) 24 #[.float .f64 0,.float .f64 0] (0,0) _ rfl (HR.out.set _ _) Tryz.underlying24 rfl iv_info) rfl ?_
  exact⟨rfl,below_store2 HB.out (by omega) _ _⟩
 have HB0:Hid (Bw W w0):=hb2
 clear hb1 hb2
 have kk:=H1.out (by simp) w0 (HX.out.1.trans (HB0.out.mono HX.out.1.size))
 clear H1
 go_wp2_with fail
 refine kk.mono ?_
 rintro r w1 ⟨rfl,hb2⟩
 have HB1:Hid (Bw W w1):=HB0.out.trans (hb2.mono HB0.out.size)
 clear hb2 kk HB0
 clear c0 z0 c1 z1 c2 z2 c3 z3 c4 z4 c5 z5
 obtain⟨⟨c0,c1,z0,z1⟩,⟨c2,c3,z2,z3⟩,⟨c4,c5,z4,z5⟩⟩:=HK.out w1 HB1.out
 have HB:Hid (Bw w w1):=HX.out.1.trans (HB1.out.mono HX.out.1.size)
 have HR:Hid (IvB w1 (w.heap.size+1+1) 0 0):=HX.out.2.2.2.box HB1.out
 clear HK HX HB1
 go_wp2
 refine bodyPost_ret (results_cell_tmp_row rfl _ _ (w.heap.size+1+1) 24 #[.float .f64 x,.float .f64 y] (0,0) _ rfl (HR.out.set _ _) Tryz.underlying24 rfl iv_info) rfl ?_
 exact⟨rfl,below_store2 HB.out (by omega) _ _⟩
theorem ssub_1 (a b c d u2 v2 x y : Nat) (v : Bool) (w : World)
    (k0 : ∀ W g T, W.heap[g]? = some (.cells #[.float .f64 a, .float .f64 b, .float .f64 c, .float .f64 d] T (0, 0)) → Calls Tryz.prog 29 #[.slice (some ⟨g, 0, none⟩) 2 2] W fun r w' => r = .returned (.bool v) ∧ Bw W w')
    (k1 : v = true → ∀ W, Bw w W → Calls Tryz.prog 21 #[.agg #[.float .f64 c, .float .f64 d]] W fun r w' => r = .returned (.agg #[.float .f64 u2, .float .f64 v2]) ∧ Bw W w')
    (k2 : v = true → ∀ W, Bw w W → Calls Tryz.prog 30 #[.agg #[.float .f64 a, .float .f64 b], .agg #[.float .f64 u2, .float .f64 v2]] W fun r w' => r = .returned (.agg #[.float .f64 x, .float .f64 y]) ∧ Bw W w') :
    Calls Tryz.prog 11 #[.agg #[.float .f64 a, .float .f64 b], .agg #[.float .f64 c, .float .f64 d]] w fun r w' => r = .returned (orV v x y (.int .i64 0) (.int .i64 1)) ∧ Bw w w' := by
  have H0 : Hid _ := k0
  have H1 : Hid _ := k1
  have H2 : Hid _ := k2
  obtain ⟨W, hW⟩ : ∃ W, W = (((w.alloc (.cells #[.float .f64 a, .float .f64 b] 24)).alloc (.cells #[.float .f64 c, .float .f64 d] 24)).alloc (.cells #[.float .f64 0, .float .f64 0] 24)) := ⟨_, rfl⟩
  have HX : Hid (Bw w W ∧ IvB W (w.heap.size) a b ∧ IvB W (w.heap.size + 1) c d ∧ IvB W (w.heap.size + 1 + 1) 0 0) := by
    rw [hW]
    exact ⟨bxs3_0 w a b c d 0 0, bxs3_1 w a b c d 0 0, bxs3_2 w a b c d 0 0, bxs3_3 w a b c d 0 0⟩
  have HK : Hid (∀ w', Bw W w' → IvF w' (w.heap.size) a b ∧ IvF w' (w.heap.size + 1) c d ∧ IvF w' (w.heap.size + 1 + 1) 0 0) := fun w' hb => ⟨(HX.out.2.1).later hb, (HX.out.2.2.1).later hb, (HX.out.2.2.2).later hb⟩
  obtain ⟨⟨c0, c1, z0, z1⟩, ⟨c2, c3, z2, z3⟩, ⟨c4, c5, z4, z5⟩⟩ := HK.out W (Below.refl _ _)
  have kk := H0.out (W.alloc (.cells #[.float .f64 a, .float .f64 b, .float .f64 c, .float .f64 d] 24)) W.heap.size _ (heap_alloc_new _ _)
  clear k0 k1 k2 H0
  go_enter Tryz.func11, Tryz.ntmps11
  go_upto_region 1 with fail
  rw [← hW]
  clear hW
  go_wp2_with fail
  refine kk.mono ?_
  rintro r w0 ⟨rfl, hb1⟩
  clear kk
  have hb2 : Bw W w0 := ((Below.refl _ _).alloc (Nat.le_refl _) _).trans (hb1.mono (by simp))
  clear c0 c1 c2 c3 c4 c5 z0 z1 z2 z3 z4 z5
  obtain ⟨⟨c0, c1, z0, z1⟩, ⟨c2, c3, z2, z3⟩, ⟨c4, c5, z4, z5⟩⟩ := HK.out w0 hb2
  cases v
  · have HB : Hid (Bw w w0) := HX.out.1.trans (hb2.mono HX.out.1.size)
    have HR : Hid (IvB w0 (w.heap.size + 1 + 1) 0 0) := HX.out.2.2.2.box hb2
    clear hb1 hb2 HK HX H1 H2
    go_wp2
    refine bodyPost_ret (results_cell_tmp_row rfl _ _ (w.heap.size + 1 + 1) 24 #[.float .f64 0, .float .f64 0] (0, 0) _ rfl (HR.out.set _ _) Tryz.underlying24 rfl iv_info) rfl ?_
    exact ⟨rfl, below_store2 HB.out (by omega) _ _⟩
  have HKK : Hid (∀ w', Bw W w' → (w'.cell? ⟨w.heap.size, 0, none⟩ = some (.float .f64 a) ∧ w'.cell? ⟨w.heap.size, 1, none⟩ = some (.float .f64 b)) ∧ (w'.cell? ⟨w.heap.size + 1, 0, none⟩ = some (.float .f64 c) ∧ w'.cell? ⟨w.heap.size + 1, 1, none⟩ = some (.float .f64 d))) := fun w' hb => ⟨⟨(HK.out w' hb).1.1, (HK.out w' hb).1.2.1⟩, (HK.out w' hb).2.1.1, (HK.out w' hb).2.1.2.1⟩
  have hR : Bw W w0.drew := hb2.drew
  have q1 : ∀ W', Bw W W' → Calls Tryz.prog 21 #[.agg #[.float .f64 c, .float .f64 d]] W' fun r w' => r = .returned (.agg #[.float .f64 u2, .float .f64 v2]) ∧ Bw W w' := fun W' h => (H1.out (by simp) W' (HX.out.1.trans (h.mono HX.out.1.size))).mono fun r w' ⟨e1, e2⟩ => ⟨e1, h.trans (e2.mono h.size)⟩
  have q2 : ∀ W', Bw W W' → Calls Tryz.prog 30 #[.agg #[.float .f64 a, .float .f64 b], .agg #[.float .f64 u2, .float .f64 v2]] W' fun r w' => r = .returned (.agg #[.float .f64 x, .float .f64 y]) ∧ Bw W w' ∧ (w'.cell? ⟨w.heap.size + 1 + 1, 0, none⟩ = some (.float .f64 0) ∧ w'.cell? ⟨w.heap.size + 1 + 1, 1, none⟩ = some (.float .f64 0) ∧ w'.frozen? ⟨w.heap.size + 1 + 1, 0, none⟩ = false ∧ w'.frozen? ⟨w.heap.size + 1 + 1, 1, none⟩ = false) := fun W' h => (H2.out (by simp) W' (HX.out.1.trans (h.mono HX.out.1.size))).mono fun r w' ⟨e1, e2⟩ => ⟨e1, h.trans (e2.mono h.size), (HK.out w' (h.trans (e2.mono h.size))).2.2⟩
  clear H1 H2
  go_upto_region 3 with fail
  go_region_held3 (fun w' => (w'.cell? ⟨w.heap.size, 0, none⟩ = some (.float .f64 a) ∧ w'.cell? ⟨w.heap.size, 1, none⟩ = some (.float .f64 b)) ∧ (w'.cell? ⟨w.heap.size + 1, 0, none⟩ = some (.float .f64 c) ∧ w'.cell? ⟨w.heap.size + 1, 1, none⟩ = some (.float .f64 d))) (first | (with_reducible assumption) | (with_reducible exact HKK.out _ hR) | (with_reducible exact HKK.out _ hb2) | (with_reducible refine HKK.out _ ?_; with_reducible assumption) | (refine ⟨⟨?_, ?_⟩, ?_, ?_⟩ <;> (change World.cell? (World.setCell (World.setCell _ _ _) _ _) _ = _; rw [World.cell?_setCell_other _ _ _ _ (by first | (simp; done) | (simp; omega)), World.cell?_setCell_other _ _ _ _ (by first | (simp; done) | (simp; omega))]; first | exact (HKK.out _ hb7).1.1 | exact (HKK.out _ hb7).1.2 | exact (HKK.out _ hb7).2.1 | exact (HKK.out _ hb7).2.2)) | go_keep)
    (first | (go_at_call 21; with_reducible refine (q1 _ (by first | (with_reducible assumption) | exact hR)).mono ?_; rintro r w6 ⟨rfl, hb6⟩)
           | (go_at_call 30; with_reducible refine (q2 _ (by first | (with_reducible assumption) | exact hR)).mono ?_; rintro r w7 ⟨rfl, hb7, x0, x1, x2, x3⟩))
  have HB : Hid (Bw w w7) := HX.out.1.trans (hb7.mono HX.out.1.size)
  have HR : Hid (IvB w7 (w.heap.size + 1 + 1) 0 0) := HX.out.2.2.2.box hb7
  clear q1 q2 HKK HK HX hR hb7 x0 x1 x2 x3 c0 c1 c2 c3
  go_wp2_with fail
  refine bodyPost_ret (results_cell_tmp_row rfl _ _ (w.heap.size + 1 + 1) 24 #[.float .f64 x, .float .f64 y] (0, 0) _ rfl (HR.out.set _ _) Tryz.underlying24 rfl iv_info) rfl ?_
  first | exact ⟨rfl, below_store2 HB.out (by omega) _ _⟩ | exact ⟨rfl, (below_store2 HB.out (by omega) _ _).drew⟩
theorem sneg_1 (a b x y:Nat) (v:Bool) (w:World)
  (k0:∀ W,Calls Tryz.prog 20 #[.agg #[.float .f64 a,.float .f64 b]] W fun r w'=>r=.returned (.bool v)∧Bw W w')
  (k1:v=true→∀ W,Bw w W→Calls Tryz.prog 21 #[.agg #[.float .f64 a,.float .f64 b]] W fun r w'=>r=.returned (.agg #[.float .f64 x,.float .f64 y])∧Bw W w') :
  Calls Tryz.prog 5 #[.agg #[.float .f64 a,.float .f64 b]] w fun r w'=>r=.returned (orV v x y (.int .i64 0) (.int .i64 1))∧Bw w w':=by
 have H0:Hid _:=k0
 have H1:Hid _:=k1
 obtain⟨W,hW⟩:∃ W,W=((w.alloc (.cells #[.float .f64 a,.float .f64 b] 24)).alloc (.cells #[.float .f64 0,.float .f64 0] 24)):=⟨_,rfl⟩
 have HX:Hid (Bw w W∧IvB W (w.heap.size) a b∧IvB W (w.heap.size+1) 0 0):=by
  rw[hW]
  exact⟨bxs2_0 w a b 0 0,bxs2_1 w a b 0 0,bxs2_2 w a b 0 0⟩
 have HK:Hid (∀ w',Bw W w'→IvF w' (w.heap.size) a b∧IvF w' (w.heap.size+1) 0 0):=fun w' hb=>⟨(HX.out.2.1).later hb,(HX.out.2.2).later hb⟩
 obtain⟨⟨c0,c1,z0,z1⟩,⟨c2,c3,z2,z3⟩⟩:=HK.out W (Below.refl _ _)
 have kk:=H0.out W
 clear k0 k1 H0
 go_enter Tryz.func5,Tryz.ntmps5
 go_upto_region 1 with fail
 rw[←hW]
 clear hW
 go_wp2_with fail
 refine kk.mono ?_
 rintro r w0 ⟨rfl,hb1⟩
 clear kk
 have hb2:Bw W w0:=hb1
 clear c0 z0 c1 z1 c2 z2 c3 z3
 obtain⟨⟨c0,c1,z0,z1⟩,⟨c2,c3,z2,z3⟩⟩:=HK.out w0 hb2
 cases v
 ·have HB:Hid (Bw w w0):=HX.out.1.trans (hb2.mono HX.out.1.size)
  have HR:Hid (IvB w0 (w.heap.size+1) 0 0):=HX.out.2.2.box hb2
  clear hb1 hb2 HK HX H1
  go_wp2
  refine bodyPost_ret (results_cell_tmp_row rfl _ _ (w.heap.size+1) 24 #[.float .f64 0,.float .f64 0] (0,0) _ rfl (HR.out.set _ _) Tryz.underlying24 rfl iv_info) rfl ?_
  exact⟨rfl,below_store2 HB.out (by omega) _ _⟩
 have HB0:Hid (Bw W w0):=hb2
 clear hb1 hb2
 have kk:=H1.out (by simp) w0 (HX.out.1.trans (HB0.out.mono HX.out.1.size))
 clear H1
 go_wp2_with fail
 refine kk.mono ?_
 rintro r w1 ⟨rfl,hb2⟩
 have HB1:Hid (Bw W w1):=HB0.out.trans (hb2.mono HB0.out.size)
 clear hb2 kk HB0
 clear c0 z0 c1 z1 c2 z2 c3 z3
 obtain⟨⟨c0,c1,z0,z1⟩,⟨c2,c3,z2,z3⟩⟩:=HK.out w1 HB1.out
 have HB:Hid (Bw w w1):=HX.out.1.trans (HB1.out.mono HX.out.1.size)
 have HR:Hid (IvB w1 (w.heap.size+1) 0 0):=HX.out.2.2.box HB1.out
 clear HK HX HB1
 go_wp2
 refine bodyPost_ret (results_cell_tmp_row rfl _ _ (w.heap.size+1) 24 #[.float .f64 x,.float .f64 y] (0,0) _ rfl (HR.out.set _ _) Tryz.underlying24 rfl iv_info) rfl ?_
 exact⟨rfl,below_store2 HB.out (by omega) _ _⟩
theorem sabs_1 (a b x y:Nat) (v:Bool) (w:World)
  (k0:∀ W,Calls Tryz.prog 20 #[.agg #[.float .f64 a,.float .f64 b]] W fun r w'=>r=.returned (.bool v)∧Bw W w')
  (k1:v=true→∀ W,Bw w W→Calls Tryz.prog 26 #[.agg #[.float .f64 a,.float .f64 b]] W fun r w'=>r=.returned (.agg #[.float .f64 x,.float .f64 y])∧Bw W w') :
  Calls Tryz.prog 7 #[.agg #[.float .f64 a,.float .f64 b]] w fun r w'=>r=.returned (orV v x y (.int .i64 0) (.int .i64 1))∧Bw w w':=by
 have H0:Hid _:=k0
 have H1:Hid _:=k1
 obtain⟨W,hW⟩:∃ W,W=((w.alloc (.cells #[.float .f64 a,.float .f64 b] 24)).alloc (.cells #[.float .f64 0,.float .f64 0] 24)):=⟨_,rfl⟩
 have HX:Hid (Bw w W∧IvB W (w.heap.size) a b∧IvB W (w.heap.size+1) 0 0):=by
  rw[hW]
  exact⟨bxs2_0 w a b 0 0,bxs2_1 w a b 0 0,bxs2_2 w a b 0 0⟩
 have HK:Hid (∀ w',Bw W w'→IvF w' (w.heap.size) a b∧IvF w' (w.heap.size+1) 0 0):=fun w' hb=>⟨(HX.out.2.1).later hb,(HX.out.2.2).later hb⟩
 obtain⟨⟨c0,c1,z0,z1⟩,⟨c2,c3,z2,z3⟩⟩:=HK.out W (Below.refl _ _)
 have kk:=H0.out W
 clear k0 k1 H0
 go_enter Tryz.func7,Tryz.ntmps7
 go_upto_region 1 with fail
 rw[←hW]
 clear hW
 go_wp2_with fail
 refine kk.mono ?_
 rintro r w0 ⟨rfl,hb1⟩
 clear kk
 have hb2:Bw W w0:=hb1
 clear c0 z0 c1 z1 c2 z2 c3 z3
 obtain⟨⟨c0,c1,z0,z1⟩,⟨c2,c3,z2,z3⟩⟩:=HK.out w0 hb2
 cases v
 ·have HB:Hid (Bw w w0):=HX.out.1.trans (hb2.mono HX.out.1.size)
  have HR:Hid (IvB w0 (w.heap.size+1) 0 0):=HX.out.2.2.box hb2
  clear hb1 hb2 HK HX H1
  go_wp2
  refine bodyPost_ret (results_cell_tmp_row rfl _ _ (w.heap.size+1) 24 #[.float .f64 0,.float .f64 0] (0,0) _ rfl (HR.out.set _ _) Tryz.underlying24 rfl iv_info) rfl ?_
  exact⟨rfl,below_store2 HB.out (by omega) _ _⟩
 have HB0:Hid (Bw W w0):=hb2
 clear hb1 hb2
 have kk:=H1.out (by simp) w0 (HX.out.1.trans (HB0.out.mono HX.out.1.size))
 clear H1
 go_wp2_with fail
 refine kk.mono ?_
 rintro r w1 ⟨rfl,hb2⟩
 have HB1:Hid (Bw W w1):=HB0.out.trans (hb2.mono HB0.out.size)
 clear hb2 kk HB0
 clear c0 z0 c1 z1 c2 z2 c3 z3
 obtain⟨⟨c0,c1,z0,z1⟩,⟨c2,c3,z2,z3⟩⟩:=HK.out w1 HB1.out
 have HB:Hid (Bw w w1):=HX.out.1.trans (HB1.out.mono HX.out.1.size)
 have HR:Hid (IvB w1 (w.heap.size+1) 0 0):=HX.out.2.2.box HB1.out
 clear HK HX HB1
 go_wp2
 refine bodyPost_ret (results_cell_tmp_row rfl _ _ (w.heap.size+1) 24 #[.float .f64 x,.float .f64 y] (0,0) _ rfl (HR.out.set _ _) Tryz.underlying24 rfl iv_info) rfl ?_
 exact⟨rfl,below_store2 HB.out (by omega) _ _⟩
theorem sturned (a b:Nat) (w:World) (ha:a<18446744073709551616) (hb:b<18446744073709551616) :
  Calls Tryz.prog 21 #[.agg #[.float .f64 a,.float .f64 b]] w fun r w'=>r=.returned (.agg #[.float .f64 (pl (ngt b)),.float .f64 (pl (ngt a))])∧Bw w w':=by
 have n1:∀ w,(Op.unary UnOp.neg (.float .f64 a)).run Tryz.prog w=.ok (.float .f64 (ngt a)) w:=fun w=>by rw[←negF a ha];rfl
 have n2:∀ w,(Op.unary UnOp.neg (.float .f64 b)).run Tryz.prog w=.ok (.float .f64 (ngt b)) w:=fun w=>by rw[←negF b hb];rfl
 have k:=fun W=>sbetween (ngt b) (ngt a) W (ngt_lt hb) (ngt_lt ha)
 generalize pl (ngt a)=A at *
 generalize pl (ngt b)=C at *
 obtain⟨W,hW⟩:∃ W,W=((w.alloc (.cells #[.float .f64 a,.float .f64 b] 24)).alloc (.cells #[.float .f64 0,.float .f64 0] 24)):=⟨_,rfl⟩
 have HX:Hid (Bw w W∧IvB W (w.heap.size) a b∧IvB W (w.heap.size+1) 0 0):=by
  rw[hW]
  exact⟨bxs2_0 w a b 0 0,bxs2_1 w a b 0 0,bxs2_2 w a b 0 0⟩
 have HK:Hid (∀ w',Bw W w'→IvF w' (w.heap.size) a b∧IvF w' (w.heap.size+1) 0 0):=fun w' hb=>⟨(HX.out.2.1).later hb,(HX.out.2.2).later hb⟩
 obtain⟨⟨c0,c1,z0,z1⟩,⟨c2,c3,z2,z3⟩⟩:=HK.out W (Below.refl _ _)
 have kk:=k W
 clear k ha hb
 go_enter Tryz.func21,Tryz.ntmps21
 go_upto_region 1 with fail
 rw[←hW]
 clear hW
 go_wp2_with fail
 refine kk.mono ?_
 rintro r w1 ⟨rfl,hb1⟩
 clear kk c0 c1 c2 c3 z0 z1 z2 z3
 obtain⟨⟨c0,c1,z0,z1⟩,⟨c2,c3,z2,z3⟩⟩:=HK.out w1 hb1
 have HB:Hid (Bw w w1):=HX.out.1.trans (hb1.mono HX.out.1.size)
 have HR:Hid (IvB w1 (w.heap.size+1) 0 0):=HX.out.2.2.box hb1
 clear hb1 HK HX n1 n2
 go_wp2
 refine bodyPost_ret (results_cell_row rfl _ _ (w.heap.size+1) 24 #[.float .f64 C,.float .f64 A] (0,0) _ rfl (HR.out.set _ _) Tryz.underlying24 rfl iv_info) rfl ?_
 exact⟨rfl,below_store2 HB.out (by omega) _ _⟩
theorem smag_1 (a b x y m:Nat) (p q:Bool) (w:World) (o1:(FloatKind.f64.format.order a 0==some Ordering.gt||FloatKind.f64.format.order a 0==some Ordering.eq)=p) (o2:(FloatKind.f64.format.order b 0==some Ordering.lt||FloatKind.f64.format.order b 0==some Ordering.eq)=q)
  (n1:∀ w,(Op.unary UnOp.neg (.float .f64 a)).run Tryz.prog w=.ok (.float .f64 (ngt a)) w)
  (hm:p=false→q=false→∀ W ts t,(Builtin.max_ ts t #[.float .f64 (ngt a),.float .f64 b]).run Tryz.prog W=.ok (.float .f64 m) W)
  (k:∀ W,Calls Tryz.prog 21 #[.agg #[.float .f64 a,.float .f64 b]] W fun r w'=>r=.returned (.agg #[.float .f64 x,.float .f64 y])∧Bw W w') :
  Calls Tryz.prog 26 #[.agg #[.float .f64 a,.float .f64 b]] w fun r w'=>r=.returned (if p then .agg #[.float .f64 a,.float .f64 b] else if q then .agg #[.float .f64 x,.float .f64 y] else .agg #[.float .f64 0,.float .f64 m])∧Bw w w':=by
 generalize hR:(if p then .agg #[.float .f64 a,.float .f64 b] else if q then .agg #[.float .f64 x,.float .f64 y] else .agg #[.float .f64 0,.float .f64 m]:Value)=R
 have HRV:Hid ((if p then .agg #[.float .f64 a,.float .f64 b] else if q then .agg #[.float .f64 x,.float .f64 y] else .agg #[.float .f64 0,.float .f64 m]:Value)=R):=hR
 clear hR
 have HM:Hid (p=false→q=false→∀ W ts t,(Builtin.max_ ts t #[.float .f64 (ngt a),.float .f64 b]).run Tryz.prog W=.ok (.float .f64 m) W):=hm
 obtain⟨W,hW⟩:∃ W,W=((w.alloc (.cells #[.float .f64 a,.float .f64 b] 24)).alloc (.cells #[.float .f64 0,.float .f64 0] 24)):=⟨_,rfl⟩
 have HX:Hid (Bw w W∧IvB W (w.heap.size) a b∧IvB W (w.heap.size+1) 0 0):=by
  rw[hW]
  exact⟨bxs2_0 w a b 0 0,bxs2_1 w a b 0 0,bxs2_2 w a b 0 0⟩
 have HK:Hid (∀ w',Bw W w'→IvF w' (w.heap.size) a b∧IvF w' (w.heap.size+1) 0 0):=fun w' hb=>⟨(HX.out.2.1).later hb,(HX.out.2.2).later hb⟩
 obtain⟨⟨c0,c1,z0,z1⟩,⟨c2,c3,z2,z3⟩⟩:=HK.out W (Below.refl _ _)
 have kk:=k W
 clear k hm
 go_enter Tryz.func26,Tryz.ntmps26
 go_upto_region 1 with fail
 rw[←hW]
 clear hW
 cases p
 ·cases q
  ·have hm:=HM.out rfl rfl
   have HR:Hid (IvB W (w.heap.size+1) 0 0):=HX.out.2.2
   go_wp2
   refine bodyPost_ret (results_cell_row rfl _ _ (w.heap.size+1) 24 #[.float .f64 0,.float .f64 m] (0,0) _ rfl (HR.out.set _ _) Tryz.underlying24 rfl iv_info) rfl ?_
   exact⟨congrArg Ending.returned HRV.out,below_store2 HX.out.1 (by omega) _ _⟩
  ·clear HM
   go_wp2_with fail
   refine kk.mono ?_
   rintro r w1 ⟨rfl,hb1⟩
   clear kk c0 c1 c2 c3 z0 z1 z2 z3
   obtain⟨⟨c0,c1,z0,z1⟩,⟨c2,c3,z2,z3⟩⟩:=HK.out w1 hb1
   have HB:Hid (Bw w w1):=HX.out.1.trans (hb1.mono HX.out.1.size)
   have HR:Hid (IvB w1 (w.heap.size+1) 0 0):=HX.out.2.2.box hb1
   clear hb1 HK HX
   go_wp2
   refine bodyPost_ret (results_cell_row rfl _ _ (w.heap.size+1) 24 #[.float .f64 x,.float .f64 y] (0,0) _ rfl (HR.out.set _ _) Tryz.underlying24 rfl iv_info) rfl ?_
   exact⟨congrArg Ending.returned HRV.out,below_store2 HB.out (by omega) _ _⟩
 ·clear HM
  have HR:Hid (IvB W (w.heap.size+1) 0 0):=HX.out.2.2
  go_wp2
  refine bodyPost_ret (results_cell_row rfl _ _ (w.heap.size+1) 24 #[.float .f64 a,.float .f64 b] (0,0) _ rfl (HR.out.set _ _) Tryz.underlying24 rfl iv_info) rfl ?_
  exact⟨congrArg Ending.returned HRV.out,below_store2 HX.out.1 (by omega) _ _⟩
theorem sadded_1 (a b c d p q x y : Nat) (w : World)
    (k1 : ∀ W, Bw w W → Calls Tryz.prog 54 #[.float .f64 a, .float .f64 c, .int .i64 1] W fun r w' => r = .returned (.float .f64 p) ∧ Bw W w')
    (k2 : ∀ W, Bw w W → Calls Tryz.prog 54 #[.float .f64 b, .float .f64 d, .int .i64 3] W fun r w' => r = .returned (.float .f64 q) ∧ Bw W w')
    (k3 : ∀ W, Bw w W → Calls Tryz.prog 47 #[.float .f64 p, .float .f64 q] W fun r w' => r = .returned (.agg #[.float .f64 x, .float .f64 y]) ∧ Bw W w') :
    Calls Tryz.prog 30 #[.agg #[.float .f64 a, .float .f64 b], .agg #[.float .f64 c, .float .f64 d]] w fun r w' => r = .returned (.agg #[.float .f64 x, .float .f64 y]) ∧ Bw w w' := by
  obtain ⟨W, hW⟩ : ∃ W, W = (((w.alloc (.cells #[.float .f64 a, .float .f64 b] 24)).alloc (.cells #[.float .f64 c, .float .f64 d] 24)).alloc (.cells #[.float .f64 0, .float .f64 0] 24)) := ⟨_, rfl⟩
  have HX : Hid (Bw w W ∧ IvB W (w.heap.size) a b ∧ IvB W (w.heap.size + 1) c d ∧ IvB W (w.heap.size + 1 + 1) 0 0) := by
    rw [hW]
    exact ⟨bxs3_0 w a b c d 0 0, bxs3_1 w a b c d 0 0, bxs3_2 w a b c d 0 0, bxs3_3 w a b c d 0 0⟩
  have HK : Hid (∀ w', Bw W w' → IvF w' (w.heap.size) a b ∧ IvF w' (w.heap.size + 1) c d ∧ IvF w' (w.heap.size + 1 + 1) 0 0) := fun w' hb => ⟨(HX.out.2.1).later hb, (HX.out.2.2.1).later hb, (HX.out.2.2.2).later hb⟩
  have HKK : Hid (∀ w', Bw W w' → (w'.cell? ⟨w.heap.size, 0, none⟩ = some (.float .f64 a) ∧ w'.cell? ⟨w.heap.size, 1, none⟩ = some (.float .f64 b)) ∧ (w'.cell? ⟨w.heap.size + 1, 0, none⟩ = some (.float .f64 c) ∧ w'.cell? ⟨w.heap.size + 1, 1, none⟩ = some (.float .f64 d))) := fun w' hb => ⟨⟨(HK.out w' hb).1.1, (HK.out w' hb).1.2.1⟩, (HK.out w' hb).2.1.1, (HK.out w' hb).2.1.2.1⟩
  have hR : Bw W W.drew := (Below.refl _ _).drew
  have q1 : ∀ W', Bw W W' → Calls Tryz.prog 54 #[.float .f64 a, .float .f64 c, .int .i64 1] W' fun r w' => r = .returned (.float .f64 p) ∧ Bw W w' := fun W' h => (k1 W' (HX.out.1.trans (h.mono HX.out.1.size))).mono fun r w' ⟨e1, e2⟩ => ⟨e1, h.trans (e2.mono h.size)⟩
  have q2 : ∀ W', Bw W W' → Calls Tryz.prog 54 #[.float .f64 b, .float .f64 d, .int .i64 3] W' fun r w' => r = .returned (.float .f64 q) ∧ Bw W w' := fun W' h => (k2 W' (HX.out.1.trans (h.mono HX.out.1.size))).mono fun r w' ⟨e1, e2⟩ => ⟨e1, h.trans (e2.mono h.size)⟩
  have q3 : ∀ W', Bw W W' → Calls Tryz.prog 47 #[.float .f64 p, .float .f64 q] W' fun r w' => r = .returned (.agg #[.float .f64 x, .float .f64 y]) ∧ Bw W w' ∧ (w'.cell? ⟨w.heap.size + 1 + 1, 0, none⟩ = some (.float .f64 0) ∧ w'.cell? ⟨w.heap.size + 1 + 1, 1, none⟩ = some (.float .f64 0) ∧ w'.frozen? ⟨w.heap.size + 1 + 1, 0, none⟩ = false ∧ w'.frozen? ⟨w.heap.size + 1 + 1, 1, none⟩ = false) := fun W' h => (k3 W' (HX.out.1.trans (h.mono HX.out.1.size))).mono fun r w' ⟨e1, e2⟩ => ⟨e1, h.trans (e2.mono h.size), (HK.out w' (h.trans (e2.mono h.size))).2.2⟩
  obtain ⟨⟨c0, c1⟩, c2, c3⟩ := HKK.out W (Below.refl _ _)
  clear k1 k2 k3
  go_enter Tryz.func30, Tryz.ntmps30
  go_upto_region 1 with fail
  rw [← hW]
  clear hW
  go_region_held3 (fun w' => (w'.cell? ⟨w.heap.size, 0, none⟩ = some (.float .f64 a) ∧ w'.cell? ⟨w.heap.size, 1, none⟩ = some (.float .f64 b)) ∧ (w'.cell? ⟨w.heap.size + 1, 0, none⟩ = some (.float .f64 c) ∧ w'.cell? ⟨w.heap.size + 1, 1, none⟩ = some (.float .f64 d))) (first | (with_reducible assumption) | exact HKK.out _ hR | (refine HKK.out _ ?_; with_reducible assumption) | (refine ⟨⟨?_, ?_⟩, ?_, ?_⟩ <;> (change World.cell? (World.setCell (World.setCell _ _ _) _ _) _ = _; rw [World.cell?_setCell_other _ _ _ _ (by first | (simp; done) | (simp; omega)), World.cell?_setCell_other _ _ _ _ (by first | (simp; done) | (simp; omega))]; first | exact (HKK.out _ hb7).1.1 | exact (HKK.out _ hb7).1.2 | exact (HKK.out _ hb7).2.1 | exact (HKK.out _ hb7).2.2)) | go_keep)
    (first | (go_at_call 54; with_reducible refine (q1 _ (by first | (with_reducible assumption) | exact hR)).mono ?_; rintro r w5 ⟨rfl, hb5⟩)
           | (go_at_call 54; with_reducible refine (q2 _ (by first | (with_reducible assumption) | exact hR)).mono ?_; rintro r w6 ⟨rfl, hb6⟩)
           | (go_at_call 47; with_reducible refine (q3 _ (by first | (with_reducible assumption) | exact hR)).mono ?_; rintro r w7 ⟨rfl, hb7, x0, x1, x2, x3⟩))
  have HB : Hid (Bw w w7) := HX.out.1.trans (hb7.mono HX.out.1.size)
  have HR : Hid (IvB w7 (w.heap.size + 1 + 1) 0 0) := HX.out.2.2.2.box hb7
  clear q1 q2 q3 HKK HK HX hR hb7 x0 x1 x2 x3 c0 c1 c2 c3
  go_wp2_with fail
  refine bodyPost_ret (results_cell_row rfl _ _ (w.heap.size + 1 + 1) 24 #[.float .f64 x, .float .f64 y] (0, 0) _ rfl (HR.out.set _ _) Tryz.underlying24 rfl iv_info) rfl ?_
  first | exact ⟨rfl, below_store2 HB.out (by omega) _ _⟩ | exact ⟨rfl, (below_store2 HB.out (by omega) _ _).drew⟩
theorem tF_zero8 {a:Nat} (h:mag a=0):tF a=(false,0,0):=by
 obtain⟨-,-,-,f4,-⟩:=(tF_ok a).facts
 refine f4 ?_
 unfold tF cn
 have hm:Ie.mant a=0:=by
  have e:=(val_mant a (by omega)).1
  rw[h,val_zero] at e
  have hp:=Nat.two_pow_pos (Ie.lp a+1074).toNat
  rcases Nat.mul_eq_zero.1 e.symm with h|h
  ·exact h
  ·omega
 rw[if_pos hm]
theorem tF_ngt8 {b:Nat} (hb:b<18446744073709551616) (h0:mag b≠0):tF (ngt b)=(!(tF b).1,(tF b).2.1,(tF b).2.2):=by
 have e1:Ie.mant (ngt b)=Ie.mant b:=by unfold Ie.mant;rw[ngt_mag hb]
 have e2:Ie.lp (ngt b)=Ie.lp b:=by unfold Ie.lp;rw[ngt_mag hb]
 unfold tF cn
 rw[e1,e2,ngt_neg hb,if_neg (Ie.mant_ne h0),if_neg (Ie.mant_ne h0)]
theorem tf_cn8 {s:Bool} {z:Nat} {e m:Int} (hm:1≤m∧m≤3) (h:z≠0):tfF (cn s z e).1 true (cn s z e).2.1 (cn s z e).2.2 m=tfF s true z e m:=by
 have hs:=tz_spec z z (Nat.le_refl _) h
 unfold cn
 rw[if_neg h]
 show tfF s true (z / 2^tz z) (e+(tz z:Int)) m=_
 rw[←tf_shl hm,Nat.mul_comm,hs.1]
theorem tF_val8 {a:Nat} (hf:mag a<9218868437227405312) (h0:mag a≠0):(tF a).1=neg a∧val (mag a)=(tF a).2.1*2^((tF a).2.2+1074).toNat ∧ -1074≤(tF a).2.2:=by
 obtain⟨e1,e2,e3⟩:=val_mant a hf
 have hm:Ie.mant a≠0:=by
  intro h
  rw[h,Nat.zero_mul] at e1
  exact h0 ((val_eq_zero _).1 e1)
 have hs:=tz_spec (Ie.mant a) (Ie.mant a) (Nat.le_refl _) hm
 unfold tF cn
 rw[if_neg hm]
 refine⟨rfl,?_,by show -1074≤Ie.lp a+(tz (Ie.mant a):Int);omega⟩
 show val (mag a)=Ie.mant a / 2^tz (Ie.mant a)*2^(Ie.lp a+(tz (Ie.mant a):Int)+1074).toNat
 rw[e1,show(Ie.lp a+(tz (Ie.mant a):Int)+1074).toNat=tz (Ie.mant a)+(Ie.lp a+1074).toNat by omega,Nat.pow_add,←Nat.mul_assoc,Nat.mul_comm (Ie.mant a / 2^tz (Ie.mant a)),hs.1]
theorem tf_tF8 {a:Nat} (ha:a<18446744073709551616) (hf:mag a<9218868437227405312) (h0:mag a≠0) (m:Int) (hm:1≤m∧m≤3):tfF (neg a) true (tF a).2.1 (tF a).2.2 m=a:=by
 obtain⟨M,hM,hl⟩:=sM_lt a ha
 have hc:=cn_parts a M ha hf hM
 have hn:nM a=M:=by unfold nM;rw[hM];rfl
 have hb:=tf_back ha hf m hm
 rw[if_neg h0,hn,show nN a=neg a by unfold nN;rw[if_neg h0]] at hb
 have hM0:M≠0:=by
  intro h
  rw[h] at hc
  have:=tF_ne h0
  rw[←hc] at this
  exact this rfl
 have:=tf_cn8 (s:=neg a) (e:=Ie.sE a) hm hM0
 rw[hc,(tF_val8 hf h0).1] at this
 rw[this,hb]
theorem val_sgn8 {x:Nat} (hx:x<18446744073709551616):x=if neg x then mag x+9223372036854775808 else mag x:=by
 unfold neg mag
 split <;> rename_i h <;> simp only[decide_eq_true_eq] at h <;> omega
theorem ngt_ngt8 {a:Nat} (h:a<18446744073709551616):ngt (ngt a)=a:=by
 unfold ngt neg
 split <;> rename_i h1 <;> simp only[decide_eq_true_eq] at h1 <;> split <;> rename_i h2 <;> simp only[decide_eq_true_eq] at h2 <;> omega
theorem eI_zero_fin {f:Nat} (hf:f<18446744073709551616) (hn:isNaN f=false):(eI f=0↔mag f<9218868437227405312):=by
 have n':¬ 9218868437227405312<mag f:=of_decide_eq_false hn
 have hv:=val_sgn8 hf
 unfold eI
 constructor
 ·intro h
  by_cases h1:mag f<9218868437227405312
  ·exact h1
  ·exfalso
   have e:mag f=9218868437227405312:=by omega
   rw[e] at hv
   cases hs:neg f
   ·rw[hs] at hv
    rw[if_pos (by simpa using hv)] at h
    omega
   ·rw[hs] at hv
    have hv2:f=18442240474082181120:=by simpa using hv
    rw[if_neg (by omega),if_pos hv2] at h
    omega
 ·intro h
  rw[if_neg ?_,if_neg ?_]
  ·rintro rfl;revert h;decide
  ·rintro rfl;revert h;decide
theorem eI_ngt {f:Nat} (hf:f<18446744073709551616):eI (ngt f) = -eI f:=by
 unfold eI
 by_cases h1:f=9218868437227405312
 ·subst h1;decide
 ·by_cases h2:f=18442240474082181120
  ·subst h2;decide
  ·rw[if_neg h1,if_neg h2,if_neg ?_,if_neg ?_]
   ·rfl
   ·intro h;exact h1 (by rw[←ngt_ngt8 hf,h];decide)
   ·intro h;exact h2 (by rw[←ngt_ngt8 hf,h];decide)
theorem eT_ngt {f:Nat} (hf:f<18446744073709551616):eT (ngt f)=tNeg (eT f):=by
 unfold eT
 rw[eI_ngt hf]
 by_cases h:eI f=0
 ·rw[if_pos h,if_pos (by omega)]
  unfold tNeg
  by_cases h0:mag f=0
  ·have h0':mag (ngt f)=0:=by rw[ngt_mag hf];exact h0
   rw[tF_zero8 h0,tF_zero8 h0',if_pos rfl]
  ·rw[if_neg (tF_ne h0),tF_ngt8 hf h0]
 ·rw[if_neg h,if_neg (by omega)]
  rfl
theorem pl_cases (f:Nat):pl f=f∨(f=9223372036854775808∧pl f=0):=by
 unfold pl
 by_cases h:f=9223372036854775808
 ·exact .inr ⟨h,if_pos h⟩
 ·exact .inl (if_neg h)
theorem eI_pl (f:Nat):eI (pl f)=eI f:=by
 rcases pl_cases f with h|⟨h1,h2⟩
 ·rw[h]
 ·rw[h2,h1];decide
theorem eT_pl (f:Nat):eT (pl f)=eT f:=by
 rcases pl_cases f with h|⟨h1,h2⟩
 ·rw[h]
 ·rw[h2,h1]
  unfold eT
  rw[show eI 0=0 by decide,show eI 9223372036854775808=0 by decide,if_pos rfl,if_pos rfl,tF_zero8 (show mag 0=0 by decide),tF_zero8 (show mag 9223372036854775808=0 by decide)]
theorem enF_self {f:Nat} (hf:f<18446744073709551616) (hn:isNaN f=false) {m:Int} (hm:1≤m∧m≤3):enF (eI f) (eT f) m=pl f:=by
 unfold enF
 by_cases h:eI f=0
 ·rw[if_pos h]
  have hfin:=(eI_zero_fin hf hn).1 h
  have e:eT f=tF f:=by unfold eT;rw[if_pos h]
  rw[e]
  unfold toD
  by_cases h0:mag f=0
  ·rw[tF_zero8 h0,if_pos rfl]
   have:f=0∨f=9223372036854775808:=by
    have:=val_sgn8 hf
    rw[h0] at this
    cases hs:neg f <;> rw[hs] at this <;> simp at this <;> omega
   rcases this with rfl|rfl <;> decide
  ·rw[if_neg (tF_ne h0),(tF_val8 hfin h0).1,tf_tF8 hf hfin h0 m hm]
 ·rw[if_neg h]
  have hv:f=9218868437227405312∨f=18442240474082181120:=by
   unfold eI at h
   by_cases h1:f=9218868437227405312
   ·exact .inl h1
   ·rw[if_neg h1] at h
    by_cases h2:f=18442240474082181120
    ·exact .inr h2
    ·rw[if_neg h2] at h;exact absurd rfl h
  rcases hv with rfl|rfl <;> decide
theorem cmpI_neg_iff (x y:Int):(cmpI x y<0↔x<y)∧(0<cmpI x y↔y<x):=by
 unfold cmpI
 constructor
 ·split
  ·omega
  ·split <;> omega
 ·split
  ·omega
  ·split <;> omega
theorem vz_tF8 {a:Nat} (ha:a<18446744073709551616) (hf:mag a<9218868437227405312):vz 5000000 (tF a).1 (tF a).2.1 (tF a).2.2=vz 5000000 (nN a) (nM a) (Ie.sE a):=by
 obtain⟨M,hM,hl⟩:=sM_lt a ha
 have hc:=cn_parts a M ha hf hM
 have hn:nM a=M:=by unfold nM;rw[hM];rfl
 have hb:0≤Ie.sE a+(5000000:Nat):=by
  have:=(sE_le a).1
  omega
 rw[←hc,vz_cn hb,hn]
 unfold nN
 by_cases h0:mag a=0
 ·have:M=0:=by
   rcases of_parts a M ha hf hM with ⟨h1,h2⟩|⟨h1,h2,-,h3,h4⟩
   ·omega
   ·exfalso
    have e:=tF_zero8 h0
    rw[←hc] at e
    unfold cn at e
    by_cases hM0:M=0
    ·omega
    ·rw[if_neg hM0] at e
     have e2:M / 2^tz M=0:=congrArg (fun t=>t.2.1) e
     have hs:=tz_spec M M (Nat.le_refl _) hM0
     rw[e2] at hs
     have:=hs.1
     omega
  subst this
  unfold vz
  rw[sv_zero,sv_zero]
 ·rw[if_neg h0]
theorem tF_e5000000 (a:Nat):0≤(tF a).2.2+(5000000:Nat):=by
 obtain⟨f1,f2,f3,f4,f5⟩:=(tF_ok a).facts
 omega
theorem sE_e5000000 {a:Nat} (ha:a<18446744073709551616) (hf:mag a<9218868437227405312):0≤Ie.sE a+(5000000:Nat):=by
 have:=(sE_le a).1
 omega
theorem ord_tF8 {a b:Nat} (ha:a<18446744073709551616) (hb:b<18446744073709551616) (fa:mag a<9218868437227405312) (fb:mag b<9218868437227405312) :
  ordN (tF a).1 (tF a).2.1 (tF a).2.2 (tF b).1 (tF b).2.1 (tF b).2.2=cmpI (stp a) (stp b):=by
 rw[ordN_vz (tF_e5000000 a) (tF_e5000000 b),vz_tF8 ha fa,vz_tF8 hb fb,←ordN_vz (sE_e5000000 ha fa) (sE_e5000000 hb fb)]
 exact ord_num fa fb
theorem inf_or {f:Nat} (hf:f<18446744073709551616) (hn:isNaN f=false):(mag f<9218868437227405312∧eI f=0∧eT f=tF f)∨(f=9218868437227405312∧eI f=1)∨(f=18442240474082181120∧eI f = -1):=by
 by_cases h:eI f=0
 ·exact .inl ⟨(eI_zero_fin hf hn).1 h,h,by unfold eT;rw[if_pos h]⟩
 ·by_cases h1:f=9218868437227405312
  ·exact .inr (.inl ⟨h1,by rw[h1];decide⟩)
  ·by_cases h2:f=18442240474082181120
   ·exact .inr (.inr ⟨h2,by rw[h2];decide⟩)
   ·exfalso
    apply h
    unfold eI
    rw[if_neg h1,if_neg h2]
theorem fin_stp {f:Nat} (h:mag f<9218868437227405312) : -9218868437227405312<stp f∧stp f<9218868437227405312:=by
 unfold stp sgn
 split <;> omega
theorem ordE_stp {a b:Nat} (ha:a<18446744073709551616) (hb:b<18446744073709551616) (na:isNaN a=false) (nb:isNaN b=false):ordE (eI a) (eI b) (eT a) (eT b)=cmpI (stp a) (stp b):=by
 have sI:stp 9218868437227405312=9218868437227405312:=by decide
 have sN:stp 18442240474082181120 = -9218868437227405312:=by decide
 unfold ordE
 rcases inf_or ha na with ⟨fa,ia,ta⟩|⟨rfl,ia⟩|⟨rfl,ia⟩ <;> rcases inf_or hb nb with ⟨fb,ib,tb⟩|⟨rfl,ib⟩|⟨rfl,ib⟩
 ·rw[ia,ib,ta,tb,if_pos rfl,if_pos rfl,ord_tF8 ha hb fa fb]
 ·have:=fin_stp fa
  rw[ia,ib,if_neg (by omega),if_pos (by omega),sI];unfold cmpI;rw[if_pos (by omega)]
 ·have:=fin_stp fa
  rw[ia,ib,if_neg (by omega),if_neg (by omega),sN];unfold cmpI;rw[if_neg (by omega),if_pos (by omega)]
 ·have:=fin_stp fb
  rw[ia,ib,if_neg (by omega),if_neg (by omega),sI];unfold cmpI;rw[if_neg (by omega),if_pos (by omega)]
 ·rw[ia,if_pos rfl,if_neg (by omega)];unfold cmpI;rw[if_neg (by omega),if_neg (by omega)]
 ·decide
 ·have:=fin_stp fb
  rw[ia,ib,if_neg (by omega),if_pos (by omega),sN];unfold cmpI;rw[if_pos (by omega)]
 ·decide
 ·rw[ia,if_pos rfl,if_neg (by omega)];unfold cmpI;rw[if_neg (by omega),if_neg (by omega)]
theorem sgE_stp {a:Nat} (ha:a<18446744073709551616) (na:isNaN a=false):(0≤sgE (eI a) (eT a)↔0≤stp a)∧(sgE (eI a) (eT a)≤0↔stp a≤0):=by
 unfold sgE
 rcases inf_or ha na with ⟨fa,ia,ta⟩|⟨rfl,ia⟩|⟨rfl,ia⟩
 ·rw[ia,ta,if_pos rfl]
  by_cases h0:mag a=0
  ·have:stp a=0:=by unfold stp sgn;rw[h0];split <;> rfl
   rw[tF_zero8 h0,if_pos rfl,this]
   omega
  ·rw[if_neg (tF_ne h0),(tF_val8 fa h0).1]
   unfold stp sgn
   cases neg a
   ·rw[if_neg (by simp),if_neg (by simp)];omega
   ·rw[if_pos rfl,if_pos rfl];omega
 ·rw[ia,if_neg (by omega),show stp 9218868437227405312=9218868437227405312 by decide];omega
 ·rw[ia,if_neg (by omega),show stp 18442240474082181120 = -9218868437227405312 by decide];omega
theorem enF_plus {a c:Nat} (ha:a<18446744073709551616) (hc:c<18446744073709551616) (na:isNaN a=false) (nc:isNaN c=false) (hx:¬ (eI a=1∧eI c = -1)) (hy:¬ (eI a = -1∧eI c=1)) {m:Int} (hm:1≤m∧m≤3) :
  enF (eI a+eI c) (plT (eI a) (eI c) (eT a) (eT c)) m=pl (fAdM a c m):=by
 have fI:fin 9218868437227405312=false:=by decide
 have fN:fin 18442240474082181120=false:=by decide
 unfold enF plT fAdM
 rcases inf_or ha na with ⟨fa,ia,ta⟩|⟨rfl,ia⟩|⟨rfl,ia⟩ <;> rcases inf_or hc nc with ⟨fb,ib,tb⟩|⟨rfl,ib⟩|⟨rfl,ib⟩
 ·have f1:fin a=true:=decide_eq_true fa
  have f2:fin c=true:=decide_eq_true fb
  rw[ia,ib,if_pos (by omega),if_pos (by omega),ta,tb,if_neg (by rw[f1,f2];simp)]
  unfold toD
  by_cases h0:(tS (tF a) (tF c)).2.1=0
  ·rw[if_pos h0,if_pos h0]
   cases z0 (neg a) (neg c) m <;> rfl
  ·rw[if_neg h0,if_neg h0]
 ·rw[ia,ib,if_neg (by omega),if_pos (by omega),if_pos (.inr fI)]
  unfold addX
  rw[na,nc,if_neg (by simp),if_neg (by omega)]
  rfl
 ·rw[ia,ib,if_neg (by omega),if_neg (by omega),if_pos (.inr fN)]
  unfold addX
  rw[na,nc,if_neg (by simp),if_neg (by omega)]
  rfl
 ·rw[ia,ib,if_neg (by omega),if_pos (by omega),if_pos (.inl fI)]
  unfold addX
  rw[na,nc,if_neg (by simp),if_pos (by decide),if_neg (by omega)]
  rfl
 ·rw[ia,if_neg (by omega),if_pos (by omega),if_pos (.inl fI)];decide
 ·exact absurd ⟨ia,ib⟩ hx
 ·rw[ia,ib,if_neg (by omega),if_neg (by omega),if_pos (.inl fN)]
  unfold addX
  rw[na,nc,if_neg (by simp),if_pos (by decide),if_neg (by omega)]
  rfl
 ·exact absurd ⟨ia,ib⟩ hy
 ·rw[ia,if_neg (by omega),if_neg (by omega),if_pos (.inl fN)];decide
end Go.Proofs.YtjiolfnchiioaaaGreatDoor
