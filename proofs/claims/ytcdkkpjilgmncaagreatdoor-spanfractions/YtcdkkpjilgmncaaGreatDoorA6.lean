/- Own work: contracts of the program's functions, part 6: W41. -/
import Derived.Test.YtcdkkpjilgmncaaGreatDoorA5

set_option maxHeartbeats 16000000
namespace Go.Proofs.YtcdkkpjilgmncaaGreatDoor
set_option linter.unusedVariables false
set_option linter.unusedSimpArgs false
open Go.RowKit
set_option maxRecDepth 200000 in
theorem c21_t (na nb : Bool) (ua va : Option Addr) (un uc vn vc z : Nat) (ea eb e : Int) (s nn : Bool) (y : Nat) (w : World) (hz : dlen z ≤ 35184372088832) (hok : okR s z e = true)
    (k67 : ∀ W g, Below w.heap.size w W → W.heap[g]? = some (.cells #[.bool na, .slice ua un uc, .int .i64 ea, .bool nb, .slice va vn vc, .int .i64 eb] 28 (0, 0)) → Calls Tryz.prog 44 #[.slice (some ⟨g, 0, none⟩) 2 2] W fun r w' => r = .returned (.bool true) ∧ Below W.heap.size W w')
    (kN : ∀ W, Below w.heap.size w W → Calls Tryz.prog 45 #[.agg #[.bool nb, .slice va vn vc, .int .i64 eb]] W fun r w' => ∃ v, r = .returned (.agg #[.bool nn, v, .int .i64 eb]) ∧ Own w' W.heap.size v y ∧ Below W.heap.size W w')
    (kS : ∀ W v base, Below w.heap.size w W → Own W base v y → Calls Tryz.prog 83 #[.agg #[.bool na, .slice ua un uc, .int .i64 ea], .agg #[.bool nn, v, .int .i64 eb]] W fun r w' => ∃ a, r = .returned a ∧ Nrm w' W.heap.size a s z e ∧ Below W.heap.size W w') :
    Calls Tryz.prog 87 #[.agg #[.bool na, .slice ua un uc, .int .i64 ea], .agg #[.bool nb, .slice va vn vc, .int .i64 eb]] w fun r w' => Held w s z e r w' := by
  obtain ⟨W, hW⟩ : ∃ W, W = ((w.alloc (.cells #[.bool na, .slice ua un uc, .int .i64 ea] 28)).alloc (.cells #[.bool nb, .slice va vn vc, .int .i64 eb] 28)).alloc (.cells #[.bool false, .slice none 0 0, .int .i64 0] 28) := ⟨_, rfl⟩
  obtain ⟨hA, hBb, hC, hsz, hBW⟩ := boxes3 _ _ _ hW
  have hB4 : Below w.heap.size w (W.alloc (.cells #[.bool na, .slice ua un uc, .int .i64 ea, .bool nb, .slice va vn vc, .int .i64 eb] 28)) := hBW.alloc hBW.size _
  have k1 := k67 (W.alloc (.cells #[.bool na, .slice ua un uc, .int .i64 ea, .bool nb, .slice va vn vc, .int .i64 eb] 28)) (w.heap.size + 1 + 1 + 1) hB4 (by rw [← hsz]; exact heap_alloc_new _ _)
  have HH : Hid ((W.heap[w.heap.size]? = some (.cells #[.bool na, .slice ua un uc, .int .i64 ea] 28 (0, 0)) ∧ W.heap[w.heap.size + 1]? = some (.cells #[.bool nb, .slice va vn vc, .int .i64 eb] 28 (0, 0)) ∧ W.heap[w.heap.size + 1 + 1]? = some (.cells #[.bool false, .slice none 0 0, .int .i64 0] 28 (0, 0))) ∧ W.heap.size = w.heap.size + 1 + 1 + 1 ∧ Below w.heap.size w W ∧ Below W.heap.size W (W.alloc (.cells #[.bool na, .slice ua un uc, .int .i64 ea, .bool nb, .slice va vn vc, .int .i64 eb] 28))) := ⟨⟨hA, hBb, hC⟩, hsz, hBW, (Below.refl _ _).alloc (Nat.le_refl _) _⟩
  have HZ : Hid (dlen z ≤ 35184372088832 ∧ okR s z e = true) := ⟨hz, hok⟩
  have HKN : Hid _ := kN
  have HKS : Hid _ := kS
  clear hA hBb hC hsz hBW hB4 k67 kN kS hz hok
  go_enter Tryz.func87, Tryz.ntmps87
  go_wp2_with fail
  rw [← hW]
  clear hW
  refine k1.mono ?_
  rintro r w1 ⟨rfl, hB1⟩
  clear k1
  have hBW1 : Below W.heap.size W w1 := HH.out.2.2.2.trans (hB1.mono HH.out.2.2.2.size)
  have H3 : Hid (w1.heap[w.heap.size]? = some (.cells #[.bool na, .slice ua un uc, .int .i64 ea] 28 (0, 0)) ∧ w1.heap[w.heap.size + 1]? = some (.cells #[.bool nb, .slice va vn vc, .int .i64 eb] 28 (0, 0)) ∧ w1.heap[w.heap.size + 1 + 1]? = some (.cells #[.bool false, .slice none 0 0, .int .i64 0] 28 (0, 0)) ∧ w.heap.size + 1 + 1 + 1 ≤ w1.heap.size ∧ Below w.heap.size w w1) := ⟨box_later HH.out.1.1 hBW1 (by have := HH.out.2.1; omega), box_later HH.out.1.2.1 hBW1 (by have := HH.out.2.1; omega), box_later HH.out.1.2.2 hBW1 (by have := HH.out.2.1; omega), by have := hBW1.size; have := HH.out.2.1; omega, HH.out.2.2.1.trans (hBW1.mono HH.out.2.2.1.size)⟩
  clear hB1 hBW1
  have HK : Hid (∀ w', Below (w.heap.size + 1 + 1) w1 w' → ((w'.cell? ⟨w.heap.size, 0, none⟩ = some (.bool na) ∧ w'.cell? ⟨w.heap.size, 1, none⟩ = some (.slice ua un uc) ∧ w'.cell? ⟨w.heap.size, 2, none⟩ = some (.int .i64 ea)) ∧ (w'.cell? ⟨w.heap.size + 1, 0, none⟩ = some (.bool nb) ∧ w'.cell? ⟨w.heap.size + 1, 1, none⟩ = some (.slice va vn vc) ∧ w'.cell? ⟨w.heap.size + 1, 2, none⟩ = some (.int .i64 eb)))) := fun w' hb => ⟨(box_cells (box_later H3.out.1 hb (by omega))).1, (box_cells (box_later H3.out.2.1 hb (by omega))).1⟩
  have H1 : Hid (w.heap.size + 1 + 1 ≤ w1.heap.size) := (by have := H3.out.2.2.2.1; omega : w.heap.size + 1 + 1 ≤ w1.heap.size)
  have hBR : Below w1.heap.size w1 w1.drew := (Below.refl _ _).drew
  have hBR1 : Below (w.heap.size + 1 + 1) w1 w1.drew := (Below.refl _ _).drew
  have kn : ∀ w4, Below w1.heap.size w1 w4 → Calls Tryz.prog 45 #[.agg #[.bool nb, .slice va vn vc, .int .i64 eb]] w4 fun r w' => ∃ ao n cap, r = .returned (.agg #[.bool nn, .slice ao n cap, .int .i64 eb]) ∧ Own w' w1.heap.size (.slice ao n cap) y ∧ Below w1.heap.size w1 w' := fun w4 hb =>
    (HKN.out w4 (H3.out.2.2.2.2.trans (hb.mono H3.out.2.2.2.2.size))).mono fun r w' ⟨v, e1, o1, o2⟩ => by
      obtain ⟨ao, cap, rfl, -, -, -⟩ := o1.is
      exact ⟨_, _, _, e1, o1.mono hb.size, hb.trans (o2.mono hb.size)⟩
  have ks : ∀ ao n cap w5, Own w5 w1.heap.size (.slice ao n cap) y → Below w1.heap.size w1 w5 → Calls Tryz.prog 83 #[.agg #[.bool na, .slice ua un uc, .int .i64 ea], .agg #[.bool nn, .slice ao n cap, .int .i64 eb]] w5 fun r w' => ∃ s' ao n cap ex, r = .returned (.agg #[.bool s', .slice ao n cap, .int .i64 ex]) ∧ Nrm w' w1.heap.size (.agg #[.bool s', .slice ao n cap, .int .i64 ex]) s z e ∧ Below w1.heap.size w1 w' := fun ao n cap w5 ho hb =>
    (HKS.out w5 _ _ (H3.out.2.2.2.2.trans (hb.mono H3.out.2.2.2.2.size)) ho).mono fun r w' ⟨v, e1, o1, o2⟩ => by
      obtain ⟨s', ao, n, cap, ex, rfl⟩ := o1.shape
      exact ⟨_, _, _, _, _, e1, o1.mono hb.size, hb.trans (o2.mono hb.size)⟩
  have kb : ∀ s6 ao6 n6 cap6 ex6 w6, Nrm w6 w1.heap.size (.agg #[.bool s6, .slice ao6 n6 cap6, .int .i64 ex6]) s z e → Below w1.heap.size w1 w6 → Calls Tryz.prog 82 #[.agg #[.bool s6, .slice ao6 n6 cap6, .int .i64 ex6]] w6 fun r w' => r = .returned (.tuple #[.agg #[.bool s6, .slice ao6 n6 cap6, .int .i64 ex6], .int .i64 0]) ∧ Hid (Nrm w' w1.heap.size (.agg #[.bool s6, .slice ao6 n6 cap6, .int .i64 ex6]) s z e) ∧ Below w1.heap.size w1 w' ∧ Hid (w'.heap[w.heap.size + 1 + 1]? = some (.cells #[.bool false, .slice none 0 0, .int .i64 0] 28 (0, 0))) ∧
      (w'.cell? ⟨w.heap.size + 1 + 1, 0, none⟩ = some (.bool false) ∧ w'.cell? ⟨w.heap.size + 1 + 1, 1, none⟩ = some (.slice none 0 0) ∧ w'.cell? ⟨w.heap.size + 1 + 1, 2, none⟩ = some (.int .i64 0)) ∧ (w'.frozen? ⟨w.heap.size + 1 + 1, 0, none⟩ = false ∧ w'.frozen? ⟨w.heap.size + 1 + 1, 1, none⟩ = false ∧ w'.frozen? ⟨w.heap.size + 1 + 1, 2, none⟩ = false) := fun s6 ao6 n6 cap6 ex6 w6 hN hb => by
    have k := c63n hN HZ.out.1
    rw [HZ.out.2] at k
    refine k.mono ?_
    rintro r w' ⟨rfl, hb2⟩
    have hb3 : Below w1.heap.size w1 w' := hb.trans (hb2.mono hb.size)
    have hblk := box_later H3.out.2.2.1 hb3 (by have := H3.out.2.2.2.1; omega)
    obtain ⟨f1, f2⟩ := box_cells hblk
    exact ⟨rfl, hN.later hb2, hb3, hblk, f1, f2⟩
  obtain ⟨⟨a0, a1, a2⟩, b0, b1, b2⟩ := HK.out w1 (Below.refl _ _)
  go_upto_region 3 with fail
  go_region_held3 (fun w' => ((w'.cell? ⟨w.heap.size, 0, none⟩ = some (.bool na) ∧ w'.cell? ⟨w.heap.size, 1, none⟩ = some (.slice ua un uc) ∧ w'.cell? ⟨w.heap.size, 2, none⟩ = some (.int .i64 ea)) ∧ (w'.cell? ⟨w.heap.size + 1, 0, none⟩ = some (.bool nb) ∧ w'.cell? ⟨w.heap.size + 1, 1, none⟩ = some (.slice va vn vc) ∧ w'.cell? ⟨w.heap.size + 1, 2, none⟩ = some (.int .i64 eb)))) (first | (with_reducible assumption) | exact ⟨⟨a0, a1, a2⟩, b0, b1, b2⟩ | (refine HK.out _ (Below.mono ?_ H1.out); with_reducible assumption) | (refine HK.out _ (below_store3 (Below.mono hb7 H1.out) (Nat.le_refl _) _ _ _)) | go_keep)
    (first | (go_at_call 45; refine (kn _ (by first | (with_reducible assumption) | exact hBR)).mono ?_; rintro r w5 ⟨ao5, n5, cap5, rfl, ho5, hb5⟩) | (go_at_call 83; refine (ks _ _ _ _ ho5 hb5).mono ?_; rintro r w6 ⟨s6, ao6, n6, cap6, ex6, rfl, hn6, hb6⟩) | (go_at_call 82; refine (kb _ _ _ _ _ _ hn6 hb6).mono ?_; rintro r w7 ⟨rfl, hN7, hb7, hblk7, ⟨x1, x2, x3⟩, x4, x5, x6⟩))
  have HF : Hid (Below w1.heap.size w1 w7) := hb7
  clear ho5 hb5 hn6 hb6 hb7 kn ks kb x1 x2 x3 x4 x5 x6 a0 a1 a2 b0 b1 b2 HK
  go_wp2
  refine bodyPost_ret (results_cell_tmp_row rfl _ _ (w.heap.size + 1 + 1) 28 #[.bool s6, .slice ao6 n6 cap6, .int .i64 ex6] (0, 0) _ rfl (store3 _ _ _ hblk7.out) Tryz.underlying28 rfl Tryz.info28) rfl ?_
  have hs := H3.out.2.2.2.1
  exact ⟨.agg #[.bool s6, .slice ao6 n6 cap6, .int .i64 ex6], by rw [HZ.out.2]; rfl, (hN7.out.store (by omega) _ _ _).mono (by omega), below_store3 (H3.out.2.2.2.2.trans (HF.out.mono H3.out.2.2.2.2.size)) (by omega) _ _ _⟩
set_option maxRecDepth 200000 in
theorem c21_f (na nb : Bool) (ua va : Option Addr) (un uc vn vc z : Nat) (ea eb e : Int) (s nn : Bool) (y : Nat) (w : World) (hz : dlen z ≤ 35184372088832) (hok : okR s z e = false)
    (k67 : ∀ W g, Below w.heap.size w W → W.heap[g]? = some (.cells #[.bool na, .slice ua un uc, .int .i64 ea, .bool nb, .slice va vn vc, .int .i64 eb] 28 (0, 0)) → Calls Tryz.prog 44 #[.slice (some ⟨g, 0, none⟩) 2 2] W fun r w' => r = .returned (.bool true) ∧ Below W.heap.size W w')
    (kN : ∀ W, Below w.heap.size w W → Calls Tryz.prog 45 #[.agg #[.bool nb, .slice va vn vc, .int .i64 eb]] W fun r w' => ∃ v, r = .returned (.agg #[.bool nn, v, .int .i64 eb]) ∧ Own w' W.heap.size v y ∧ Below W.heap.size W w')
    (kS : ∀ W v base, Below w.heap.size w W → Own W base v y → Calls Tryz.prog 83 #[.agg #[.bool na, .slice ua un uc, .int .i64 ea], .agg #[.bool nn, v, .int .i64 eb]] W fun r w' => ∃ a, r = .returned a ∧ Nrm w' W.heap.size a s z e ∧ Below W.heap.size W w') :
    Calls Tryz.prog 87 #[.agg #[.bool na, .slice ua un uc, .int .i64 ea], .agg #[.bool nb, .slice va vn vc, .int .i64 eb]] w fun r w' => Held w s z e r w' := by
  obtain ⟨W, hW⟩ : ∃ W, W = ((w.alloc (.cells #[.bool na, .slice ua un uc, .int .i64 ea] 28)).alloc (.cells #[.bool nb, .slice va vn vc, .int .i64 eb] 28)).alloc (.cells #[.bool false, .slice none 0 0, .int .i64 0] 28) := ⟨_, rfl⟩
  obtain ⟨hA, hBb, hC, hsz, hBW⟩ := boxes3 _ _ _ hW
  have hB4 : Below w.heap.size w (W.alloc (.cells #[.bool na, .slice ua un uc, .int .i64 ea, .bool nb, .slice va vn vc, .int .i64 eb] 28)) := hBW.alloc hBW.size _
  have k1 := k67 (W.alloc (.cells #[.bool na, .slice ua un uc, .int .i64 ea, .bool nb, .slice va vn vc, .int .i64 eb] 28)) (w.heap.size + 1 + 1 + 1) hB4 (by rw [← hsz]; exact heap_alloc_new _ _)
  have HH : Hid ((W.heap[w.heap.size]? = some (.cells #[.bool na, .slice ua un uc, .int .i64 ea] 28 (0, 0)) ∧ W.heap[w.heap.size + 1]? = some (.cells #[.bool nb, .slice va vn vc, .int .i64 eb] 28 (0, 0)) ∧ W.heap[w.heap.size + 1 + 1]? = some (.cells #[.bool false, .slice none 0 0, .int .i64 0] 28 (0, 0))) ∧ W.heap.size = w.heap.size + 1 + 1 + 1 ∧ Below w.heap.size w W ∧ Below W.heap.size W (W.alloc (.cells #[.bool na, .slice ua un uc, .int .i64 ea, .bool nb, .slice va vn vc, .int .i64 eb] 28))) := ⟨⟨hA, hBb, hC⟩, hsz, hBW, (Below.refl _ _).alloc (Nat.le_refl _) _⟩
  have HZ : Hid (dlen z ≤ 35184372088832 ∧ okR s z e = false) := ⟨hz, hok⟩
  have HKN : Hid _ := kN
  have HKS : Hid _ := kS
  clear hA hBb hC hsz hBW hB4 k67 kN kS hz hok
  go_enter Tryz.func87, Tryz.ntmps87
  go_wp2_with fail
  rw [← hW]
  clear hW
  refine k1.mono ?_
  rintro r w1 ⟨rfl, hB1⟩
  clear k1
  have hBW1 : Below W.heap.size W w1 := HH.out.2.2.2.trans (hB1.mono HH.out.2.2.2.size)
  have H3 : Hid (w1.heap[w.heap.size]? = some (.cells #[.bool na, .slice ua un uc, .int .i64 ea] 28 (0, 0)) ∧ w1.heap[w.heap.size + 1]? = some (.cells #[.bool nb, .slice va vn vc, .int .i64 eb] 28 (0, 0)) ∧ w1.heap[w.heap.size + 1 + 1]? = some (.cells #[.bool false, .slice none 0 0, .int .i64 0] 28 (0, 0)) ∧ w.heap.size + 1 + 1 + 1 ≤ w1.heap.size ∧ Below w.heap.size w w1) := ⟨box_later HH.out.1.1 hBW1 (by have := HH.out.2.1; omega), box_later HH.out.1.2.1 hBW1 (by have := HH.out.2.1; omega), box_later HH.out.1.2.2 hBW1 (by have := HH.out.2.1; omega), by have := hBW1.size; have := HH.out.2.1; omega, HH.out.2.2.1.trans (hBW1.mono HH.out.2.2.1.size)⟩
  clear hB1 hBW1
  have HK : Hid (∀ w', Below (w.heap.size + 1 + 1) w1 w' → ((w'.cell? ⟨w.heap.size, 0, none⟩ = some (.bool na) ∧ w'.cell? ⟨w.heap.size, 1, none⟩ = some (.slice ua un uc) ∧ w'.cell? ⟨w.heap.size, 2, none⟩ = some (.int .i64 ea)) ∧ (w'.cell? ⟨w.heap.size + 1, 0, none⟩ = some (.bool nb) ∧ w'.cell? ⟨w.heap.size + 1, 1, none⟩ = some (.slice va vn vc) ∧ w'.cell? ⟨w.heap.size + 1, 2, none⟩ = some (.int .i64 eb)))) := fun w' hb => ⟨(box_cells (box_later H3.out.1 hb (by omega))).1, (box_cells (box_later H3.out.2.1 hb (by omega))).1⟩
  have H1 : Hid (w.heap.size + 1 + 1 ≤ w1.heap.size) := (by have := H3.out.2.2.2.1; omega : w.heap.size + 1 + 1 ≤ w1.heap.size)
  have hBR : Below w1.heap.size w1 w1.drew := (Below.refl _ _).drew
  have hBR1 : Below (w.heap.size + 1 + 1) w1 w1.drew := (Below.refl _ _).drew
  have kn : ∀ w4, Below w1.heap.size w1 w4 → Calls Tryz.prog 45 #[.agg #[.bool nb, .slice va vn vc, .int .i64 eb]] w4 fun r w' => ∃ ao n cap, r = .returned (.agg #[.bool nn, .slice ao n cap, .int .i64 eb]) ∧ Own w' w1.heap.size (.slice ao n cap) y ∧ Below w1.heap.size w1 w' := fun w4 hb =>
    (HKN.out w4 (H3.out.2.2.2.2.trans (hb.mono H3.out.2.2.2.2.size))).mono fun r w' ⟨v, e1, o1, o2⟩ => by
      obtain ⟨ao, cap, rfl, -, -, -⟩ := o1.is
      exact ⟨_, _, _, e1, o1.mono hb.size, hb.trans (o2.mono hb.size)⟩
  have ks : ∀ ao n cap w5, Own w5 w1.heap.size (.slice ao n cap) y → Below w1.heap.size w1 w5 → Calls Tryz.prog 83 #[.agg #[.bool na, .slice ua un uc, .int .i64 ea], .agg #[.bool nn, .slice ao n cap, .int .i64 eb]] w5 fun r w' => ∃ s' ao n cap ex, r = .returned (.agg #[.bool s', .slice ao n cap, .int .i64 ex]) ∧ Nrm w' w1.heap.size (.agg #[.bool s', .slice ao n cap, .int .i64 ex]) s z e ∧ Below w1.heap.size w1 w' := fun ao n cap w5 ho hb =>
    (HKS.out w5 _ _ (H3.out.2.2.2.2.trans (hb.mono H3.out.2.2.2.2.size)) ho).mono fun r w' ⟨v, e1, o1, o2⟩ => by
      obtain ⟨s', ao, n, cap, ex, rfl⟩ := o1.shape
      exact ⟨_, _, _, _, _, e1, o1.mono hb.size, hb.trans (o2.mono hb.size)⟩
  have kb : ∀ s6 ao6 n6 cap6 ex6 w6, Nrm w6 w1.heap.size (.agg #[.bool s6, .slice ao6 n6 cap6, .int .i64 ex6]) s z e → Below w1.heap.size w1 w6 → Calls Tryz.prog 82 #[.agg #[.bool s6, .slice ao6 n6 cap6, .int .i64 ex6]] w6 fun r w' => r = .returned (.tuple #[.agg #[.bool false, .slice none 0 0, .int .i64 0], .int .i64 2]) ∧ Hid (Nrm w' w1.heap.size (.agg #[.bool s6, .slice ao6 n6 cap6, .int .i64 ex6]) s z e) ∧ Below w1.heap.size w1 w' ∧ Hid (w'.heap[w.heap.size + 1 + 1]? = some (.cells #[.bool false, .slice none 0 0, .int .i64 0] 28 (0, 0))) ∧
      (w'.cell? ⟨w.heap.size + 1 + 1, 0, none⟩ = some (.bool false) ∧ w'.cell? ⟨w.heap.size + 1 + 1, 1, none⟩ = some (.slice none 0 0) ∧ w'.cell? ⟨w.heap.size + 1 + 1, 2, none⟩ = some (.int .i64 0)) ∧ (w'.frozen? ⟨w.heap.size + 1 + 1, 0, none⟩ = false ∧ w'.frozen? ⟨w.heap.size + 1 + 1, 1, none⟩ = false ∧ w'.frozen? ⟨w.heap.size + 1 + 1, 2, none⟩ = false) := fun s6 ao6 n6 cap6 ex6 w6 hN hb => by
    have k := c63n hN HZ.out.1
    rw [HZ.out.2] at k
    refine k.mono ?_
    rintro r w' ⟨rfl, hb2⟩
    have hb3 : Below w1.heap.size w1 w' := hb.trans (hb2.mono hb.size)
    have hblk := box_later H3.out.2.2.1 hb3 (by have := H3.out.2.2.2.1; omega)
    obtain ⟨f1, f2⟩ := box_cells hblk
    exact ⟨rfl, hN.later hb2, hb3, hblk, f1, f2⟩
  obtain ⟨⟨a0, a1, a2⟩, b0, b1, b2⟩ := HK.out w1 (Below.refl _ _)
  go_upto_region 3 with fail
  go_region_held3 (fun w' => ((w'.cell? ⟨w.heap.size, 0, none⟩ = some (.bool na) ∧ w'.cell? ⟨w.heap.size, 1, none⟩ = some (.slice ua un uc) ∧ w'.cell? ⟨w.heap.size, 2, none⟩ = some (.int .i64 ea)) ∧ (w'.cell? ⟨w.heap.size + 1, 0, none⟩ = some (.bool nb) ∧ w'.cell? ⟨w.heap.size + 1, 1, none⟩ = some (.slice va vn vc) ∧ w'.cell? ⟨w.heap.size + 1, 2, none⟩ = some (.int .i64 eb)))) (first | (with_reducible assumption) | exact ⟨⟨a0, a1, a2⟩, b0, b1, b2⟩ | (refine HK.out _ (Below.mono ?_ H1.out); with_reducible assumption) | (refine HK.out _ (below_store3 (Below.mono hb7 H1.out) (Nat.le_refl _) _ _ _)) | go_keep)
    (first | (go_at_call 45; refine (kn _ (by first | (with_reducible assumption) | exact hBR)).mono ?_; rintro r w5 ⟨ao5, n5, cap5, rfl, ho5, hb5⟩) | (go_at_call 83; refine (ks _ _ _ _ ho5 hb5).mono ?_; rintro r w6 ⟨s6, ao6, n6, cap6, ex6, rfl, hn6, hb6⟩) | (go_at_call 82; refine (kb _ _ _ _ _ _ hn6 hb6).mono ?_; rintro r w7 ⟨rfl, hN7, hb7, hblk7, ⟨x1, x2, x3⟩, x4, x5, x6⟩))
  have HF : Hid (Below w1.heap.size w1 w7) := hb7
  clear ho5 hb5 hn6 hb6 hb7 kn ks kb x1 x2 x3 x4 x5 x6 a0 a1 a2 b0 b1 b2 HK
  go_wp2
  refine bodyPost_ret (results_cell_tmp_row rfl _ _ (w.heap.size + 1 + 1) 28 #[.bool false, .slice none 0 0, .int .i64 0] (0, 0) _ rfl (store3 _ _ _ hblk7.out) Tryz.underlying28 rfl Tryz.info28) rfl ?_
  have hs := H3.out.2.2.2.1
  exact ⟨.agg #[.bool s6, .slice ao6 n6 cap6, .int .i64 ex6], by rw [HZ.out.2]; rfl, (hN7.out.store (by omega) _ _ _).mono (by omega), below_store3 (H3.out.2.2.2.2.trans (HF.out.mono H3.out.2.2.2.2.size)) (by omega) _ _ _⟩
theorem dlen_sumN (na : Bool) (x : Nat) (ea : Int) (nb : Bool) (y : Nat) (eb : Int) (hx : dlen x ≤ 500000) (hy : dlen y ≤ 500000) (ha : -4000000 ≤ ea ∧ ea ≤ 4000000) (hb : -4000000 ≤ eb ∧ eb ≤ 4000000) : dlen (sumN na x ea nb y eb).2.1 ≤ 1000000 := by
  unfold sumN
  have l1 : dlen (x * 2 ^ (ea - min ea eb).toNat) ≤ 760000 := by have := shl_len (x := x) (k := (ea - min ea eb).toNat) rfl; omega
  have l2 : dlen (y * 2 ^ (eb - min ea eb).toNat) ≤ 760000 := by have := shl_len (x := y) (k := (eb - min ea eb).toNat) rfl; omega
  have l3 := dlen_add_le (x * 2 ^ (ea - min ea eb).toNat) (y * 2 ^ (eb - min ea eb).toNat)
  split
  · show dlen y ≤ _; omega
  · split
    · show dlen x ≤ _; omega
    · split
      · show dlen (_ + _) ≤ _; omega
      · split
        · have := dlen_mono (Nat.sub_le (y * 2 ^ (eb - min ea eb).toNat) (x * 2 ^ (ea - min ea eb).toNat)); show dlen (_ - _) ≤ _; omega
        · have := dlen_mono (Nat.sub_le (x * 2 ^ (ea - min ea eb).toNat) (y * 2 ^ (eb - min ea eb).toNat)); show dlen (_ - _) ≤ _; omega
theorem sub_ok {na nb : Bool} {ua va : Option Addr} {uc vc x y : Nat} {ea eb : Int} {w : World} (h1 : Is w (.slice ua (dlen x) uc) x) (h2 : Is w (.slice va (dlen y) vc) y) (hx : dlen x ≤ 400000) (hy : dlen y ≤ 400000) (ha : -4000000 ≤ ea ∧ ea ≤ 4000000) (hb : -4000000 ≤ eb ∧ eb ≤ 4000000)
    (hoka : okN na (dlen x) x ea = true) (hokb : okN nb (dlen y) y eb = true) (hT : Tab32 w) :
    Calls Tryz.prog 87 #[.agg #[.bool na, .slice ua (dlen x) uc, .int .i64 ea], .agg #[.bool nb, .slice va (dlen y) vc, .int .i64 eb]] w fun r w' => Held w (sumN na x ea (!nb && decide (0 < dlen y)) y eb).1 (sumN na x ea (!nb && decide (0 < dlen y)) y eb).2.1 (sumN na x ea (!nb && decide (0 < dlen y)) y eb).2.2 r w' := by
  have k67 : ∀ W g, Below w.heap.size w W → W.heap[g]? = some (.cells #[.bool na, .slice ua (dlen x) uc, .int .i64 ea, .bool nb, .slice va (dlen y) vc, .int .i64 eb] 28 (0, 0)) → Calls Tryz.prog 44 #[.slice (some ⟨g, 0, none⟩) 2 2] W fun r w' => r = .returned (.bool true) ∧ Below W.heap.size W w' := fun W g hW hg => by
    have := maybe2 hg (h1.later hW) (h2.later hW) (by omega) (by omega)
    rw [hoka, hokb] at this
    exact this
  have kN : ∀ W, Below w.heap.size w W → Calls Tryz.prog 45 #[.agg #[.bool nb, .slice va (dlen y) vc, .int .i64 eb]] W fun r w' => ∃ v, r = .returned (.agg #[.bool (!nb && decide (0 < dlen y)), v, .int .i64 eb]) ∧ Own w' W.heap.size v y ∧ Below W.heap.size W w' := fun W hW => neg_ok (h2.later hW) (by omega)
  have hz : dlen (sumN na x ea (!nb && decide (0 < dlen y)) y eb).2.1 ≤ 35184372088832 := by
    have := dlen_sumN na x ea (!nb && decide (0 < dlen y)) y eb (by omega : dlen x ≤ 500000) (by omega : dlen y ≤ 500000) ha hb
    omega
  cases hok : okR (sumN na x ea (!nb && decide (0 < dlen y)) y eb).1 (sumN na x ea (!nb && decide (0 < dlen y)) y eb).2.1 (sumN na x ea (!nb && decide (0 < dlen y)) y eb).2.2
  · exact c21_f na nb ua va _ uc _ vc _ ea eb _ _ _ y w hz hok k67 kN (fun W v base hW ho => c87 (h1.later hW) ho.is (by omega) (by omega) ha hb (hT.later hW))
  · exact c21_t na nb ua va _ uc _ vc _ ea eb _ _ _ y w hz hok k67 kN (fun W v base hW ho => c87 (h1.later hW) ho.is (by omega) (by omega) ha hb (hT.later hW))
end Go.Proofs.YtcdkkpjilgmncaaGreatDoor
