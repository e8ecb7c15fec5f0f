/- Own work: contracts of the program's functions, part 5: W36 W37 PR R1 R2 R3 W38 W39 W40 W34 W28 W29 W35 W41. -/
import Derived.Test.YtlicjplmcepbnaaGreatDoorA4
import Derived.Deep.CutRange
import Derived.Orders
import Derived.Laws.Tables
import Derived.Test.YtlicjplmcepbnaaGreatDoorA3
import Derived.Deep.RegionHeld3
import Derived.Laws.AppendOwnNone
import Derived.Lib.SliceRun
import Derived.Laws.IdiomStrings

/- product, Mul. -/
namespace Go.Proofs.YtlicjplmcepbnaaGreatDoor
set_option linter.unusedVariables false
set_option linter.unusedSimpArgs false
open Go.RowKit

set_option maxHeartbeats 4000000 in
set_option maxRecDepth 200000 in
theorem c45_1 (na nb sg : Bool) (ua va : Option Addr) (un uc vn vc x y : Nat) (ea eb : Int) (w : World) (hT : Tab32 w) (h1 : Is w (.slice ua un uc) x) (h2 : Is w (.slice va vn vc) y) (hx : dlen x ≤ 400000) (hy : dlen y ≤ 400000) (he1 : -4000000 ≤ ea) (he2 : ea ≤ 4000000) (he3 : -4000000 ≤ eb) (he4 : eb ≤ 4000000) (hsg : (!(na == nb)) = sg) :
    Calls Tryz.prog 85 #[.agg #[.bool na, .slice ua un uc, .int .i64 ea], .agg #[.bool nb, .slice va vn vc, .int .i64 eb]] w fun r w' => ∃ a, r = .returned a ∧ Nrm w' w.heap.size a sg (x * y) (ea + eb) ∧ Below w.heap.size w w' := by
  obtain ⟨W, hW⟩ : ∃ W, W = ((w.alloc (.cells #[.bool na, .slice ua un uc, .int .i64 ea] 65)).alloc (.cells #[.bool nb, .slice va vn vc, .int .i64 eb] 65)).alloc (.cells #[.bool false, .slice none 0 0, .int .i64 0] 65) := ⟨_, rfl⟩
  obtain ⟨hA, hBb, hC, hsz, hBW⟩ := boxes3 _ _ _ hW
  have hxy : dlen (x * y) ≤ 1000000 := by
    have l1 := (dlen_le (dlen x) x).1 (Nat.le_refl _)
    have l2 := (dlen_le (dlen y) y).1 (Nat.le_refl _)
    have : dlen (x * y) ≤ dlen x + dlen y := (dlen_le _ _).2 (by
      rw [Nat.pow_add]
      rcases Nat.eq_zero_or_pos x with h | h
      · rw [h, Nat.zero_mul]; exact Nat.mul_pos (Bpow_pos _) (Bpow_pos _)
      · exact Nat.mul_lt_mul_of_lt_of_le l1 (Nat.le_of_lt l2) (Bpow_pos _))
    omega
  have HH : Hid (W.heap[w.heap.size + 1 + 1]? = some (.cells #[.bool false, .slice none 0 0, .int .i64 0] 65 (0, 0)) ∧ W.heap.size = w.heap.size + 1 + 1 + 1 ∧ Below w.heap.size w W) := ⟨hC, hsz, hBW⟩
  have k78 : ∀ w4, Below W.heap.size W w4 → Calls Tryz.prog 97 #[.slice ua un uc, .slice va vn vc] w4 fun r w' => ∃ v, r = .returned v ∧ Own w' W.heap.size v (x * y) ∧ Below W.heap.size W w' := fun w4 hb =>
    (c143 ((h1.later hBW).later hb) ((h2.later hBW).later hb) (by omega) (by omega)).mono fun r w' ⟨v, e1, o1, o2⟩ => ⟨v, e1, o1.mono hb.size, hb.trans (o2.mono hb.size)⟩
  have hTW := hT.later hBW
  have k31 : ∀ v5 w5, Own w5 W.heap.size v5 (x * y) → Below W.heap.size W w5 → Calls Tryz.prog 70 #[.bool sg, v5, .int .i64 (ea + eb)] w5 fun r w' => ∃ s ao n cap ex, r = .returned (.agg #[.bool s, .slice ao n cap, .int .i64 ex]) ∧
      Hid (Nrm w' w5.heap.size (.agg #[.bool s, .slice ao n cap, .int .i64 ex]) sg (x * y) (ea + eb) ∧ W.heap.size ≤ w5.heap.size) ∧ Below W.heap.size W w' ∧ Hid (w'.heap[w.heap.size + 1 + 1]? = some (.cells #[.bool false, .slice none 0 0, .int .i64 0] 65 (0, 0))) ∧
      (w'.cell? ⟨w.heap.size + 1 + 1, 0, none⟩ = some (.bool false) ∧ w'.cell? ⟨w.heap.size + 1 + 1, 1, none⟩ = some (.slice none 0 0) ∧ w'.cell? ⟨w.heap.size + 1 + 1, 2, none⟩ = some (.int .i64 0)) ∧ (w'.frozen? ⟨w.heap.size + 1 + 1, 0, none⟩ = false ∧ w'.frozen? ⟨w.heap.size + 1 + 1, 1, none⟩ = false ∧ w'.frozen? ⟨w.heap.size + 1 + 1, 2, none⟩ = false) := by
    intro v5 w5 ho hb
    refine (c56 ho.is (by omega) (hTW.later hb) (by omega)).mono ?_
    rintro r w6 ⟨a, rfl, hN, hb6⟩
    obtain ⟨s, ao, n, cap, ex, rfl⟩ := hN.shape
    have hb46 : Below W.heap.size W w6 := hb.trans (hb6.mono hb.size)
    have hblk := box_later HH.out.1 hb46 (by have := HH.out.2.1; omega)
    obtain ⟨f1, f2⟩ := box_cells hblk
    exact ⟨s, ao, n, cap, ex, rfl, ⟨hN, hb.size⟩, hb46, hblk, f1, f2⟩
  obtain ⟨⟨a0, a1, a2⟩, -⟩ := box_cells hA
  obtain ⟨⟨b0, b1, b2⟩, -⟩ := box_cells hBb
  have HK : Hid (∀ w', Below W.heap.size W w' → ((w'.cell? ⟨w.heap.size, 0, none⟩ = some (.bool na) ∧ w'.cell? ⟨w.heap.size, 1, none⟩ = some (.slice ua un uc) ∧ w'.cell? ⟨w.heap.size, 2, none⟩ = some (.int .i64 ea)) ∧ (w'.cell? ⟨w.heap.size + 1, 0, none⟩ = some (.bool nb) ∧ w'.cell? ⟨w.heap.size + 1, 1, none⟩ = some (.slice va vn vc) ∧ w'.cell? ⟨w.heap.size + 1, 2, none⟩ = some (.int .i64 eb)))) := fun w' hb => ⟨(box_cells (box_later hA hb (by omega))).1, (box_cells (box_later hBb hb (by omega))).1⟩
  have HK2 : Hid (∀ w', Below (w.heap.size + 1 + 1) W w' → ((w'.cell? ⟨w.heap.size, 0, none⟩ = some (.bool na) ∧ w'.cell? ⟨w.heap.size, 1, none⟩ = some (.slice ua un uc) ∧ w'.cell? ⟨w.heap.size, 2, none⟩ = some (.int .i64 ea)) ∧ (w'.cell? ⟨w.heap.size + 1, 0, none⟩ = some (.bool nb) ∧ w'.cell? ⟨w.heap.size + 1, 1, none⟩ = some (.slice va vn vc) ∧ w'.cell? ⟨w.heap.size + 1, 2, none⟩ = some (.int .i64 eb)))) := fun w' hb => ⟨(box_cells (box_later hA hb (by omega))).1, (box_cells (box_later hBb hb (by omega))).1⟩
  have HS2 : Hid (w.heap.size + 1 + 1 ≤ W.heap.size) := (by omega : w.heap.size + 1 + 1 ≤ W.heap.size)
  have hBR : Below W.heap.size W W.drew := (Below.refl _ _).drew
  have wz : IntKind.i64.wrap (ea + eb) = ea + eb := by rw [IntKind.wrap_i64]; omega
  clear hA hBb hC hsz hBW h1 h2 hx hy hT hTW hxy
  go_enter Tryz.func85, Tryz.ntmps85
  go_upto_region 1 with fail
  rw [← hW]
  clear hW
  go_region_held3 (fun w' => ((w'.cell? ⟨w.heap.size, 0, none⟩ = some (.bool na) ∧ w'.cell? ⟨w.heap.size, 1, none⟩ = some (.slice ua un uc) ∧ w'.cell? ⟨w.heap.size, 2, none⟩ = some (.int .i64 ea)) ∧ (w'.cell? ⟨w.heap.size + 1, 0, none⟩ = some (.bool nb) ∧ w'.cell? ⟨w.heap.size + 1, 1, none⟩ = some (.slice va vn vc) ∧ w'.cell? ⟨w.heap.size + 1, 2, none⟩ = some (.int .i64 eb)))) (first | (with_reducible assumption) | exact ⟨⟨a0, a1, a2⟩, b0, b1, b2⟩ | (refine HK.out _ ?_; with_reducible assumption) | (refine HK2.out _ (below_store3 (Below.mono hb6 HS2.out) (Nat.le_refl _) _ _ _)) | go_keep)
    (first | (go_at_call 97; refine (k78 _ (by first | (with_reducible assumption) | exact hBR)).mono ?_; rintro r w5 ⟨v5, rfl, ho5, hb5⟩) | (go_at_call 70; (try simp only [hsg, wz]); refine (k31 _ _ ho5 hb5).mono ?_; rintro r w6 ⟨s6, ao6, n6, cap6, ex6, rfl, hN6, hb6, hblk6, ⟨x1, x2, x3⟩, x4, x5, x6⟩))
  have HF : Hid (Below W.heap.size W w6) := hb6
  clear ho5 hb5 hb6 k31 k78 x1 x2 x3 x4 x5 x6 a0 a1 a2 b0 b1 b2 HK HK2
  go_wp2
  refine bodyPost_ret (results_cell_row rfl _ _ (w.heap.size + 1 + 1) 65 #[.bool s6, .slice ao6 n6 cap6, .int .i64 ex6] (0, 0) _ rfl (store3 _ _ _ hblk6.out) Tryz.underlying65 rfl Tryz.info65) rfl ?_
  obtain ⟨-, hs, hBW⟩ := HH.out
  have hs5 := hN6.out.2
  exact ⟨_, rfl, (hN6.out.1.store (by omega) _ _ _).mono (by omega), below_store3 (hBW.trans (HF.out.mono hBW.size)) (by omega) _ _ _⟩

set_option maxRecDepth 200000 in
theorem c20_1 (na nb : Bool) (ua va : Option Addr) (un uc vn vc x y z : Nat) (ea eb e : Int) (s : Bool) (w : World) (hz : dlen z ≤ 35184372088832)
    (k67 : ∀ W g, Below w.heap.size w W → W.heap[g]? = some (.cells #[.bool na, .slice ua un uc, .int .i64 ea, .bool nb, .slice va vn vc, .int .i64 eb] 65 (0, 0)) → Calls Tryz.prog 71 #[.slice (some ⟨g, 0, none⟩) 2 2] W fun r w' => r = .returned (.bool true) ∧ Below W.heap.size W w')
    (k87 : ∀ W, Below w.heap.size w W → Calls Tryz.prog 85 #[.agg #[.bool na, .slice ua un uc, .int .i64 ea], .agg #[.bool nb, .slice va vn vc, .int .i64 eb]] W fun r w' => ∃ a, r = .returned a ∧ Nrm w' W.heap.size a s z e ∧ Below W.heap.size W w') :
    Calls Tryz.prog 62 #[NumV na (.slice ua un uc) ea, NumV nb (.slice va vn vc) eb] w fun r w' => Held w s z e r w' := by
  obtain ⟨W, hW⟩ : ∃ W, W = ((w.alloc (.cells #[.bool na, .slice ua un uc, .int .i64 ea] 65)).alloc (.cells #[.bool nb, .slice va vn vc, .int .i64 eb] 65)).alloc (.cells #[.bool false, .slice none 0 0, .int .i64 0] 65) := ⟨_, rfl⟩
  obtain ⟨hA, hBb, hC, hsz, hBW⟩ := boxes3 _ _ _ hW
  have hB4 : Below w.heap.size w (W.alloc (.cells #[.bool na, .slice ua un uc, .int .i64 ea, .bool nb, .slice va vn vc, .int .i64 eb] 65)) := hBW.alloc hBW.size _
  have k1 := k67 (W.alloc (.cells #[.bool na, .slice ua un uc, .int .i64 ea, .bool nb, .slice va vn vc, .int .i64 eb] 65)) (w.heap.size + 1 + 1 + 1) hB4 (by rw [← hsz]; exact heap_alloc_new _ _)
  have HH : Hid ((W.heap[w.heap.size]? = some (.cells #[.bool na, .slice ua un uc, .int .i64 ea] 65 (0, 0)) ∧ W.heap[w.heap.size + 1]? = some (.cells #[.bool nb, .slice va vn vc, .int .i64 eb] 65 (0, 0)) ∧ W.heap[w.heap.size + 1 + 1]? = some (.cells #[.bool false, .slice none 0 0, .int .i64 0] 65 (0, 0))) ∧ W.heap.size = w.heap.size + 1 + 1 + 1 ∧ Below w.heap.size w W ∧ Below W.heap.size W (W.alloc (.cells #[.bool na, .slice ua un uc, .int .i64 ea, .bool nb, .slice va vn vc, .int .i64 eb] 65))) := ⟨⟨hA, hBb, hC⟩, hsz, hBW, (Below.refl _ _).alloc (Nat.le_refl _) _⟩
  have HZ : Hid (dlen z ≤ 35184372088832) := hz
  have HK87 : Hid (∀ W, Below w.heap.size w W → Calls Tryz.prog 85 #[.agg #[.bool na, .slice ua un uc, .int .i64 ea], .agg #[.bool nb, .slice va vn vc, .int .i64 eb]] W fun r w' => ∃ a, r = .returned a ∧ Nrm w' W.heap.size a s z e ∧ Below W.heap.size W w') := k87
  unfold NumV
  clear hA hBb hC hsz hBW hB4 k67 k87 hz
  go_enter Tryz.func62, Tryz.ntmps62
  go_wp2_with fail
  rw [← hW]
  clear hW
  refine k1.mono ?_
  rintro r w1 ⟨rfl, hB1⟩
  clear k1
  have hBW1 : Below W.heap.size W w1 := HH.out.2.2.2.trans (hB1.mono HH.out.2.2.2.size)
  obtain ⟨⟨a0, a1, a2⟩, -⟩ := box_cells (box_later HH.out.1.1 hBW1 (by have := HH.out.2.1; omega))
  obtain ⟨⟨b0, b1, b2⟩, -⟩ := box_cells (box_later HH.out.1.2.1 hBW1 (by have := HH.out.2.1; omega))
  have HB1 : Hid (Below W.heap.size W w1) := hBW1
  clear hB1 hBW1
  go_wp2_with fail
  refine (HK87.out w1 (HH.out.2.2.1.trans (HB1.out.mono HH.out.2.2.1.size))).mono ?_
  rintro r w2 ⟨A, rfl, hN, hB2⟩
  have HB2 : Hid (Below W.heap.size W w2) := HB1.out.trans (hB2.mono HB1.out.size)
  have HN : Hid (Nrm w2 W.heap.size A s z e) := hN.mono HB1.out.size
  clear hN hB2 a0 a1 a2 b0 b1 b2
  go_wp2_with fail
  refine (c63n HN.out HZ.out).mono ?_
  rintro r w3 ⟨rfl, hB3⟩
  have HB3 : Hid (Below W.heap.size W w3) := HB2.out.trans (hB3.mono HB2.out.size)
  have HN3 : Hid (Nrm w3 W.heap.size A s z e) := by
    rcases HN.out with h | ⟨h0, v, h1, ho⟩
    · exact .inl h
    · exact .inr ⟨h0, v, h1, ho.later hB3⟩
  have HC3 : Hid (w3.heap[w.heap.size + 1 + 1]? = some (.cells #[.bool false, .slice none 0 0, .int .i64 0] 65 (0, 0))) := box_later HH.out.1.2.2 HB3.out (by have := HH.out.2.1; omega)
  obtain ⟨⟨x1, x2, x3⟩, x4, x5, x6⟩ := box_cells HC3.out
  obtain ⟨s', ao, n, cap, ex, hsh⟩ := HN3.out.shape
  have HSH : Hid (A = .agg #[.bool s', .slice ao n cap, .int .i64 ex]) := hsh
  clear hB3
  cases hok : okR s z e
  · clear hsh
    have hNil : Nil = .agg #[.bool false, .slice none 0 0, .int .i64 0] := rfl
    go_wp2
    refine bodyPost_ret (results_cell_tmp_row rfl _ _ (w.heap.size + 1 + 1) 65 #[.bool false, .slice none 0 0, .int .i64 0] (0, 0) _ rfl (store3 _ _ _ HC3.out) Tryz.underlying65 rfl Tryz.info65) rfl ?_
    obtain ⟨-, hs, hBW, -⟩ := HH.out
    exact ⟨A, by rw [hok]; rfl, (HN3.out.store (by omega) _ _ _).mono (by omega), below_store3 (hBW.trans (HB3.out.mono hBW.size)) (by omega) _ _ _⟩
  · subst hsh
    go_wp2
    refine bodyPost_ret (results_cell_tmp_row rfl _ _ (w.heap.size + 1 + 1) 65 #[.bool s', .slice ao n cap, .int .i64 ex] (0, 0) _ rfl (store3 _ _ _ HC3.out) Tryz.underlying65 rfl Tryz.info65) rfl ?_
    obtain ⟨-, hs, hBW, -⟩ := HH.out
    exact ⟨_, by rw [hok]; rfl, (HN3.out.store (by omega) _ _ _).mono (by omega), below_store3 (hBW.trans (HB3.out.mono hBW.size)) (by omega) _ _ _⟩

theorem mul_ok {na nb : Bool} {ua va : Option Addr} {uc vc x y : Nat} {ea eb : Int} {w : World} (h1 : Is w (.slice ua (dlen x) uc) x) (h2 : Is w (.slice va (dlen y) vc) y) (hx : dlen x ≤ 400000) (hy : dlen y ≤ 400000) (ha : -4000000 ≤ ea ∧ ea ≤ 4000000) (hb : -4000000 ≤ eb ∧ eb ≤ 4000000)
    (hoka : okN na (dlen x) x ea = true) (hokb : okN nb (dlen y) y eb = true) (hT : Tab32 w) :
    Calls Tryz.prog 62 #[.agg #[.bool na, .slice ua (dlen x) uc, .int .i64 ea], .agg #[.bool nb, .slice va (dlen y) vc, .int .i64 eb]] w fun r w' => Held w (!(na == nb)) (x * y) (ea + eb) r w' := by
  have hxy : dlen (x * y) ≤ 1000000 := by
    have l1 := (dlen_le (dlen x) x).1 (Nat.le_refl _)
    have l2 := (dlen_le (dlen y) y).1 (Nat.le_refl _)
    have : dlen (x * y) ≤ dlen x + dlen y := (dlen_le _ _).2 (by
      rw [Nat.pow_add]
      rcases Nat.eq_zero_or_pos x with h | h
      · rw [h, Nat.zero_mul]; exact Nat.mul_pos (Bpow_pos _) (Bpow_pos _)
      · exact Nat.mul_lt_mul_of_lt_of_le l1 (Nat.le_of_lt l2) (Bpow_pos _))
    omega
  exact c20_1 na nb ua va _ uc _ vc x y (x * y) ea eb (ea + eb) (!(na == nb)) w (by omega) (fun W g hW hg => by
    have := maybe2 hg (h1.later hW) (h2.later hW) (by omega) (by omega)
    rw [hoka, hokb] at this
    exact this) (fun W hW => c45_1 na nb _ ua va _ uc _ vc x y ea eb W (hT.later hW) (h1.later hW) (h2.later hW) hx hy ha.1 ha.2 hb.1 hb.2 rfl)
end Go.Proofs.YtlicjplmcepbnaaGreatDoor
/- Sign. -/
namespace Go.Proofs.YtlicjplmcepbnaaGreatDoor
set_option linter.unusedVariables false
set_option linter.unusedSimpArgs false
open Go.RowKit

set_option maxRecDepth 200000 in
theorem c22_s (na : Bool) (ua : Option Addr) (un uc : Nat) (ea sv : Int) (w : World)
    (k43 : ∀ W g, Below w.heap.size w W → W.heap[g]? = some (.cells #[.bool na, .slice ua un uc, .int .i64 ea] 65 (0, 0)) → Calls Tryz.prog 71 #[.slice (some ⟨g, 0, none⟩) 1 1] W fun r w' => r = .returned (.bool true) ∧ Below W.heap.size W w')
    (k47 : ∀ W, Calls Tryz.prog 83 #[.agg #[.bool na, .slice ua un uc, .int .i64 ea]] W fun r w' => r = .returned (.int .i64 sv) ∧ Below W.heap.size W w') :
    Calls Tryz.prog 60 #[.agg #[.bool na, .slice ua un uc, .int .i64 ea]] w fun r w' => r = .returned (.int .i64 sv) ∧ Below w.heap.size w w' := by
  obtain ⟨W, hW⟩ : ∃ W, W = w.alloc (.cells #[.bool na, .slice ua un uc, .int .i64 ea] 65) := ⟨_, rfl⟩
  have hBW : Below w.heap.size w W := by rw [hW]; exact (Below.refl _ _).alloc (Nat.le_refl _) _
  have hsz : W.heap.size = w.heap.size + 1 := by rw [hW]; simp
  have hbx : W.heap[w.heap.size]? = some (.cells #[.bool na, .slice ua un uc, .int .i64 ea] 65 (0, 0)) := by rw [hW]; exact heap_alloc_new _ _
  have k1 := k43 (W.alloc (.cells #[.bool na, .slice ua un uc, .int .i64 ea] 65)) (w.heap.size + 1) (hBW.alloc hBW.size _) (by rw [← hsz]; exact heap_alloc_new _ _)
  have HX : Hid (Below w.heap.size w W ∧ W.heap.size = w.heap.size + 1 ∧ W.heap[w.heap.size]? = some (.cells #[.bool na, .slice ua un uc, .int .i64 ea] 65 (0, 0))) := ⟨hBW, hsz, hbx⟩
  clear hBW hsz hbx k43
  go_enter Tryz.func60, Tryz.ntmps60
  go_wp2_with fail
  rw [← hW]
  clear hW
  refine k1.mono ?_
  rintro r w1 ⟨rfl, hb1⟩
  have HB1 : Hid (Below W.heap.size W w1) := ((Below.refl W.heap.size W).alloc (Nat.le_refl _) _).trans (hb1.mono (by simp))
  clear k1 hb1
  obtain ⟨⟨x0, x1, x2⟩, -⟩ := box_cells (box_later HX.out.2.2 HB1.out (by have := HX.out.2.1; omega))
  have HB2 : Hid (Below w.heap.size w w1) := HX.out.1.trans (HB1.out.mono HX.out.1.size)
  have k3 := k47 w1
  clear k47
  go_wp2_with fail
  refine k3.mono ?_
  rintro r w3 ⟨rfl, hb3⟩
  have HB3 : Hid (Below w.heap.size w w3) := HB2.out.trans (hb3.mono HB2.out.size)
  clear k3 hb3 x0 x1 x2
  go_wp2_with fail
  go_ret
  exact ⟨rfl, HB3.out⟩

theorem sign_ok {na : Bool} {ua : Option Addr} {uc x : Nat} {ea : Int} {w : World} (h1 : Is w (.slice ua (dlen x) uc) x) (hx : dlen x ≤ 35184372088832) (hoka : okN na (dlen x) x ea = true) :
    Calls Tryz.prog 60 #[.agg #[.bool na, .slice ua (dlen x) uc, .int .i64 ea]] w fun r w' => r = .returned (.int .i64 (sgI na (dlen x))) ∧ Below w.heap.size w w' :=
  c22_s na ua _ uc ea _ w (fun W g hW hg => by
    have := maybe1 hg (h1.later hW) hx
    rw [hoka] at this
    exact this) (fun W => (c72 na ua _ uc ea W hx).mono fun r w' ⟨e1, e2⟩ => ⟨e1, by rw [e2]; exact (Below.refl _ _).alloc (Nat.le_refl _) _⟩)
end Go.Proofs.YtlicjplmcepbnaaGreatDoor
/- Regions that draw their order, by an invariant: values that are called for, and laid into new boxes all at once. -/
namespace Go.Proofs.YtlicjplmcepbnaaGreatDoor
set_option linter.unusedVariables false
set_option linter.unusedSimpArgs false
open Go.RowKit

theorem wpAny_inv {P : Program} {ops : Array Oper} {Q : Exit → Act → World → Prop} {md : Region.Mode} (I : Array Bool → Act → World → Prop)
    (hs : ∀ listed a w i, listed.size = ops.size → I listed a w → i ∈ Region.ready md ops listed → wpOp P ops Q i (fun a' w' => I (listed.setIfInBounds i true) a' w') a w)
    (he : ∀ listed a w, listed.size = ops.size → I listed a w → Region.ready md ops listed = [] → Q .normal a w) :
    ∀ (fuel : Nat) (listed : Array Bool) (a : Act) (w : World), listed.size = ops.size → I listed a w → listed.toList.count false ≤ fuel → wpAny P md ops Q fuel listed a w := by
  have hcount : ∀ (listed : Array Bool) i, listed.getD i true = false → i < listed.toList.length ∧ listed.toList[i]? = some false := by
    intro listed i h
    by_cases hl : i < listed.size
    · refine ⟨by simpa using hl, ?_⟩
      simp only [Array.getD_eq_getD_getElem?, Array.getElem?_eq_getElem hl, Option.getD_some] at h
      simp [Array.getElem?_toList, Array.getElem?_eq_getElem hl, h]
    · simp [Array.getD_eq_getD_getElem?, Array.getElem?_eq_none (Nat.le_of_not_lt hl)] at h
  intro fuel
  induction fuel with
  | zero =>
    intro listed a w hl hI hc
    have h0 : Region.ready md ops listed = [] := by
      cases hr : Region.ready md ops listed with
      | nil => rfl
      | cons x xs =>
        have hx := (mem_ready.1 (show x ∈ Region.ready md ops listed by rw [hr]; exact List.mem_cons_self ..)).1
        have h1 := (hcount listed x hx).2
        have h2 : false ∈ listed.toList := List.mem_of_getElem? h1
        have := List.count_pos_iff.2 h2
        omega
    exact ⟨h0, he listed a w hl hI h0⟩
  | succ fuel ih =>
    intro listed a w hl hI hc
    refine ⟨fun h => he listed a w hl hI h, fun i hi => ?_⟩
    refine wpOp_mono (fun a' w' hI' => ih _ a' w' (by simpa using hl) hI' ?_) (hs listed a w i hl hI hi)
    obtain ⟨h1, h2⟩ := hcount listed i (mem_ready.1 hi).1
    have h3 : listed.toList[i] = false := by
      have := List.getElem?_eq_getElem h1
      rw [this] at h2
      exact Option.some.inj h2
    have h4 := List.count_set (l := listed.toList) (i := i) (a := true) (b := false) h1
    have h5 : 0 < listed.toList.count false := List.count_pos_iff.2 (List.mem_of_getElem? h2)
    rw [Array.toList_setIfInBounds, h4, h3]
    have e1 : (if (false == false) = true then 1 else 0) = 1 := rfl
    have e2 : (if (true == false) = true then 1 else 0) = 0 := rfl
    rw [e1, e2]
    omega

theorem not_listed {listed : Array Bool} {i : Nat} (h : listed.getD i true = false) : listed.getD i false = false := by
  by_cases hl : i < listed.size
  · simp only [Array.getD_eq_getD_getElem?, Array.getElem?_eq_getElem hl, Option.getD_some] at h ⊢
    exact h
  · simp [Array.getD_eq_getD_getElem?, Array.getElem?_eq_none (Nat.le_of_not_lt hl)]
theorem listed_set {listed : Array Bool} {i : Nat} (h : i < listed.size) : (listed.setIfInBounds i true).getD i false = true := by
  simp [Array.getD_eq_getD_getElem?, h]

theorem put_get_ne {a : Act} {d s : Tmp} {v : Value} (h : s ≠ d) : (a.put (some d) v).tmps[s]? = a.tmps[s]? := by
  simp [Act.put, Array.getElem?_setIfInBounds, Ne.symm h]
theorem put_get {a : Act} {d : Tmp} {v : Value} (h : d < a.tmps.size) : (a.put (some d) v).tmps[d]? = some v := by
  simp [Act.put, Array.getElem?_setIfInBounds, h]
theorem put_size {a : Act} {d : Option Tmp} {v : Value} : (a.put d v).tmps.size = a.tmps.size := by
  cases d <;> simp [Act.put]
theorem put_defers {a : Act} {d : Option Tmp} {v : Value} : (a.put d v).defers = a.defers := by
  cases d <;> simp [Act.put]
theorem eval_get {a : Act} {s : Tmp} {v : Value} (h : a.tmps[s]? = some v) : a.eval (.tmp s) = v := by
  simp [Act.eval, Array.getD_eq_getD_getElem?, h]

theorem step_wanted {P : Program} {ops : Array Oper} {Q : Exit → Act → World → Prop} {i : Nat} {o : Oper} {K : Act → World → Prop} {a : Act} {w : World}
    (hi : ops[i]? = some o) (hg : o.guard = none) (h : o.wp P a w K Q) : wpOp P ops Q i K a w := by
  unfold wpOp
  simp only [hi]
  rw [if_pos (by simp [Region.wanted, hg])]
  exact .inl h

theorem step_alloc {P : Program} {ops : Array Oper} {Q : Exit → Act → World → Prop} {i : Nat} {o : Oper} {K : Act → World → Prop} {a : Act} {w : World}
    (hi : ops[i]? = some o) (hg : o.guard = none) {ty : TypeId} (hop : o.op = .alloc ty) {zs : Array Value} (hz : ∀ w, (zeroValue ty).run P w = .ok (.agg zs) w)
    (h : K (a.put o.dst (.pointer (some ⟨w.heap.size, 0, none⟩))) (w.alloc (.cells zs ty))) : wpOp P ops Q i K a w := by
  refine step_wanted hi hg ?_
  unfold Oper.wp
  simp [execOp, hop, Instr.alloc, hz, newVar, newRow, newObj, Value.cells, Result.andThen, Oper.upon]
  exact h

theorem step_store {P : Program} {ops : Array Oper} {Q : Exit → Act → World → Prop} {i : Nat} {o : Oper} {K : Act → World → Prop} {a : Act} {w : World}
    (hi : ops[i]? = some o) (hg : o.guard = none) {ty : TypeId} {s v : Tmp} (hop : o.op = .store ty (.tmp s) (.tmp v)) {g : Nat} {old cs : Array Value}
    (hs : a.tmps[s]? = some (.pointer (some ⟨g, 0, none⟩))) (hv : a.tmps[v]? = some (.agg cs)) (hb : w.heap[g]? = some (.cells old ty (0, 0))) (hn : (P.info? ty).map (·.size) = some cs.size) (ho : old.size = cs.size) (h1 : cs.all (·.oneCell') = true)
    (h : K (a.put o.dst undef) (w.setRow g cs)) : wpOp P ops Q i K a w := by
  refine step_wanted hi hg ?_
  unfold Oper.wp
  simp [execOp, hop, eval_get hs, eval_get hv, Instr.storeAt, Instr.sureAddr, run_storeVar_row w g ty ty old cs hb hn ho h1, Result.andThen, Oper.upon, h]

theorem below_row {B : Nat} {w w' : World} (h : Below B w w') {g : Nat} (hg : B ≤ g) (cs : Array Value) : Below B w (w'.setRow g cs) :=
  ⟨h.os, h.tape, h.output, by simpa using h.size, fun j hj => (setRow_other w' g j cs (by omega)).trans (h.block j hj)⟩

end Go.Proofs.YtlicjplmcepbnaaGreatDoor
/- The document's trim. -/
namespace Go.Proofs.YtlicjplmcepbnaaGreatDoor
set_option linter.unusedVariables false
set_option linter.unusedSimpArgs false
open Go.RowKit

end Go.Proofs.YtlicjplmcepbnaaGreatDoor
/- The document's down. -/
namespace Go.Proofs.YtlicjplmcepbnaaGreatDoor
set_option linter.unusedVariables false
set_option linter.unusedSimpArgs false
open Go.RowKit

end Go.Proofs.YtlicjplmcepbnaaGreatDoor
/- The document's norm. -/
namespace Go.Proofs.YtlicjplmcepbnaaGreatDoor
set_option linter.unusedVariables false
set_option linter.unusedSimpArgs false
open Go.RowKit

/-- what the document's norm makes -/
def Nr (w' : World) (base : Nat) (a : Value) (neg : Bool) (x : Nat) (e : Int) : Prop :=
  (x = 0 ∧ a = NumV false (.slice none 0 0) 0) ∨ (x ≠ 0 ∧ ∃ g cap, a = NumV neg (.slice (some ⟨g, 0, none⟩) (dlen (x / 2 ^ tz x)) cap) (e + tz x) ∧ base ≤ g ∧ At w' (some ⟨g, 0, none⟩) (dlen (x / 2 ^ tz x)) (x / 2 ^ tz x))

end Go.Proofs.YtlicjplmcepbnaaGreatDoor
/- slices.Clone, negated. -/
namespace Go.Proofs.YtlicjplmcepbnaaGreatDoor
set_option linter.unusedVariables false
set_option linter.unusedSimpArgs false
open Go.RowKit

theorem own_of_row {w : World} {base n x : Nat} {v : Value} (h : w.ownsRow base 72 1 v n (cells x n)) (hn : dlen x = n) : Own w base v x := by
  rcases h.2 with ⟨rfl, h0⟩ | ⟨g, cap, c, rfl, hb, hc, h1, h2, h3, h4⟩
  · exact .inl ⟨rfl, dlen_eq_zero.1 (by omega)⟩
  · refine .inr ⟨g, cap, fun i => c.getD i undef, by rw [hn], hb, by omega, by unfold maxLen at h2; omega, ⟨c, hc, by omega, fun i hi => ?_⟩, fun i hi => ?_⟩
    · have : i < c.size := by omega
      simp [Array.getD_eq_getD_getElem?, Array.getElem?_eq_getElem this]
    · have h5 : (cells x n)[i]? = c[i]? := by
        rw [← h4, Nat.mul_one, List.getElem?_take, if_pos (by omega), Array.getElem?_toList]
      rw [cells_get (by omega)] at h5
      simp [Array.getD_eq_getD_getElem?, ← h5]

set_option maxHeartbeats 4000000 in
set_option maxRecDepth 200000 in
theorem clone_1 (b o n cap x : Nat) (w : World) (hn0 : 0 < n) (hn : n ≤ 1000000000) (hx : dlen x = n) (hcell : ∀ i, i < n → w.cell? ⟨b, o + i, none⟩ = some (.int .u32 (dg x i : Nat))) :
    Calls Tryz.prog 72 #[.slice (some ⟨b, o, none⟩) n cap] w fun r w' => ∃ v, r = .returned v ∧ Own w' w.heap.size v x ∧ Below w.heap.size w w' := by
  have HX : Hid (dlen x = n) := hx
  have hnil := Lib.run_eql_slice_nil (P := Tryz.prog) w 63 72 (some ⟨b, o, none⟩) n cap 0 0 Tryz.underlying63
  have HN : Hid (∀ j u, (cells x n)[j]? = some u → (w.alloc (Obj.cells #[] 72)).cell? ((⟨b, o, none⟩ : Addr).add j) = some u) := fun j u hj => by
    have hjl : j < n := by
      have := (List.getElem?_eq_some_iff.1 hj).1
      rwa [cells_length] at this
    rw [cells_get hjl] at hj
    have hcl := hcell j hjl
    rw [show (⟨b, o, none⟩ : Addr).add j = ⟨b, o + j, none⟩ by simp [Addr.add]]
    rw [World.cell?_alloc_old _ _ _ (by have := World.block_lt_of_cell? _ _ hcl; show b ≠ w.heap.size; simp at this; omega)]
    rw [← hj]; exact hcl
  have hOM : (w.alloc (Obj.cells #[] 72)).ownsRow w.heap.size 72 1 (.slice (some ⟨w.heap.size, 0, none⟩) 0 0) 0 [] := ⟨rfl, .inr ⟨w.heap.size, 0, #[], rfl, Nat.le_refl _, heap_alloc_new _ _, Nat.le_refl _, by unfold maxLen; omega, rfl, rfl⟩⟩
  obtain ⟨i0, hi0, hz0, hz1, hz2⟩ := info_parts Tryz.info72
  clear hx hcell
  go_enter Tryz.func72, Tryz.ntmps72
  go_wp2_with (at_builtin; refine wpList_append_own _ rfl _ _ 63 rfl w.heap.size 72 i0 (.int .u32 0) 1 4 Tryz.underlying63 hi0 hz0 hz1 hz2 rfl (by decide) _ 0 [] rfl hOM ⟨b, o, none⟩ n cap (cells x n) rfl (by rw [cells_length, Nat.mul_one]) HN.out (by intro u hu; simp [cells] at hu; obtain ⟨j, -, rfl⟩ := hu; rfl) (by unfold maxLen; omega) (by omega) (by simp) ?_)
  intro v' w2 hown hgrow _
  have HG : Hid (Below w.heap.size w w2 ∧ w2.ownsRow w.heap.size 72 1 v' n (cells x n)) := ⟨Below.grown ((Below.refl w.heap.size w).alloc (Nat.le_refl _) _) hgrow (by simp) (fun k hk => by simp [Value.ownBlock] at hk; omega), hown⟩
  clear hown hgrow hnil HN hOM hi0 hz0 hz1 hz2
  go_wp2
  go_ret
  exact ⟨v', rfl, own_of_row HG.out.2 HX.out, HG.out.1⟩

set_option maxHeartbeats 4000000 in
set_option maxRecDepth 200000 in
theorem clone_nil (cap : Nat) (w : World) :
    Calls Tryz.prog 72 #[.slice none 0 cap] w fun r w' => r = .returned (.slice none 0 0) ∧ w' = w := by
  have hnil := Lib.run_eql_slice_nil (P := Tryz.prog) w 63 72 none 0 cap 0 0 Tryz.underlying63
  go_enter Tryz.func72, Tryz.ntmps72
  go_wp2
  go_ret
  exact ⟨rfl, rfl⟩

set_option maxHeartbeats 4000000 in
set_option maxRecDepth 200000 in
theorem clone_0 (ad : Addr) (cap : Nat) (w : World) :
    Calls Tryz.prog 72 #[.slice (some ad) 0 cap] w fun r w' => ∃ v, r = .returned v ∧ Own w' w.heap.size v 0 ∧ Below w.heap.size w w' := by
  have hnil := Lib.run_eql_slice_nil (P := Tryz.prog) w 63 72 (some ad) 0 cap 0 0 Tryz.underlying63
  have HG : Hid (Below w.heap.size w (w.alloc (Obj.cells #[] 72)) ∧ (w.alloc (Obj.cells #[] 72)).heap[w.heap.size]? = some (.cells #[] 72 (0, 0))) := ⟨(Below.refl _ _).alloc (Nat.le_refl _) _, heap_alloc_new _ _⟩
  go_enter Tryz.func72, Tryz.ntmps72
  go_wp2
  go_ret
  refine ⟨.slice (some ⟨w.heap.size, 0, none⟩) 0 0, rfl, .inr ⟨w.heap.size, 0, fun _ => undef, by rw [dlen_zero], Nat.le_refl _, by rw [dlen_zero]; omega, by omega, ⟨#[], HG.out.2, rfl, fun i hi => by omega⟩, fun i hi => by rw [dlen_zero] at hi; omega⟩, HG.out.1⟩

theorem clone_ok {v : Value} {x : Nat} {w : World} (h : Is w v x) (hx : dlen x ≤ 1000000000) :
    Calls Tryz.prog 72 #[v] w fun r w' => ∃ v, r = .returned v ∧ Own w' w.heap.size v x ∧ Below w.heap.size w w' := by
  obtain ⟨ao, cap, rfl, h1, h2, h3⟩ := h
  by_cases h0 : x = 0
  · subst h0
    rw [dlen_zero]
    cases ao with
    | none =>
      refine (clone_nil cap w).mono ?_
      rintro r w' ⟨rfl, rfl⟩
      exact ⟨_, rfl, .inl ⟨rfl, rfl⟩, Below.refl _ _⟩
    | some ad => exact clone_0 ad cap w
  · have hl : 0 < dlen x := Nat.pos_of_ne_zero fun e => h0 (dlen_eq_zero.1 e)
    obtain ⟨b, o, g1, g2⟩ := h3
    obtain rfl := g1 hl
    exact clone_1 b o _ cap x w hl hx rfl g2
end Go.Proofs.YtlicjplmcepbnaaGreatDoor
/- negated, of a number below nought. -/
namespace Go.Proofs.YtlicjplmcepbnaaGreatDoor
set_option linter.unusedVariables false
set_option linter.unusedSimpArgs false
open Go.RowKit

end Go.Proofs.YtlicjplmcepbnaaGreatDoor
/- negated. -/
namespace Go.Proofs.YtlicjplmcepbnaaGreatDoor
set_option linter.unusedVariables false
set_option linter.unusedSimpArgs false
open Go.RowKit

end Go.Proofs.YtlicjplmcepbnaaGreatDoor
/- Up, refused. -/
namespace Go.Proofs.YtlicjplmcepbnaaGreatDoor
set_option linter.unusedVariables false
set_option linter.unusedSimpArgs false
open Go.RowKit

end Go.Proofs.YtlicjplmcepbnaaGreatDoor
/- math.Abs, math.IsInf. -/
namespace Go.Proofs.YtlicjplmcepbnaaGreatDoor
set_option linter.unusedVariables false
set_option linter.unusedSimpArgs false
open Go.RowKit Go.Fl64

theorem c159 (a : Nat) (ha : a < 18446744073709551616) (w : World) :
    Calls Tryz.prog 57 #[.float .f64 a] w fun e w' => e = .returned (.float .f64 (mag a)) ∧ w' = w := by
  have hb := Ie.run_bits
  have hf := Ie.run_frombits
  go_enter Tryz.func57, Tryz.ntmps57
  go_wp2
  go_ret
  refine ⟨?_, rfl⟩
  show Ending.returned (.float .f64 (bits .andNot .u64 a 9223372036854775808).toNat) = _
  rw [andNot_sign a ha]
  simp

theorem mag_lt' (a : Nat) (ha : a < 18446744073709551616) : mag a < 18446744073709551616 := by unfold mag; omega

theorem c123 (a : Nat) (ha : a < 18446744073709551616) (w : World) :
    Calls Tryz.prog 35 #[.float .f64 a, .int .i64 0] w fun e w' => e = .returned (.bool (lt 9218868437227405311 (mag a))) ∧ w' = w := by
  have k := c159 a ha
  have h := ord_gt (mag a) 9218868437227405311 (mag_lt' a ha) (by omega)
  generalize mag a = m at *
  have H : Hid ((FloatKind.f64.format.order m 9218868437227405311 == some Ordering.gt) = lt 9218868437227405311 m) := h
  clear h
  go_enter Tryz.func35, Tryz.ntmps35
  go_wp2_with (first | (go_at_call 57; refine (k _).mono ?_; rintro e w' ⟨rfl, rfl⟩))
  go_ret
  exact ⟨congrArg Ending.returned (congrArg Value.bool H.out), rfl⟩

/-- the digits' signs in base 16, as the library writes them -/
def hx (d : Nat) : Nat := if d < 10 then 48 + d else 87 + d

end Go.Proofs.YtlicjplmcepbnaaGreatDoor
/- formatBits at base 16. -/
namespace Go.Proofs.YtlicjplmcepbnaaGreatDoor
set_option linter.unusedVariables false
set_option linter.unusedSimpArgs false
open Go.RowKit Go.Fl64

end Go.Proofs.YtlicjplmcepbnaaGreatDoor
/- Up. -/
namespace Go.Proofs.YtlicjplmcepbnaaGreatDoor
set_option linter.unusedVariables false
set_option linter.unusedSimpArgs false
open Go.RowKit Go.Fl64

theorem Nrm.later {w w' : World} {base : Nat} {a : Value} {neg : Bool} {x : Nat} {e : Int} (h : Nrm w base a neg x e) (hb : Below w.heap.size w w') : Nrm w' base a neg x e := by
  rcases h with h | ⟨h0, v, h1, ho⟩
  · exact .inl h
  · exact .inr ⟨h0, v, h1, ho.later hb⟩

/-- a number in a box of its own, made behind w3 -/
def Bx (w3 wc : World) (g : Nat) (s : Bool) (ao : Option Addr) (n cap : Nat) (ex : Int) (sL : Bool) (zL : Nat) (eL : Int) : Prop :=
  wc.heap[g]? = some (.cells #[.bool s, .slice ao n cap, .int .i64 ex] 65 (0, 0)) ∧ w3.heap.size ≤ g ∧ Below w3.heap.size w3 wc ∧ Nrm wc w3.heap.size (.agg #[.bool s, .slice ao n cap, .int .i64 ex]) sL zL eL
theorem Bx.new {w3 w7 : World} {base : Nat} {s : Bool} {ao : Option Addr} {n cap : Nat} {ex : Int} {sL : Bool} {zL : Nat} {eL : Int} (hn : Nrm w7 base (.agg #[.bool s, .slice ao n cap, .int .i64 ex]) sL zL eL) (hb : Below w3.heap.size w3 w7) (hs : w3.heap.size ≤ base) :
    Bx w3 (w7.alloc (.cells #[.bool s, .slice ao n cap, .int .i64 ex] 65)) w7.heap.size s ao n cap ex sL zL eL :=
  ⟨heap_alloc_new _ _, hb.size, hb.alloc hb.size _, (hn.later ((Below.refl _ _).alloc (Nat.le_refl _) _)).mono hs⟩
theorem lt_of_box {w : World} {g : Nat} {o : Obj} (h : w.heap[g]? = some o) : g < w.heap.size := (Array.getElem?_eq_some_iff.1 h).1
theorem Bx.put {w3 w7 : World} {base g : Nat} {s : Bool} {ao : Option Addr} {n cap : Nat} {ex : Int} {sL : Bool} {zL : Nat} {eL : Int} {p q r : Value} (hn : Nrm w7 base (.agg #[.bool s, .slice ao n cap, .int .i64 ex]) sL zL eL) (hb : Below w3.heap.size w3 w7) (hs : w3.heap.size ≤ base) (hg : w3.heap.size ≤ g) (hlt : g < base) (hbx : w7.heap[g]? = some (.cells #[p, q, r] 65 (0, 0))) :
    Bx w3 (((w7.setCell ⟨g, 0, none⟩ (.bool s)).setCell ⟨g, 1, none⟩ (.slice ao n cap)).setCell ⟨g, 2, none⟩ (.int .i64 ex)) g s ao n cap ex sL zL eL :=
  ⟨store3 _ _ _ hbx, hg, below_store3 hb hg _ _ _, (hn.store hlt _ _ _).mono hs⟩

theorem same_self (a : Nat) : same a a = true := by simp [same]
end Go.Proofs.YtlicjplmcepbnaaGreatDoor
/- Sub. -/
namespace Go.Proofs.YtlicjplmcepbnaaGreatDoor
set_option linter.unusedVariables false
set_option linter.unusedSimpArgs false
open Go.RowKit

theorem dlen_sumN (na : Bool) (x : Nat) (ea : Int) (nb : Bool) (y : Nat) (eb : Int) (hx : dlen x ≤ 500000) (hy : dlen y ≤ 500000) (ha : -4000000 ≤ ea ∧ ea ≤ 4000000) (hb : -4000000 ≤ eb ∧ eb ≤ 4000000) : dlen (sumN na x ea nb y eb).2.1 ≤ 1000000 := by
  unfold sumN
  have l1 : dlen (x * 2 ^ (ea - min ea eb).toNat) ≤ 760000 := by have := shl_len (x := x) (k := (ea - min ea eb).toNat) rfl; omega
  have l2 : dlen (y * 2 ^ (eb - min ea eb).toNat) ≤ 760000 := by have := shl_len (x := y) (k := (eb - min ea eb).toNat) rfl; omega
  have l3 := dlen_add_le (x * 2 ^ (ea - min ea eb).toNat) (y * 2 ^ (eb - min ea eb).toNat)
  split
  · show dlen y ≤ _; omega
  · split
    · show dlen x ≤ _; omega
    · split
      · show dlen (_ + _) ≤ _; omega
      · split
        · have := dlen_mono (Nat.sub_le (y * 2 ^ (eb - min ea eb).toNat) (x * 2 ^ (ea - min ea eb).toNat)); show dlen (_ - _) ≤ _; omega
        · have := dlen_mono (Nat.sub_le (x * 2 ^ (ea - min ea eb).toNat) (y * 2 ^ (eb - min ea eb).toNat)); show dlen (_ - _) ≤ _; omega

end Go.Proofs.YtlicjplmcepbnaaGreatDoor
