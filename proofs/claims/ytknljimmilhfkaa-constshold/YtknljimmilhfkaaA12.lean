/- Own work: contracts of the program's functions, part 12: DL1 DL2 DL3. -/
import Derived.Test.YtknljimmilhfkaaA10
import Derived.Test.YtknljimmilhfkaaA11
import Derived.Test.YtknljimmilhfkaaA14

/- The document's numbers, as long as its series need them: sums, products, order, differences, shifts. -/
namespace Go.Proofs.Ytknljimmilhfkaa
set_option linter.unusedVariables false
set_option linter.unusedSimpArgs false
open Go.RowKit Go.Fl64

def gS (t1 t2 : Bool × Nat × Int) : Bool × Nat × Int := cn (sumN t1.1 t1.2.1 t1.2.2 t2.1 t2.2.1 t2.2.2).1 (sumN t1.1 t1.2.1 t1.2.2 t2.1 t2.2.1 t2.2.2).2.1 (sumN t1.1 t1.2.1 t1.2.2 t2.1 t2.2.1 t2.2.2).2.2
def gM (t1 t2 : Bool × Nat × Int) : Bool × Nat × Int := cn (!(t1.1 == t2.1)) (t1.2.1 * t2.2.1) (t1.2.2 + t2.2.2)
def gD (t1 t2 : Bool × Nat × Int) : Bool × Nat × Int := cn (sumN t1.1 t1.2.1 t1.2.2 (!t2.1 && decide (0 < dlen t2.2.1)) t2.2.1 t2.2.2).1 (sumN t1.1 t1.2.1 t1.2.2 (!t2.1 && decide (0 < dlen t2.2.1)) t2.2.1 t2.2.2).2.1 (sumN t1.1 t1.2.1 t1.2.2 (!t2.1 && decide (0 < dlen t2.2.1)) t2.2.1 t2.2.2).2.2
set_option maxHeartbeats 4000000 in
set_option maxRecDepth 200000 in
theorem gtimes_1 (na nb sg : Bool) (ua va : Option Addr) (un uc vn vc x y : Nat) (ea eb : Int) (w : World) (h1 : Ir w (.slice ua un uc) x) (h2 : Ir w (.slice va vn vc) y) (hx : dlen x ≤ 400000) (hy : dlen y ≤ 400000) (he1 : -4000000 ≤ ea) (he2 : ea ≤ 4000000) (he3 : -4000000 ≤ eb) (he4 : eb ≤ 4000000) (hsg : (!(na == nb)) = sg) :
    Calls Try.prog 9 #[.agg #[.bool na, .slice ua un uc, .int .i64 ea], .agg #[.bool nb, .slice va vn vc, .int .i64 eb]] w fun r w' => ∃ a, r = .returned a ∧ NC w' w.heap.size a sg (x * y) (ea + eb) ∧ Below w.heap.size w w' := by
  obtain ⟨W, hW⟩ : ∃ W, W = ((w.alloc (.cells #[.bool na, .slice ua un uc, .int .i64 ea] 30)).alloc (.cells #[.bool nb, .slice va vn vc, .int .i64 eb] 30)).alloc (.cells #[.bool false, .slice none 0 0, .int .i64 0] 30) := ⟨_, rfl⟩
  obtain ⟨hA, hBb, hC, hsz, hBW⟩ := boxes3 _ _ _ hW
  have hxy : dlen (x * y) ≤ 1000000 := by
    have l1 := (dlen_le (dlen x) x).1 (Nat.le_refl _)
    have l2 := (dlen_le (dlen y) y).1 (Nat.le_refl _)
    have : dlen (x * y) ≤ dlen x + dlen y := (dlen_le _ _).2 (by
      rw [Nat.pow_add]
      rcases Nat.eq_zero_or_pos x with h | h
      · rw [h, Nat.zero_mul]; exact Nat.mul_pos (Bpow_pos _) (Bpow_pos _)
      · exact Nat.mul_lt_mul_of_lt_of_le l1 (Nat.le_of_lt l2) (Bpow_pos _))
    omega
  have HH : Hid (W.heap[w.heap.size + 1 + 1]? = some (.cells #[.bool false, .slice none 0 0, .int .i64 0] 30 (0, 0)) ∧ W.heap.size = w.heap.size + 1 + 1 + 1 ∧ Below w.heap.size w W) := ⟨hC, hsz, hBW⟩
  have k78 : ∀ w4, Below W.heap.size W w4 → Calls Try.prog 25 #[.slice ua un uc, .slice va vn vc] w4 fun r w' => ∃ v, r = .returned v ∧ Own w' W.heap.size v (x * y) ∧ Below W.heap.size W w' := fun w4 hb =>
    (rprod ((h1.later hBW).later hb) ((h2.later hBW).later hb) (by omega) (by omega)).mono fun r w' ⟨v, e1, o1, o2⟩ => ⟨v, e1, o1.mono hb.size, hb.trans (o2.mono hb.size)⟩
  have k31 : ∀ v5 w5, Own w5 W.heap.size v5 (x * y) → Below W.heap.size W w5 → Calls Try.prog 17 #[.bool sg, v5, .int .i64 (ea + eb)] w5 fun r w' => ∃ s ao n cap ex, r = .returned (.agg #[.bool s, .slice ao n cap, .int .i64 ex]) ∧
      Hid (NC w' w5.heap.size (.agg #[.bool s, .slice ao n cap, .int .i64 ex]) sg (x * y) (ea + eb) ∧ W.heap.size ≤ w5.heap.size) ∧ Below W.heap.size W w' ∧ Hid (w'.heap[w.heap.size + 1 + 1]? = some (.cells #[.bool false, .slice none 0 0, .int .i64 0] 30 (0, 0))) ∧
      (w'.cell? ⟨w.heap.size + 1 + 1, 0, none⟩ = some (.bool false) ∧ w'.cell? ⟨w.heap.size + 1 + 1, 1, none⟩ = some (.slice none 0 0) ∧ w'.cell? ⟨w.heap.size + 1 + 1, 2, none⟩ = some (.int .i64 0)) ∧ (w'.frozen? ⟨w.heap.size + 1 + 1, 0, none⟩ = false ∧ w'.frozen? ⟨w.heap.size + 1 + 1, 1, none⟩ = false ∧ w'.frozen? ⟨w.heap.size + 1 + 1, 2, none⟩ = false) := by
    intro v5 w5 ho hb
    obtain ⟨ao0, cap0, rfl, hl0, -, hat0⟩ := ho.is
    refine (rnormN hat0 (Nat.le_refl _) hl0 (by omega) (by omega)).mono ?_
    rintro r w6 ⟨a, rfl, hN, hb6⟩
    obtain ⟨s, ao, n, cap, ex, rfl⟩ := hN.shape
    have hb46 : Below W.heap.size W w6 := hb.trans (hb6.mono hb.size)
    have hblk := box_later HH.out.1 hb46 (by have := HH.out.2.1; omega)
    obtain ⟨f1, f2⟩ := box_cells29 hblk
    exact ⟨s, ao, n, cap, ex, rfl, ⟨hN, hb.size⟩, hb46, hblk, f1, f2⟩
  obtain ⟨⟨a0, a1, a2⟩, -⟩ := box_cells29 hA
  obtain ⟨⟨b0, b1, b2⟩, -⟩ := box_cells29 hBb
  have HK : Hid (∀ w', Below W.heap.size W w' → ((w'.cell? ⟨w.heap.size, 0, none⟩ = some (.bool na) ∧ w'.cell? ⟨w.heap.size, 1, none⟩ = some (.slice ua un uc) ∧ w'.cell? ⟨w.heap.size, 2, none⟩ = some (.int .i64 ea)) ∧ (w'.cell? ⟨w.heap.size + 1, 0, none⟩ = some (.bool nb) ∧ w'.cell? ⟨w.heap.size + 1, 1, none⟩ = some (.slice va vn vc) ∧ w'.cell? ⟨w.heap.size + 1, 2, none⟩ = some (.int .i64 eb)))) := fun w' hb => ⟨(box_cells29 (box_later hA hb (by omega))).1, (box_cells29 (box_later hBb hb (by omega))).1⟩
  have HK2 : Hid (∀ w', Below (w.heap.size + 1 + 1) W w' → ((w'.cell? ⟨w.heap.size, 0, none⟩ = some (.bool na) ∧ w'.cell? ⟨w.heap.size, 1, none⟩ = some (.slice ua un uc) ∧ w'.cell? ⟨w.heap.size, 2, none⟩ = some (.int .i64 ea)) ∧ (w'.cell? ⟨w.heap.size + 1, 0, none⟩ = some (.bool nb) ∧ w'.cell? ⟨w.heap.size + 1, 1, none⟩ = some (.slice va vn vc) ∧ w'.cell? ⟨w.heap.size + 1, 2, none⟩ = some (.int .i64 eb)))) := fun w' hb => ⟨(box_cells29 (box_later hA hb (by omega))).1, (box_cells29 (box_later hBb hb (by omega))).1⟩
  have HS2 : Hid (w.heap.size + 1 + 1 ≤ W.heap.size) := (by omega : w.heap.size + 1 + 1 ≤ W.heap.size)
  have hBR : Below W.heap.size W W.drew := (Below.refl _ _).drew
  have wz : IntKind.i64.wrap (ea + eb) = ea + eb := by rw [IntKind.wrap_i64]; omega
  clear hA hBb hC hsz hBW h1 h2 hx hy hxy
  go_enter Try.func9, Try.ntmps9
  go_upto_region 1 with fail
  rw [← hW]
  clear hW
  go_region_held3 (fun w' => ((w'.cell? ⟨w.heap.size, 0, none⟩ = some (.bool na) ∧ w'.cell? ⟨w.heap.size, 1, none⟩ = some (.slice ua un uc) ∧ w'.cell? ⟨w.heap.size, 2, none⟩ = some (.int .i64 ea)) ∧ (w'.cell? ⟨w.heap.size + 1, 0, none⟩ = some (.bool nb) ∧ w'.cell? ⟨w.heap.size + 1, 1, none⟩ = some (.slice va vn vc) ∧ w'.cell? ⟨w.heap.size + 1, 2, none⟩ = some (.int .i64 eb)))) (first | (with_reducible assumption) | exact ⟨⟨a0, a1, a2⟩, b0, b1, b2⟩ | (refine HK.out _ ?_; with_reducible assumption) | (refine HK2.out _ (below_store3 (Below.mono hb6 HS2.out) (Nat.le_refl _) _ _ _)) | go_keep)
    (first | (go_at_call 25; refine (k78 _ (by first | (with_reducible assumption) | exact hBR)).mono ?_; rintro r w5 ⟨v5, rfl, ho5, hb5⟩) | (go_at_call 17; (try simp only [hsg, wz]); refine (k31 _ _ ho5 hb5).mono ?_; rintro r w6 ⟨s6, ao6, n6, cap6, ex6, rfl, hN6, hb6, hblk6, ⟨x1, x2, x3⟩, x4, x5, x6⟩))
  have HF : Hid (Below W.heap.size W w6) := hb6
  clear ho5 hb5 hb6 k31 k78 x1 x2 x3 x4 x5 x6 a0 a1 a2 b0 b1 b2 HK HK2
  go_wp2
  refine bodyPost_ret (results_cell_row rfl _ _ (w.heap.size + 1 + 1) 30 #[.bool s6, .slice ao6 n6 cap6, .int .i64 ex6] (0, 0) _ rfl (store3_29 _ _ _ hblk6.out) Try.underlying30 rfl Try.info30) rfl ?_
  obtain ⟨-, hs, hBW⟩ := HH.out
  have hs5 := hN6.out.2
  exact ⟨_, rfl, (hN6.out.1.store (by omega) _ _ _).mono (by omega), below_store3 (hBW.trans (HF.out.mono hBW.size)) (by omega) _ _ _⟩


theorem garg0 (w : World) : Arg w none 0 0 0 := ⟨fun _ => .inr ⟨rfl, rfl⟩, ⟨0, 0, fun h => absurd h (by omega), fun i hi => absurd hi (by omega)⟩, Nat.le_refl _, by omega⟩
theorem garg0D (w : World) : Arg w none (dlen 0) 0 0 := by rw [dlen_zero]; exact garg0 w
/-- as long as it may be here -/
def Gn (t : Bool × Nat × Int) : Prop := cn t.1 t.2.1 t.2.2 = t ∧ dlen t.2.1 ≤ 60000 ∧ -1000000 ≤ t.2.2 ∧ t.2.2 ≤ 1000000
theorem gplus {t1 t2 : Bool × Nat × Int} {X Y : Value} {w : World} (o1 : Gn t1) (o2 : Gn t2) (h1 : DN w X t1) (h2 : DN w Y t2) : Calls Try.prog 26 #[X, Y] w fun r w' => ∃ A, r = .returned A ∧ DN w' A (gS t1 t2) ∧ Below w.heap.size w w' := by
  obtain ⟨ao, cap, rfl, a1⟩ := h1
  obtain ⟨ao', cap', rfl, a2⟩ := h2
  obtain ⟨c1, f1, f2, f3⟩ := o1
  obtain ⟨c2, g1, g2, g3⟩ := o2
  exact (rplusG a1 a2 c1 c2 (by omega) (by omega) (by omega) (by omega) (by omega) (by omega)).mono fun r w' ⟨A, e, h, hb⟩ => ⟨A, e, h.dn, hb⟩
theorem gtimes {t1 t2 : Bool × Nat × Int} {X Y : Value} {w : World} (o1 : Gn t1) (o2 : Gn t2) (h1 : DN w X t1) (h2 : DN w Y t2) : Calls Try.prog 9 #[X, Y] w fun r w' => ∃ A, r = .returned A ∧ DN w' A (gM t1 t2) ∧ Below w.heap.size w w' := by
  obtain ⟨ao, cap, rfl, a1⟩ := h1
  obtain ⟨ao', cap', rfl, a2⟩ := h2
  obtain ⟨c1, f1, f2, f3⟩ := o1
  obtain ⟨c2, g1, g2, g3⟩ := o2
  exact (gtimes_1 t1.1 t2.1 _ ao ao' _ cap _ cap' t1.2.1 t2.2.1 t1.2.2 t2.2.2 w ⟨ao, cap, rfl, a1.le, a1.at_⟩ ⟨ao', cap', rfl, a2.le, a2.at_⟩ (by omega) (by omega) (by omega) (by omega) (by omega) (by omega) rfl).mono fun r w' ⟨A, e, h, hb⟩ => ⟨A, e, h.dn, hb⟩
theorem gorder {t1 t2 : Bool × Nat × Int} {X Y : Value} {w : World} (o1 : Gn t1) (o2 : Gn t2) (h1 : DN w X t1) (h2 : DN w Y t2) : Calls Try.prog 8 #[X, Y] w fun r w' => r = .returned (.int .i64 (ordN t1.1 t1.2.1 t1.2.2 t2.1 t2.2.1 t2.2.2)) ∧ Below w.heap.size w w' := by
  obtain ⟨ao, cap, rfl, a1⟩ := h1
  obtain ⟨ao', cap', rfl, a2⟩ := h2
  obtain ⟨c1, f1, f2, f3⟩ := o1
  obtain ⟨c2, g1, g2, g3⟩ := o2
  exact rorder a1 a2 (by omega) (by omega) (by omega) (by omega)
theorem Gn.zero {t : Bool × Nat × Int} (h : Gn t) (h0 : t.2.1 = 0) : t = (false, 0, 0) := by
  have e := h.1
  unfold cn at e
  rw [if_pos h0] at e
  exact e.symm
theorem gcn_turn {t : Bool × Nat × Int} (h : cn t.1 t.2.1 t.2.2 = t) (h0 : t.2.1 ≠ 0) (s : Bool) : cn s t.2.1 t.2.2 = (s, t.2.1, t.2.2) := by
  unfold cn at h ⊢
  rw [if_neg h0] at h ⊢
  rw [Prod.ext_iff] at h
  exact Prod.ext rfl h.2
theorem gless {t1 t2 : Bool × Nat × Int} {X Y : Value} {w : World} (o1 : Gn t1) (o2 : Gn t2) (h1 : DN w X t1) (h2 : DN w Y t2) : Calls Try.prog 10 #[X, Y] w fun r w' => ∃ A, r = .returned A ∧ DN w' A (gD t1 t2) ∧ Below w.heap.size w w' := by
  obtain ⟨ao, cap, rfl, a1⟩ := h1
  obtain ⟨ao', cap', rfl, a2⟩ := h2
  have z2 := o2.zero
  obtain ⟨c1, f1, f2, f3⟩ := o1
  obtain ⟨c2, g1, g2, g3⟩ := o2
  unfold gD
  by_cases h0 : t2.2.1 = 0
  · have e2 := z2 h0
    have e3 : t2.1 = false := by rw [e2]
    have e4 : t2.2.2 = 0 := by rw [e2]
    rw [h0, e3, e4, dlen_zero]
    have k2 := fun (W : World) (hW : Below w.heap.size w W) => rplusG (nb := false) (y := 0) (eb := 0) (a1.later hW) (garg0D W) c1 rfl (by omega) (by omega) (by omega) (by omega) (by omega) (by rw [dlen_zero]; omega)
    simp only [dlen_zero] at k2
    exact (rlessN_1 t1.1 false ao ao' (dlen t1.2.1) cap 0 cap' t1.2.2 0 false none 0 0 0 _ _ _ w (fun W => rminus_0 false ao' cap' 0 W) k2).mono fun r w' ⟨A, e, h, hb⟩ => ⟨A, e, h.dn, hb⟩
  · have hl : 0 < dlen t2.2.1 := by have := dlen_pos h0; omega
    rw [decide_eq_true hl, Bool.and_true]
    exact (rlessN_1 t1.1 t2.1 ao ao' (dlen t1.2.1) cap (dlen t2.2.1) cap' t1.2.2 t2.2.2 (!t2.1) ao' (dlen t2.2.1) cap' t2.2.2 _ _ _ w (fun W => rminus_1 t2.1 ao' (dlen t2.2.1) cap' t2.2.2 W (by omega) (by rw [beq_eq_false_iff_ne]; omega)) (fun W hW => rplusG (a1.later hW) (a2.later hW) c1 (gcn_turn c2 h0 _) (by omega) (by omega) (by omega) (by omega) (by omega) (by omega))).mono fun r w' ⟨A, e, h, hb⟩ => ⟨A, e, h.dn, hb⟩
set_option maxRecDepth 200000 in
theorem gwhole_1 (n : Int) (m : Nat) (w : World) (hm : m < 18446744073709551616) (hn1 : 0 ≤ n) (hn2 : n ≤ 9223372036854775807) (hwr : IntKind.u64.wrap n = (m : Int)) :
    Calls Try.prog 6 #[.int .i64 n] w fun r w' => ∃ A, r = .returned A ∧ NC w' w.heap.size A false m 0 ∧ Below w.heap.size w w' := by
  have hnn : ¬ n < 0 := by omega
  obtain ⟨W, hW⟩ : ∃ W, W = w.alloc (.cells #[.bool false, .slice none 0 0, .int .i64 0] 30) := ⟨_, rfl⟩
  have k34 := xnorm_two (ng := false) (m := m) (e := 0) (W := W) hm (by omega)
  have HB0 : Hid (Below w.heap.size w W ∧ W.heap[w.heap.size]? = some (.cells #[.bool false, .slice none 0 0, .int .i64 0] 30 (0, 0)) ∧ W.heap.size = w.heap.size + 1) := ⟨by rw [hW]; exact (Below.refl _ _).alloc (Nat.le_refl _) _, by rw [hW]; exact heap_alloc_new _ _, by rw [hW]; simp⟩
  rw [HB0.out.2.2] at k34
  go_enter Try.func6, Try.ntmps6
  go_wp2_with fail
  rw [← hW]
  clear hW
  refine k34.mono ?_
  rintro r w3 ⟨s, ao, n, cap, ex, rfl, hn, hb⟩
  have hs := HB0.out.2.2
  have HC3 : Hid (w3.heap[w.heap.size]? = some (.cells #[.bool false, .slice none 0 0, .int .i64 0] 30 (0, 0))) := box_later HB0.out.2.1 hb (by omega)
  obtain ⟨⟨a1, a2, a3⟩, a4, a5, a6⟩ := box_cells29 HC3.out
  have HN : Hid (NC w3 (w.heap.size + 1) (.agg #[.bool s, .slice ao n cap, .int .i64 ex]) false m 0 ∧ Below (w.heap.size + 1) W w3) := ⟨hn.mono (by omega), hb⟩
  clear hn hb k34 hs
  go_wp2
  refine bodyPost_ret (results_cell_row rfl _ _ w.heap.size 30 #[.bool s, .slice ao n cap, .int .i64 ex] (0, 0) _ rfl (store3_29 _ _ _ HC3.out) Try.underlying30 rfl Try.info30) rfl ?_
  have hs := HB0.out.2.2
  exact ⟨_, rfl, (HN.out.1.store (by omega) _ _ _).mono (by omega), below_store3 (HB0.out.1.trans (HN.out.2.mono (by omega))) (Nat.le_refl _) _ _ _⟩

set_option maxRecDepth 200000 in
theorem gwhole_2 (n : Int) (m : Nat) (w : World) (hm : m < 18446744073709551616) (hn1 : n < 0) (hn2 : -9223372036854775808 ≤ n) (hwr : -(n + 1) + 1 = (m : Int)) :
    Calls Try.prog 6 #[.int .i64 n] w fun r w' => ∃ A, r = .returned A ∧ NC w' w.heap.size A true m 0 ∧ Below w.heap.size w w' := by
  obtain ⟨W, hW⟩ : ∃ W, W = w.alloc (.cells #[.bool false, .slice none 0 0, .int .i64 0] 30) := ⟨_, rfl⟩
  have k34 := xnorm_two (ng := true) (m := m) (e := 0) (W := W) hm (by omega)
  have HB0 : Hid (Below w.heap.size w W ∧ W.heap[w.heap.size]? = some (.cells #[.bool false, .slice none 0 0, .int .i64 0] 30 (0, 0)) ∧ W.heap.size = w.heap.size + 1) := ⟨by rw [hW]; exact (Below.refl _ _).alloc (Nat.le_refl _) _, by rw [hW]; exact heap_alloc_new _ _, by rw [hW]; simp⟩
  rw [HB0.out.2.2] at k34
  go_enter Try.func6, Try.ntmps6
  go_wp2_with fail
  rw [← hW]
  clear hW
  refine k34.mono ?_
  rintro r w3 ⟨s, ao, n, cap, ex, rfl, hn, hb⟩
  have hs := HB0.out.2.2
  have HC3 : Hid (w3.heap[w.heap.size]? = some (.cells #[.bool false, .slice none 0 0, .int .i64 0] 30 (0, 0))) := box_later HB0.out.2.1 hb (by omega)
  obtain ⟨⟨a1, a2, a3⟩, a4, a5, a6⟩ := box_cells29 HC3.out
  have HN : Hid (NC w3 (w.heap.size + 1) (.agg #[.bool s, .slice ao n cap, .int .i64 ex]) true m 0 ∧ Below (w.heap.size + 1) W w3) := ⟨hn.mono (by omega), hb⟩
  clear hn hb k34 hs
  go_wp2
  refine bodyPost_ret (results_cell_row rfl _ _ w.heap.size 30 #[.bool s, .slice ao n cap, .int .i64 ex] (0, 0) _ rfl (store3_29 _ _ _ HC3.out) Try.underlying30 rfl Try.info30) rfl ?_
  have hs := HB0.out.2.2
  exact ⟨_, rfl, (HN.out.1.store (by omega) _ _ _).mono (by omega), below_store3 (HB0.out.1.trans (HN.out.2.mono (by omega))) (Nat.le_refl _) _ _ _⟩
theorem gwhole {n : Int} {w : World} (hn : -9223372036854775808 ≤ n ∧ n ≤ 9223372036854775807) :
    Calls Try.prog 6 #[.int .i64 n] w fun r w' => ∃ A, r = .returned A ∧ DN w' A (cn (decide (n < 0)) n.natAbs 0) ∧ Below w.heap.size w w' := by
  by_cases h : n < 0
  · rw [decide_eq_true h]
    exact (gwhole_2 n n.natAbs w (by omega) h (by omega) (by omega)).mono fun r w' ⟨A, e, h, hb⟩ => ⟨A, e, h.dn, hb⟩
  · rw [decide_eq_false h]
    exact (gwhole_1 n n.natAbs w (by omega) (by omega) (by omega) (by rw [IntKind.wrap_u64]; omega)).mono fun r w' ⟨A, e, h, hb⟩ => ⟨A, e, h.dn, hb⟩
end Go.Proofs.Ytknljimmilhfkaa
/- Several values made at once and put into boxes that are there already. -/
namespace Go.Proofs.Ytknljimmilhfkaa
set_option linter.unusedVariables false
set_option linter.unusedSimpArgs false
open Go.RowKit

/-- all but the boxes gs k stays, and what lies below B -/
structure KeepB (n : Nat) (gs : Nat → Nat) (B : Nat) (W0 w : World) : Prop where
  below : Below B W0 w
  size : W0.heap.size ≤ w.heap.size
  keep : ∀ b, b < W0.heap.size → (∀ k, k < n → b ≠ gs k) → w.heap[b]? = W0.heap[b]?
theorem KeepB.step {n : Nat} {gs : Nat → Nat} {B : Nat} {W0 w w' : World} (h : KeepB n gs B W0 w) (hB : B ≤ W0.heap.size) (hb : Below w.heap.size w w') : KeepB n gs B W0 w' :=
  ⟨h.below.trans (hb.mono (Nat.le_trans hB h.size)), Nat.le_trans h.size hb.size, fun b h1 h2 => (hb.block b (Nat.lt_of_lt_of_le h1 h.size)).trans (h.keep b h1 h2)⟩
theorem KeepB.row {n : Nat} {gs : Nat → Nat} {B : Nat} {W0 w : World} (h : KeepB n gs B W0 w) {k : Nat} (hk : k < n) (hB : B ≤ gs k) (cs : Array Value) : KeepB n gs B W0 (w.setRow (gs k) cs) :=
  ⟨below_row h.below hB _, by simpa using h.size, fun b h1 h2 => (setRow_other w (gs k) b cs (h2 k hk)).trans (h.keep b h1 h2)⟩

structure ParS (W0 : World) (a0 : Act) (m n : Nat) (slot : Nat → Tmp) (vs gs : Nat → Nat) (B : Nat) (T : TypeId) (C : Array Value → Prop) (z : Nat) (V : Nat → World → Value → Prop) (listed : Array Bool) (a : Act) (w : World) : Prop where
  kept : KeepB n gs B W0 w
  size : a.tmps.size = a0.tmps.size
  defers : a.defers = a0.defers
  other : ∀ s, (∀ j, j < m → s ≠ slot j) → a.tmps[s]? = a0.tmps[s]?
  val : ∀ j, j < m → listed.getD j false = true → ∃ u, a.tmps[slot j]? = some u ∧ V j w u
  box : ∀ k, k < n → ∃ cs, w.heap[gs k]? = some (.cells cs T (0, 0)) ∧ cs.size = z ∧ C cs ∧ (listed.getD (m + k) false = true → a.tmps[slot (vs k)]? = some (.agg cs))
  stored : ∀ k, k < n → listed.getD (m + k) false = true → listed.getD (vs k) false = true

theorem pars_region {P : Program} {ops : Array Oper} {Q : Exit → Act → World → Prop} {id : Nat} (hm : P.follows .mixedOrders = true) (m n : Nat) (slot bx : Nat → Tmp) (vs gs : Nat → Nat) (B : Nat) (dep : Nat → List Nat) (T : TypeId) (C : Array Value → Prop) (z : Nat)
    (W0 : World) (a0 : Act) (V : Nat → World → Value → Prop) (hsz : ops.size = m + n)
    (hord : ∀ (i : Nat) (o : Oper), ops[i]? = some o → ∀ e ∈ o.after, e.on < i)
    (hV1 : ∀ j w w' u, Below w.heap.size w w' → V j w u → V j w' u)
    (hV2 : ∀ j w u g cs cs', w.heap[g]? = some (.cells cs T (0, 0)) → C cs → V j w u → V j (w.setRow g cs') u)
    (hVs : ∀ k, k < n → ∀ w u, V (vs k) w u → ∃ cs : Array Value, u = .agg cs ∧ cs.size = z ∧ C cs ∧ cs.all (·.oneCell') = true)
    (hdep : ∀ j, j < m → ∀ j' ∈ dep j, j' < m ∧ ∀ o, ops[j]? = some o → ∃ e ∈ o.after, e.on = j' ∧ Region.binds .any e = true)
    (hA : ∀ j, j < m → ∀ (a : Act) (w : World), KeepB n gs B W0 w → (∀ s, (∀ j, j < m → s ≠ slot j) → a.tmps[s]? = a0.tmps[s]?) →
      (∀ j' ∈ dep j, ∃ u, a.tmps[slot j']? = some u ∧ V j' w u) → wpOp P ops Q j (fun a' w' => ∃ u, a' = a.put (some (slot j)) u ∧ V j w' u ∧ Below w.heap.size w w') a w)
    (hi : (P.info? T).map (·.size) = some z)
    (hst : ∀ k, k < n → vs k < m ∧ ∃ o, ops[m + k]? = some o ∧ o.guard = none ∧ o.op = .store T (.tmp (bx k)) (.tmp (slot (vs k))) ∧ o.dst = none ∧ (∃ e ∈ o.after, e.on = vs k ∧ Region.binds .any e = true))
    (hbx : ∀ k, k < n → a0.tmps[bx k]? = some (.pointer (some ⟨gs k, 0, none⟩)) ∧ ∀ j, j < m → bx k ≠ slot j)
    (hbox : ∀ k, k < n → B ≤ gs k ∧ ∃ cs, W0.heap[gs k]? = some (.cells cs T (0, 0)) ∧ cs.size = z ∧ C cs)
    (hgs : ∀ k k', k < n → k' < n → gs k = gs k' → k = k') (hB : B ≤ W0.heap.size)
    (hin : ∀ j, j < m → slot j < a0.tmps.size)
    (hinj : ∀ j j', j < m → j' < m → slot j = slot j' → j = j')
    (hQ : ∀ (u : Nat → Value) (a : Act) (w : World), KeepB n gs B W0 w → (∀ j, j < m → a.tmps[slot j]? = some (u j) ∧ V j w (u j)) →
      (∀ k, k < n → ∃ cs, u (vs k) = .agg cs ∧ w.heap[gs k]? = some (.cells cs T (0, 0))) →
      a.tmps.size = a0.tmps.size → a.defers = a0.defers → (∀ s, (∀ j, j < m → s ≠ slot j) → a.tmps[s]? = a0.tmps[s]?) → Q .normal a w) :
    (Code.region id ops true).wp P Q a0 W0 := by
  refine wp_region_any hm ?_
  refine wpAny_inv (ParS W0 a0 m n slot vs gs B T C z V) ?_ ?_ ops.size _ a0 _ (by simp) ?_ (by simp)
  · -- a step
    intro listed a w i hl hI hr
    obtain ⟨hun, o, ho, hall⟩ := mem_ready.1 hr
    have hunf := not_listed hun
    have hio : i < ops.size := (Array.getElem?_eq_some_iff.1 ho).1
    have hil : i < listed.size := by omega
    have hset := listed_set hil
    have hne : ∀ x, x ≠ i → (listed.setIfInBounds i true).getD x false = listed.getD x false := fun x hx => getD_set_ne false (Ne.symm hx)
    have hpart : i < m ∨ ∃ k, k < n ∧ i = m + k := by
      by_cases h1 : i < m
      · exact .inl h1
      · exact .inr ⟨i - m, by omega, by omega⟩
    rcases hpart with him | ⟨k, hk, rfl⟩
    · refine wpOp_mono ?_ (hA i him a w hI.kept hI.other fun j' hj' => ?_)
      · rintro a' w' ⟨u, rfl, hu, hb⟩
        have hlt : slot i < a.tmps.size := by rw [hI.size]; exact hin i him
        refine ⟨hI.kept.step hB hb, by rw [put_size]; exact hI.size, by rw [put_defers]; exact hI.defers, fun s h1 => ?_, fun j hj h1 => ?_, fun k hk => ?_, fun k hk h1 => ?_⟩
        · rw [put_get_ne (h1 i him)]; exact hI.other s h1
        · by_cases e : j = i
          · subst e; exact ⟨u, put_get hlt, hu⟩
          · rw [hne j e] at h1
            obtain ⟨u', g1, g2⟩ := hI.val j hj h1
            exact ⟨u', by rw [put_get_ne (fun e2 => e (hinj j i hj him e2))]; exact g1, hV1 _ _ _ _ hb g2⟩
        · obtain ⟨cs, g3, g4, g5, g6⟩ := hI.box k hk
          refine ⟨cs, (hb.block _ (Array.getElem?_eq_some_iff.1 g3).1).trans g3, g4, g5, fun h2 => ?_⟩
          rw [hne _ (by omega)] at h2
          have h3 := hI.stored k hk h2
          have h4 : vs k ≠ i := fun e => by rw [e, hunf] at h3; cases h3
          rw [put_get_ne (fun e2 => h4 (hinj _ _ (hst k hk).1 him e2))]
          exact g6 h2
        · rw [hne _ (by omega)] at h1
          exact getD_set_true (hI.stored k hk h1)
      · obtain ⟨h1, h2⟩ := hdep i him j' hj'
        obtain ⟨e, he, rfl, hbd⟩ := h2 o ho
        exact hI.val _ h1 (hall e he hbd)
    · obtain ⟨hvm, o', ho', hg, hop, hd, e2, he2, hon2, hb2⟩ := hst k hk
      obtain rfl : o' = o := Option.some.inj (ho'.symm.trans ho)
      have l2 := hall e2 he2 hb2
      rw [hon2] at l2
      obtain ⟨u, hu1, hu2⟩ := hI.val _ hvm l2
      obtain ⟨cs, rfl, hc1, hcC, hc2⟩ := hVs k hk w u hu2
      obtain ⟨old, g3, g4, g5, g6⟩ := hI.box k hk
      have hbk : a.tmps[bx k]? = some (.pointer (some ⟨gs k, 0, none⟩)) := by rw [hI.other _ (hbx k hk).2]; exact (hbx k hk).1
      refine step_store ho' hg hop hbk hu1 g3 (by rw [hc1]; exact hi) (by omega) hc2 ?_
      rw [hd]
      show ParS W0 a0 m n slot vs gs B T C z V _ a _
      refine ⟨hI.kept.row hk (hbox k hk).1 _, hI.size, hI.defers, hI.other, fun j hj h1 => ?_, fun k1 hk1 => ?_, fun k1 hk1 h1 => ?_⟩
      · rw [hne j (by omega)] at h1
        obtain ⟨u', q1, q2⟩ := hI.val j hj h1
        exact ⟨u', q1, hV2 _ _ _ _ _ _ g3 g5 q2⟩
      · by_cases e : k1 = k
        · subst e
          exact ⟨cs, setRow_heap w (gs k1) old cs T _ g3, hc1, hcC, fun _ => hu1⟩
        · obtain ⟨cs', q3, q4, q5, q6⟩ := hI.box k1 hk1
          have hgg : gs k1 ≠ gs k := fun e2 => e (hgs k1 k hk1 hk e2)
          refine ⟨cs', (setRow_other w (gs k) (gs k1) cs hgg).trans q3, q4, q5, fun h2 => ?_⟩
          rw [hne _ (by omega)] at h2
          exact q6 h2
      · by_cases e : k1 = k
        · subst e
          exact getD_set_true l2
        · rw [hne _ (by omega)] at h1
          exact getD_set_true (hI.stored k1 hk1 h1)
  · -- the end: all have come up
    intro listed a w hl hI hr
    have hfull : ∀ i, i < ops.size → listed.getD i false = true := by
      intro i
      induction i using Nat.strongRecOn with
      | _ i ih =>
        intro hi
        cases hx : listed.getD i false with
        | true => rfl
        | false =>
          exfalso
          have ho : ops[i]? = some ops[i] := Array.getElem?_eq_getElem hi
          have : i ∈ Region.ready .any ops listed := by
            refine mem_ready.2 ⟨?_, ops[i], ho, fun e he _ => ih e.on (hord i _ ho e he) (Nat.lt_trans (hord i _ ho e he) hi)⟩
            have hil : i < listed.size := by omega
            simp only [Array.getD_eq_getD_getElem?, Array.getElem?_eq_getElem hil, Option.getD_some] at hx ⊢
            exact hx
          rw [hr] at this
          cases this
    have hval : ∀ j, ∃ u, j < m → a.tmps[slot j]? = some u ∧ V j w u := fun j => by
      by_cases hj : j < m
      · obtain ⟨u, h1, h2⟩ := hI.val j hj (hfull j (by omega))
        exact ⟨u, fun _ => ⟨h1, h2⟩⟩
      · exact ⟨undef, fun h => absurd h hj⟩
    obtain ⟨u, hu⟩ := Classical.axiomOfChoice hval
    refine hQ u a w hI.kept hu (fun k hk => ?_) hI.size hI.defers hI.other
    obtain ⟨cs, h3, h4, h5, h6⟩ := hI.box k hk
    have h7 := h6 (hfull _ (by omega))
    rw [(hu _ (hst k hk).1).1] at h7
    exact ⟨cs, Option.some.inj h7, h3⟩
  · -- the start
    have h0 : ∀ x, (Array.replicate ops.size false).getD x false = true → False := fun x h => by
      simp [Array.getD_eq_getD_getElem?, Array.getElem?_replicate] at h
      split at h <;> simp at h
    refine ⟨⟨(Below.refl _ _).drew, Nat.le_refl _, fun _ _ _ => rfl⟩, rfl, rfl, fun _ _ => rfl, fun j _ h => (h0 _ h).elim, fun k hk => ?_, fun k _ h => (h0 _ h).elim⟩
    obtain ⟨-, cs, h1, h2, h3⟩ := hbox k hk
    exact ⟨cs, h1, h2, h3, fun h => (h0 _ h).elim⟩
end Go.Proofs.Ytknljimmilhfkaa
/- lo, hi := Float(r.Lo), Float(r.Hi): into new boxes, and into old ones. -/
namespace Go.Proofs.Ytknljimmilhfkaa
set_option linter.unusedVariables false
set_option linter.unusedSimpArgs false
open Go.RowKit Go.Fl64

theorem gord_of {ops : Array Oper} (h : ((List.range ops.size).all fun i => match ops[i]? with | some o => o.after.all (fun e => decide (e.on < i)) | none => true) = true) (i : Nat) (o : Oper) (ho : ops[i]? = some o) : ∀ e ∈ o.after, e.on < i := by
  intro e he
  have hi : i < ops.size := (Array.getElem?_eq_some_iff.1 ho).1
  have h1 := List.all_eq_true.1 h i (List.mem_range.2 hi)
  simp only [ho] at h1
  exact of_decide_eq_true (Array.all_eq_true_iff_forall_mem.1 h1 e he)
theorem grun_fieldI0 (g : Nat) (w : World) : (Instr.fieldAt 24 (.pointer (some ⟨g, 0, none⟩)) 0).run Try.prog w = .ok (.pointer (some ⟨g, 0, none⟩)) w := by kernel_rfl
theorem grun_fieldI1 (g : Nat) (w : World) : (Instr.fieldAt 24 (.pointer (some ⟨g, 0, none⟩)) 1).run Try.prog w = .ok (.pointer (some ⟨g, 1, none⟩)) w := by kernel_rfl
theorem grun_loadF (g f x : Nat) (w : World) (h : w.cell? ⟨g, f, none⟩ = some (.float .f64 x)) : (Instr.loadAt 22 (.pointer (some ⟨g, f, none⟩))).run Try.prog w = .ok (.float .f64 x) w := by
  have u := Try.isAgg22
  simp [Instr.loadAt, Instr.sureAddr, loadVar, h, go_sem]
theorem gstep_fieldI {ops : Array Oper} {Q : Exit → Act → World → Prop} {i : Nat} {o : Oper} {K : Act → World → Prop} {a : Act} {w : World}
    (hi : ops[i]? = some o) (hg : o.guard = none) {s : Tmp} {f : Nat} (hop : o.op = .fieldAddr 24 (.tmp s) f) {g : Nat} (hf : f = 0 ∨ f = 1)
    (hs : a.tmps[s]? = some (.pointer (some ⟨g, 0, none⟩))) (h : K (a.put o.dst (.pointer (some ⟨g, f, none⟩))) w) : wpOp Try.prog ops Q i K a w := by
  refine step_wanted hi hg ?_
  unfold Oper.wp
  rcases hf with rfl | rfl
  · simp [execOp, hop, eval_get hs, grun_fieldI0, Result.andThen, Oper.upon, h]
  · simp [execOp, hop, eval_get hs, grun_fieldI1, Result.andThen, Oper.upon, h]
theorem gstep_loadF {ops : Array Oper} {Q : Exit → Act → World → Prop} {i : Nat} {o : Oper} {K : Act → World → Prop} {a : Act} {w : World}
    (hi : ops[i]? = some o) (hg : o.guard = none) {s : Tmp} (hop : o.op = .load 22 (.tmp s)) {g f x : Nat}
    (hs : a.tmps[s]? = some (.pointer (some ⟨g, f, none⟩))) (hc : w.cell? ⟨g, f, none⟩ = some (.float .f64 x)) (h : K (a.put o.dst (.float .f64 x)) w) : wpOp Try.prog ops Q i K a w := by
  refine step_wanted hi hg ?_
  unfold Oper.wp
  simp [execOp, hop, eval_get hs, grun_loadF g f x w hc, Result.andThen, Oper.upon, h]
theorem gzero_num (w : World) : (zeroValue 30).run Try.prog w = .ok (.agg #[.bool false, .slice none 0 0, .int .i64 0]) w := Try.zeroValue30 w
/-- the shape of a number in its box -/
def NumC (cs : Array Value) : Prop := ∃ (s : Bool) (ao : Option Addr) (n cap : Nat) (e : Int), cs = #[.bool s, .slice ao n cap, .int .i64 e]
theorem gat_row {W : World} {ao : Option Addr} {n z g : Nat} {cs0 : Array Value} {T : TypeId} (h : At W ao n z) (hE : W.heap[g]? = some (.cells cs0 T (0, 0))) (hC : NumC cs0) (cs : Array Value) : At (W.setRow g cs) ao n z := by
  obtain ⟨bb, o, h1, h2⟩ := h
  obtain ⟨s', ao', n', cap', e', rfl⟩ := hC
  refine ⟨bb, o, h1, fun i hi => ?_⟩
  have hc := h2 i hi
  have hne : bb ≠ g := by
    rintro rfl
    simp only [World.cell?, hE] at hc
    rcases (show o + i = 0 ∨ o + i = 1 ∨ o + i = 2 ∨ 3 ≤ o + i by omega) with e | e | e | e
    · rw [e] at hc; simp at hc
    · rw [e] at hc; simp at hc
    · rw [e] at hc; simp at hc
    · rw [Array.getElem?_eq_none (by simpa using e)] at hc; cases hc
  have hs := setRow_other W g bb cs hne
  unfold World.cell? at hc ⊢
  rw [hs]
  exact hc
theorem DN.grow {W : World} {A : Value} {t : Bool × Nat × Int} {g : Nat} {cs0 : Array Value} {T : TypeId} (h : DN W A t) (hE : W.heap[g]? = some (.cells cs0 T (0, 0))) (hC : NumC cs0) (cs : Array Value) : DN (W.setRow g cs) A t := by
  obtain ⟨ao', cap', h2, h3⟩ := h
  exact ⟨ao', cap', h2, h3.nil, gat_row h3.at_ hE hC cs, h3.le, h3.small⟩
theorem DN.cells {W : World} {A : Value} {t : Bool × Nat × Int} (h : DN W A t) : ∃ cs : Array Value, A = .agg cs ∧ cs.size = 3 ∧ NumC cs ∧ cs.all (·.oneCell') = true := by
  obtain ⟨s, ao, n, cap, e, rfl⟩ := h.shape
  exact ⟨_, rfl, rfl, ⟨_, _, _, _, _, rfl⟩, one3 rfl rfl⟩

def flE (g f0 f1 : Nat) (j : Nat) (w : World) (u : Value) : Prop :=
  match j with
  | 0 => u = .pointer (some ⟨g, 0, none⟩)
  | 1 => u = .float .f64 f0
  | 2 => DN w u (tF f0)
  | 3 => u = .pointer (some ⟨g, 1, none⟩)
  | 4 => u = .float .f64 f1
  | _ => DN w u (tF f1)
def flD (j : Nat) : List Nat :=
  match j with
  | 0 => []
  | 1 => [0]
  | 2 => [1]
  | 3 => []
  | 4 => [3]
  | _ => [4]
theorem flE_later {g f0 f1 j : Nat} {w w' : World} {u : Value} (hb : Below w.heap.size w w') (h : flE g f0 f1 j w u) : flE g f0 f1 j w' u := by
  rcases (show j = 0 ∨ j = 1 ∨ j = 2 ∨ j = 3 ∨ j = 4 ∨ ∃ k, j = k + 5 by by_cases h : 5 ≤ j; exact .inr (.inr (.inr (.inr (.inr ⟨j - 5, by omega⟩)))); omega) with rfl | rfl | rfl | rfl | rfl | ⟨k, rfl⟩
  · exact h
  · exact h
  · exact DN.later h hb
  · exact h
  · exact h
  · exact DN.later (t := tF f1) h hb
theorem flE_row {g f0 f1 j g' : Nat} {w : World} {u : Value} {cs0 cs : Array Value} {T : TypeId} (hE : w.heap[g']? = some (.cells cs0 T (0, 0))) (hC : NumC cs0) (h : flE g f0 f1 j w u) : flE g f0 f1 j (w.setRow g' cs) u := by
  rcases (show j = 0 ∨ j = 1 ∨ j = 2 ∨ j = 3 ∨ j = 4 ∨ ∃ k, j = k + 5 by by_cases h : 5 ≤ j; exact .inr (.inr (.inr (.inr (.inr ⟨j - 5, by omega⟩)))); omega) with rfl | rfl | rfl | rfl | rfl | ⟨k, rfl⟩
  · exact h
  · exact h
  · exact DN.grow h hE hC _
  · exact h
  · exact h
  · exact DN.grow (t := tF f1) h hE hC _
theorem glt6 {j : Nat} (h : j < 6) : j = 0 ∨ j = 1 ∨ j = 2 ∨ j = 3 ∨ j = 4 ∨ j = 5 := by omega
theorem glt2 {j : Nat} (h : j < 2) : j = 0 ∨ j = 1 := by omega
/-- the six operations that make the two numbers -/
structure FlOps (ops : Array Oper) (src s0 : Tmp) : Prop where
  o0 : ∃ o, ops[0]? = some o ∧ o.guard = none ∧ o.op = .fieldAddr 24 (.tmp src) 0 ∧ o.dst = some s0
  o1 : ∃ o, ops[1]? = some o ∧ o.guard = none ∧ o.op = .load 22 (.tmp s0) ∧ o.dst = some (s0 + 1) ∧ ∃ e ∈ o.after, e.on = 0 ∧ Region.binds .any e = true
  o2 : ∃ o, ops[2]? = some o ∧ o.guard = none ∧ (∃ ts, o.op = .call { callee := .value (.func 5), args := #[.tmp (s0 + 1)], argTypes := ts }) ∧ o.dst = some (s0 + 2) ∧ ∃ e ∈ o.after, e.on = 1 ∧ Region.binds .any e = true
  o3 : ∃ o, ops[3]? = some o ∧ o.guard = none ∧ o.op = .fieldAddr 24 (.tmp src) 1 ∧ o.dst = some (s0 + 3)
  o4 : ∃ o, ops[4]? = some o ∧ o.guard = none ∧ o.op = .load 22 (.tmp (s0 + 3)) ∧ o.dst = some (s0 + 4) ∧ ∃ e ∈ o.after, e.on = 3 ∧ Region.binds .any e = true
  o5 : ∃ o, ops[5]? = some o ∧ o.guard = none ∧ (∃ ts, o.op = .call { callee := .value (.func 5), args := #[.tmp (s0 + 4)], argTypes := ts }) ∧ o.dst = some (s0 + 5) ∧ ∃ e ∈ o.after, e.on = 4 ∧ Region.binds .any e = true
theorem FlOps.dep {ops : Array Oper} {src s0 : Tmp} (h : FlOps ops src s0) : ∀ j, j < 6 → ∀ j' ∈ flD j, j' < 6 ∧ ∀ o, ops[j]? = some o → ∃ e ∈ o.after, e.on = j' ∧ Region.binds .any e = true := by
  intro j hj j' hj'
  rcases glt6 hj with rfl | rfl | rfl | rfl | rfl | rfl
  · simp [flD] at hj'
  · obtain rfl : j' = 0 := by simpa [flD] using hj'
    refine ⟨by omega, fun o ho => ?_⟩
    obtain ⟨o', ho', -, -, -, e⟩ := h.o1
    obtain rfl : o' = o := Option.some.inj (ho'.symm.trans ho)
    exact e
  · obtain rfl : j' = 1 := by simpa [flD] using hj'
    refine ⟨by omega, fun o ho => ?_⟩
    obtain ⟨o', ho', -, -, -, e⟩ := h.o2
    obtain rfl : o' = o := Option.some.inj (ho'.symm.trans ho)
    exact e
  · simp [flD] at hj'
  · obtain rfl : j' = 3 := by simpa [flD] using hj'
    refine ⟨by omega, fun o ho => ?_⟩
    obtain ⟨o', ho', -, -, -, e⟩ := h.o4
    obtain rfl : o' = o := Option.some.inj (ho'.symm.trans ho)
    exact e
  · obtain rfl : j' = 4 := by simpa [flD] using hj'
    refine ⟨by omega, fun o ho => ?_⟩
    obtain ⟨o', ho', -, -, -, e⟩ := h.o5
    obtain rfl : o' = o := Option.some.inj (ho'.symm.trans ho)
    exact e
theorem FlOps.step {ops : Array Oper} {Q : Exit → Act → World → Prop} {src s0 : Tmp} (h : FlOps ops src s0) {g f0 f1 : Nat} (h0 : f0 < 18446744073709551616) (h1 : f1 < 18446744073709551616) {j : Nat} (hj : j < 6) {a : Act} {w : World}
    (hs : a.tmps[src]? = some (.pointer (some ⟨g, 0, none⟩))) (c0 : w.cell? ⟨g, 0, none⟩ = some (.float .f64 f0)) (c1 : w.cell? ⟨g, 1, none⟩ = some (.float .f64 f1))
    (hd : ∀ j' ∈ flD j, ∃ u, a.tmps[s0 + j']? = some u ∧ flE g f0 f1 j' w u) : wpOp Try.prog ops Q j (fun a' w' => ∃ u, a' = a.put (some (s0 + j)) u ∧ flE g f0 f1 j w' u ∧ Below w.heap.size w w') a w := by
  rcases glt6 hj with rfl | rfl | rfl | rfl | rfl | rfl
  · obtain ⟨o, ho, hg, hop, hdst⟩ := h.o0
    refine gstep_fieldI ho hg hop (.inl rfl) hs ?_
    exact ⟨_, by rw [hdst]; rfl, rfl, Below.refl _ _⟩
  · obtain ⟨o, ho, hg, hop, hdst, -⟩ := h.o1
    obtain ⟨u, hu, hv⟩ := hd 0 (by simp [flD])
    obtain rfl : u = _ := hv
    refine gstep_loadF ho hg hop hu c0 ?_
    exact ⟨_, by rw [hdst], rfl, Below.refl _ _⟩
  · obtain ⟨o, ho, hg, ⟨ts, hop⟩, hdst, -⟩ := h.o2
    obtain ⟨u, hu, hv⟩ := hd 1 (by simp [flD])
    obtain rfl : u = _ := hv
    refine step_call ho hg hop (enters Try.func5 (by kernel_rfl) (by kernel_rfl)) (vs := #[_]) (by simp only [List.map_toArray, List.map_cons, List.map_nil]; rw [eval_get hu]) ?_
    refine (float_dn f0 h0 w).mono ?_
    rintro r w' ⟨A, rfl, hE, hb'⟩
    exact ⟨_, rfl, _, by rw [hdst], hE, hb'⟩
  · obtain ⟨o, ho, hg, hop, hdst⟩ := h.o3
    refine gstep_fieldI ho hg hop (.inr rfl) hs ?_
    exact ⟨_, by rw [hdst], rfl, Below.refl _ _⟩
  · obtain ⟨o, ho, hg, hop, hdst, -⟩ := h.o4
    obtain ⟨u, hu, hv⟩ := hd 3 (by simp [flD])
    obtain rfl : u = _ := hv
    refine gstep_loadF ho hg hop hu c1 ?_
    exact ⟨_, by rw [hdst], rfl, Below.refl _ _⟩
  · obtain ⟨o, ho, hg, ⟨ts, hop⟩, hdst, -⟩ := h.o5
    obtain ⟨u, hu, hv⟩ := hd 4 (by simp [flD])
    obtain rfl : u = _ := hv
    refine step_call ho hg hop (enters Try.func5 (by kernel_rfl) (by kernel_rfl)) (vs := #[_]) (by simp only [List.map_toArray, List.map_cons, List.map_nil]; rw [eval_get hu]) ?_
    refine (float_dn f1 h1 w).mono ?_
    rintro r w' ⟨A, rfl, hE, hb'⟩
    exact ⟨_, rfl, _, by rw [hdst], hE, hb'⟩
/-- into new boxes -/
theorem flz_region {ops : Array Oper} {Q : Exit → Act → World → Prop} {id : Nat} (src s0 b0 : Tmp) (g f0 f1 : Nat) (W0 : World) (a0 : Act) (h0 : f0 < 18446744073709551616) (h1 : f1 < 18446744073709551616)
    (hsz : ops.size = 10) (hord : ∀ (i : Nat) (o : Oper), ops[i]? = some o → ∀ e ∈ o.after, e.on < i) (hops : FlOps ops src s0)
    (hs : a0.tmps[src]? = some (.pointer (some ⟨g, 0, none⟩))) (hc : ∀ w, Below W0.heap.size W0 w → w.cell? ⟨g, 0, none⟩ = some (.float .f64 f0) ∧ w.cell? ⟨g, 1, none⟩ = some (.float .f64 f1))
    (hfree : (∀ j, j < 6 → src ≠ s0 + j) ∧ ∀ k, k < 2 → src ≠ b0 + k)
    (hal : ∀ k, k < 2 → ∃ o, ops[6 + k]? = some o ∧ o.guard = none ∧ o.op = .alloc 30 ∧ o.dst = some (b0 + k))
    (hst : ∀ k, k < 2 → ∃ o, ops[6 + 2 + k]? = some o ∧ o.guard = none ∧ o.op = .store 30 (.tmp (b0 + k)) (.tmp (s0 + (3 * k + 2))) ∧ o.dst = none ∧ (∃ e ∈ o.after, e.on = 6 + k ∧ Region.binds .any e = true) ∧ (∃ e ∈ o.after, e.on = 3 * k + 2 ∧ Region.binds .any e = true))
    (hin : ∀ j, j < 6 → s0 + j < a0.tmps.size) (hbin : ∀ k, k < 2 → b0 + k < a0.tmps.size) (hsb : ∀ j, j < 6 → ∀ k, k < 2 → s0 + j ≠ b0 + k)
    (hQ : ∀ (u : Nat → Value) (gb : Nat → Nat) (w : World), Below W0.heap.size W0 w → DN w (u 2) (tF f0) → DN w (u 5) (tF f1) → W0.heap.size ≤ gb 0 → W0.heap.size ≤ gb 1 →
      (∃ cs, u 2 = .agg cs ∧ w.heap[gb 0]? = some (.cells cs 30 (0, 0))) → (∃ cs, u 5 = .agg cs ∧ w.heap[gb 1]? = some (.cells cs 30 (0, 0))) →
      Q .normal (putL a0 ((List.range 6).map (fun j => (s0 + j, u j)) ++ (List.range 2).map (fun k => (b0 + k, .pointer (some ⟨gb k, 0, none⟩))))) w) :
    (Code.region id ops true).wp Try.prog Q a0 W0 := by
  refine parz_region follows_mixed 6 2 (fun j => s0 + j) (fun k => b0 + k) (fun k => 3 * k + 2) flD 30 #[.bool false, .slice none 0 0, .int .i64 0] W0 a0 (flE g f0 f1) hsz hord (fun j w w' u hb h => flE_later hb h) (fun j w u g' cs' hg h => flE_row hg ⟨_, _, _, _, _, rfl⟩ h) ?_ hops.dep ?_ hal gzero_num Try.info30 ?_ hin hbin (fun j j' _ _ h => Nat.add_left_cancel h) (fun k k' _ _ h => Nat.add_left_cancel h) (fun j k hj hk => hsb j hj k hk) ?_
  · intro k hk w u h
    rcases glt2 hk with rfl | rfl
    · obtain ⟨cs, e1, e2, -, e3⟩ := DN.cells (show DN w u (tF f0) from h)
      exact ⟨cs, e1, e2, e3⟩
    · obtain ⟨cs, e1, e2, -, e3⟩ := DN.cells (show DN w u (tF f1) from h)
      exact ⟨cs, e1, e2, e3⟩
  · intro j hj a w hb hoth hdep
    exact hops.step h0 h1 hj (by rw [hoth src hfree.1 hfree.2]; exact hs) (hc w hb).1 (hc w hb).2 hdep
  · intro k hk
    obtain ⟨o, x1, x2, x3, x4, x5, x6⟩ := hst k hk
    exact ⟨by omega, o, x1, x2, x3, x4, x5, x6⟩
  · intro u gb a w hb hu hg hs' hd' hoth
    have ha : a = putL a0 ((List.range 6).map (fun j => (s0 + j, u j)) ++ (List.range 2).map (fun k => (b0 + k, .pointer (some ⟨gb k, 0, none⟩)))) := by
      refine act_putL ?_ hs' hd' ?_ ?_
      · have e : ((List.range 6).map (fun j => (s0 + j, u j)) ++ (List.range 2).map (fun k => (b0 + k, Value.pointer (some ⟨gb k, 0, none⟩)))).map (·.1) = (List.range 6).map (fun j => s0 + j) ++ (List.range 2).map (fun k => b0 + k) := by simp [Function.comp_def]
        rw [e, List.nodup_append]
        refine ⟨?_, ?_, ?_⟩
        · refine List.pairwise_map.2 ((List.nodup_range (n := 6)).imp_of_mem ?_)
          intro x y hx hy hne he
          exact hne (Nat.add_left_cancel he)
        · refine List.pairwise_map.2 ((List.nodup_range (n := 2)).imp_of_mem ?_)
          intro x y hx hy hne he
          exact hne (Nat.add_left_cancel he)
        · intro x hx y hy
          obtain ⟨j, hj, rfl⟩ := List.mem_map.1 hx
          obtain ⟨k, hk, rfl⟩ := List.mem_map.1 hy
          exact hsb j (List.mem_range.1 hj) k (List.mem_range.1 hk)
      · intro p hp
        rcases List.mem_append.1 hp with h | h
        · obtain ⟨j, hj, rfl⟩ := List.mem_map.1 h
          exact (hu j (List.mem_range.1 hj)).1
        · obtain ⟨k, hk, rfl⟩ := List.mem_map.1 h
          exact (hg k (List.mem_range.1 hk)).1
      · intro s hsn
        refine hoth s (fun j hj he => hsn ?_) (fun k hk he => hsn ?_)
        · rw [List.map_append]
          exact List.mem_append_left _ (List.mem_map.2 ⟨_, List.mem_map.2 ⟨j, List.mem_range.2 hj, rfl⟩, he.symm⟩)
        · rw [List.map_append]
          exact List.mem_append_right _ (List.mem_map.2 ⟨_, List.mem_map.2 ⟨k, List.mem_range.2 hk, rfl⟩, he.symm⟩)
    rw [ha]
    exact hQ u gb w hb (hu 2 (by omega)).2 (hu 5 (by omega)).2 (hg 0 (by omega)).2.1 (hg 1 (by omega)).2.1 (hg 0 (by omega)).2.2 (hg 1 (by omega)).2.2
/-- into old boxes -/
theorem fls_region {ops : Array Oper} {Q : Exit → Act → World → Prop} {id : Nat} (src s0 b0 : Tmp) (g f0 f1 B : Nat) (gs : Nat → Nat) (W0 : World) (a0 : Act) (h0 : f0 < 18446744073709551616) (h1 : f1 < 18446744073709551616)
    (hsz : ops.size = 8) (hord : ∀ (i : Nat) (o : Oper), ops[i]? = some o → ∀ e ∈ o.after, e.on < i) (hops : FlOps ops src s0)
    (hs : a0.tmps[src]? = some (.pointer (some ⟨g, 0, none⟩))) (hc : ∀ w, KeepB 2 gs B W0 w → w.cell? ⟨g, 0, none⟩ = some (.float .f64 f0) ∧ w.cell? ⟨g, 1, none⟩ = some (.float .f64 f1))
    (hfree : ∀ j, j < 6 → src ≠ s0 + j)
    (hst : ∀ k, k < 2 → ∃ o, ops[6 + k]? = some o ∧ o.guard = none ∧ o.op = .store 30 (.tmp (b0 + k)) (.tmp (s0 + (3 * k + 2))) ∧ o.dst = none ∧ (∃ e ∈ o.after, e.on = 3 * k + 2 ∧ Region.binds .any e = true))
    (hbx : ∀ k, k < 2 → a0.tmps[b0 + k]? = some (.pointer (some ⟨gs k, 0, none⟩)))
    (hbox : ∀ k, k < 2 → B ≤ gs k ∧ ∃ cs, W0.heap[gs k]? = some (.cells cs 30 (0, 0)) ∧ cs.size = 3 ∧ NumC cs) (hgs : gs 0 ≠ gs 1) (hB : B ≤ W0.heap.size)
    (hin : ∀ j, j < 6 → s0 + j < a0.tmps.size) (hsb : ∀ j, j < 6 → ∀ k, k < 2 → s0 + j ≠ b0 + k)
    (hQ : ∀ (u : Nat → Value) (w : World), KeepB 2 gs B W0 w → DN w (u 2) (tF f0) → DN w (u 5) (tF f1) →
      (∃ cs, u 2 = .agg cs ∧ w.heap[gs 0]? = some (.cells cs 30 (0, 0))) → (∃ cs, u 5 = .agg cs ∧ w.heap[gs 1]? = some (.cells cs 30 (0, 0))) →
      Q .normal (putL a0 ((List.range 6).map (fun j => (s0 + j, u j)))) w) :
    (Code.region id ops true).wp Try.prog Q a0 W0 := by
  refine pars_region follows_mixed 6 2 (fun j => s0 + j) (fun k => b0 + k) (fun k => 3 * k + 2) gs B flD 30 NumC 3 W0 a0 (flE g f0 f1) hsz hord (fun j w w' u hb h => flE_later hb h) (fun j w u g' cs cs' hg hC h => flE_row hg hC h) ?_ hops.dep ?_ Try.info30 ?_ ?_ hbox ?_ hB hin (fun j j' _ _ h => Nat.add_left_cancel h) ?_
  · intro k hk w u h
    rcases glt2 hk with rfl | rfl
    · exact DN.cells (show DN w u (tF f0) from h)
    · exact DN.cells (show DN w u (tF f1) from h)
  · intro j hj a w hb hoth hdep
    exact hops.step h0 h1 hj (by rw [hoth src hfree]; exact hs) (hc w hb).1 (hc w hb).2 hdep
  · intro k hk
    obtain ⟨o, x1, x2, x3, x4, x5⟩ := hst k hk
    exact ⟨by omega, o, x1, x2, x3, x4, x5⟩
  · intro k hk
    exact ⟨hbx k hk, fun j hj e => hsb j hj k hk e.symm⟩
  · intro k k' hk hk' e
    rcases glt2 hk with rfl | rfl <;> rcases glt2 hk' with rfl | rfl
    · rfl
    · exact absurd e hgs
    · exact absurd e.symm hgs
    · rfl
  · intro u a w hb hu hg hs' hd' hoth
    have ha : a = putL a0 ((List.range 6).map (fun j => (s0 + j, u j))) := by
      refine act_putL ?_ hs' hd' ?_ ?_
      · have e : ((List.range 6).map (fun j => (s0 + j, u j))).map (·.1) = (List.range 6).map (fun j => s0 + j) := by simp [Function.comp_def]
        rw [e]
        refine List.pairwise_map.2 ((List.nodup_range (n := 6)).imp_of_mem ?_)
        intro x y hx hy hne he
        exact hne (Nat.add_left_cancel he)
      · intro p hp
        obtain ⟨j, hj, rfl⟩ := List.mem_map.1 hp
        exact (hu j (List.mem_range.1 hj)).1
      · intro s hsn
        refine hoth s (fun j hj he => hsn ?_)
        exact List.mem_map.2 ⟨_, List.mem_map.2 ⟨j, List.mem_range.2 hj, rfl⟩, he.symm⟩
    rw [ha]
    exact hQ u w hb (hu 2 (by omega)).2 (hu 5 (by omega)).2 (hg 0 (by omega)) (hg 1 (by omega))
end Go.Proofs.Ytknljimmilhfkaa
