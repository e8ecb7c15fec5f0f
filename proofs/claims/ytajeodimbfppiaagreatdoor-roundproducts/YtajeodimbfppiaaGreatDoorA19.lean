/- Own work: contracts of the program's functions, part 19: SC2 SC3. -/
import Derived.Test.YtajeodimbfppiaaGreatDoorA18
import Derived.Test.YtajeodimbfppiaaGreatDoorA17
import Derived.Test.YtajeodimbfppiaaGreatDoorA9

/- The document's product of numbers, that can be handed on; its Mul and Div of floats. -/
namespace Go.Proofs.YtajeodimbfppiaaGreatDoor
set_option linter.unusedVariables false
set_option linter.unusedSimpArgs false
open Go.RowKit Go.Fl64

set_option maxHeartbeats 4000000 in
set_option maxRecDepth 200000 in
theorem xtimes_1 (na nb sg : Bool) (ua va : Option Addr) (un uc vn vc x y : Nat) (ea eb : Int) (w : World) (h1 : Ir w (.slice ua un uc) x) (h2 : Ir w (.slice va vn vc) y) (hx : dlen x ≤ 400000) (hy : dlen y ≤ 400000) (he1 : -4000000 ≤ ea) (he2 : ea ≤ 4000000) (he3 : -4000000 ≤ eb) (he4 : eb ≤ 4000000) (hsg : (!(na == nb)) = sg) :
    Calls Tryz.prog 31 #[.agg #[.bool na, .slice ua un uc, .int .i64 ea], .agg #[.bool nb, .slice va vn vc, .int .i64 eb]] w fun r w' => ∃ a, r = .returned a ∧ NC w' w.heap.size a sg (x * y) (ea + eb) ∧ Below w.heap.size w w' := by
  obtain ⟨W, hW⟩ : ∃ W, W = ((w.alloc (.cells #[.bool na, .slice ua un uc, .int .i64 ea] 38)).alloc (.cells #[.bool nb, .slice va vn vc, .int .i64 eb] 38)).alloc (.cells #[.bool false, .slice none 0 0, .int .i64 0] 38) := ⟨_, rfl⟩
  obtain ⟨hA, hBb, hC, hsz, hBW⟩ := boxes3 _ _ _ hW
  have hxy : dlen (x * y) ≤ 1000000 := by
    have l1 := (dlen_le (dlen x) x).1 (Nat.le_refl _)
    have l2 := (dlen_le (dlen y) y).1 (Nat.le_refl _)
    have : dlen (x * y) ≤ dlen x + dlen y := (dlen_le _ _).2 (by
      rw [Nat.pow_add]
      rcases Nat.eq_zero_or_pos x with h | h
      · rw [h, Nat.zero_mul]; exact Nat.mul_pos (Bpow_pos _) (Bpow_pos _)
      · exact Nat.mul_lt_mul_of_lt_of_le l1 (Nat.le_of_lt l2) (Bpow_pos _))
    omega
  have HH : Hid (W.heap[w.heap.size + 1 + 1]? = some (.cells #[.bool false, .slice none 0 0, .int .i64 0] 38 (0, 0)) ∧ W.heap.size = w.heap.size + 1 + 1 + 1 ∧ Below w.heap.size w W) := ⟨hC, hsz, hBW⟩
  have k78 : ∀ w4, Below W.heap.size W w4 → Calls Tryz.prog 73 #[.slice ua un uc, .slice va vn vc] w4 fun r w' => ∃ v, r = .returned v ∧ Own w' W.heap.size v (x * y) ∧ Below W.heap.size W w' := fun w4 hb =>
    (rprod ((h1.later hBW).later hb) ((h2.later hBW).later hb) (by omega) (by omega)).mono fun r w' ⟨v, e1, o1, o2⟩ => ⟨v, e1, o1.mono hb.size, hb.trans (o2.mono hb.size)⟩
  have k31 : ∀ v5 w5, Own w5 W.heap.size v5 (x * y) → Below W.heap.size W w5 → Calls Tryz.prog 67 #[.bool sg, v5, .int .i64 (ea + eb)] w5 fun r w' => ∃ s ao n cap ex, r = .returned (.agg #[.bool s, .slice ao n cap, .int .i64 ex]) ∧
      Hid (NC w' w5.heap.size (.agg #[.bool s, .slice ao n cap, .int .i64 ex]) sg (x * y) (ea + eb) ∧ W.heap.size ≤ w5.heap.size) ∧ Below W.heap.size W w' ∧ Hid (w'.heap[w.heap.size + 1 + 1]? = some (.cells #[.bool false, .slice none 0 0, .int .i64 0] 38 (0, 0))) ∧
      (w'.cell? ⟨w.heap.size + 1 + 1, 0, none⟩ = some (.bool false) ∧ w'.cell? ⟨w.heap.size + 1 + 1, 1, none⟩ = some (.slice none 0 0) ∧ w'.cell? ⟨w.heap.size + 1 + 1, 2, none⟩ = some (.int .i64 0)) ∧ (w'.frozen? ⟨w.heap.size + 1 + 1, 0, none⟩ = false ∧ w'.frozen? ⟨w.heap.size + 1 + 1, 1, none⟩ = false ∧ w'.frozen? ⟨w.heap.size + 1 + 1, 2, none⟩ = false) := by
    intro v5 w5 ho hb
    obtain ⟨ao0, cap0, rfl, hl0, -, hat0⟩ := ho.is
    refine (rnormN hat0 (Nat.le_refl _) hl0 (by omega) (by omega)).mono ?_
    rintro r w6 ⟨a, rfl, hN, hb6⟩
    obtain ⟨s, ao, n, cap, ex, rfl⟩ := hN.shape
    have hb46 : Below W.heap.size W w6 := hb.trans (hb6.mono hb.size)
    have hblk := box_later HH.out.1 hb46 (by have := HH.out.2.1; omega)
    obtain ⟨f1, f2⟩ := box_cells29 hblk
    exact ⟨s, ao, n, cap, ex, rfl, ⟨hN, hb.size⟩, hb46, hblk, f1, f2⟩
  obtain ⟨⟨a0, a1, a2⟩, -⟩ := box_cells29 hA
  obtain ⟨⟨b0, b1, b2⟩, -⟩ := box_cells29 hBb
  have HK : Hid (∀ w', Below W.heap.size W w' → ((w'.cell? ⟨w.heap.size, 0, none⟩ = some (.bool na) ∧ w'.cell? ⟨w.heap.size, 1, none⟩ = some (.slice ua un uc) ∧ w'.cell? ⟨w.heap.size, 2, none⟩ = some (.int .i64 ea)) ∧ (w'.cell? ⟨w.heap.size + 1, 0, none⟩ = some (.bool nb) ∧ w'.cell? ⟨w.heap.size + 1, 1, none⟩ = some (.slice va vn vc) ∧ w'.cell? ⟨w.heap.size + 1, 2, none⟩ = some (.int .i64 eb)))) := fun w' hb => ⟨(box_cells29 (box_later hA hb (by omega))).1, (box_cells29 (box_later hBb hb (by omega))).1⟩
  have HK2 : Hid (∀ w', Below (w.heap.size + 1 + 1) W w' → ((w'.cell? ⟨w.heap.size, 0, none⟩ = some (.bool na) ∧ w'.cell? ⟨w.heap.size, 1, none⟩ = some (.slice ua un uc) ∧ w'.cell? ⟨w.heap.size, 2, none⟩ = some (.int .i64 ea)) ∧ (w'.cell? ⟨w.heap.size + 1, 0, none⟩ = some (.bool nb) ∧ w'.cell? ⟨w.heap.size + 1, 1, none⟩ = some (.slice va vn vc) ∧ w'.cell? ⟨w.heap.size + 1, 2, none⟩ = some (.int .i64 eb)))) := fun w' hb => ⟨(box_cells29 (box_later hA hb (by omega))).1, (box_cells29 (box_later hBb hb (by omega))).1⟩
  have HS2 : Hid (w.heap.size + 1 + 1 ≤ W.heap.size) := (by omega : w.heap.size + 1 + 1 ≤ W.heap.size)
  have hBR : Below W.heap.size W W.drew := (Below.refl _ _).drew
  have wz : IntKind.i64.wrap (ea + eb) = ea + eb := by rw [IntKind.wrap_i64]; omega
  clear hA hBb hC hsz hBW h1 h2 hx hy hxy
  go_enter Tryz.func31, Tryz.ntmps31
  go_upto_region 1 with fail
  rw [← hW]
  clear hW
  go_region_held3 (fun w' => ((w'.cell? ⟨w.heap.size, 0, none⟩ = some (.bool na) ∧ w'.cell? ⟨w.heap.size, 1, none⟩ = some (.slice ua un uc) ∧ w'.cell? ⟨w.heap.size, 2, none⟩ = some (.int .i64 ea)) ∧ (w'.cell? ⟨w.heap.size + 1, 0, none⟩ = some (.bool nb) ∧ w'.cell? ⟨w.heap.size + 1, 1, none⟩ = some (.slice va vn vc) ∧ w'.cell? ⟨w.heap.size + 1, 2, none⟩ = some (.int .i64 eb)))) (first | (with_reducible assumption) | exact ⟨⟨a0, a1, a2⟩, b0, b1, b2⟩ | (refine HK.out _ ?_; with_reducible assumption) | (refine HK2.out _ (below_store3 (Below.mono hb6 HS2.out) (Nat.le_refl _) _ _ _)) | go_keep)
    (first | (go_at_call 73; refine (k78 _ (by first | (with_reducible assumption) | exact hBR)).mono ?_; rintro r w5 ⟨v5, rfl, ho5, hb5⟩) | (go_at_call 67; (try simp only [hsg, wz]); refine (k31 _ _ ho5 hb5).mono ?_; rintro r w6 ⟨s6, ao6, n6, cap6, ex6, rfl, hN6, hb6, hblk6, ⟨x1, x2, x3⟩, x4, x5, x6⟩))
  have HF : Hid (Below W.heap.size W w6) := hb6
  clear ho5 hb5 hb6 k31 k78 x1 x2 x3 x4 x5 x6 a0 a1 a2 b0 b1 b2 HK HK2
  go_wp2
  refine bodyPost_ret (results_cell_row rfl _ _ (w.heap.size + 1 + 1) 38 #[.bool s6, .slice ao6 n6 cap6, .int .i64 ex6] (0, 0) _ rfl (store3_29 _ _ _ hblk6.out) Tryz.underlying38 rfl Tryz.info38) rfl ?_
  obtain ⟨-, hs, hBW⟩ := HH.out
  have hs5 := hN6.out.2
  exact ⟨_, rfl, (hN6.out.1.store (by omega) _ _ _).mono (by omega), below_store3 (hBW.trans (HF.out.mono hBW.size)) (by omega) _ _ _⟩


theorem times_dn {t1 t2 : Bool × Nat × Int} {X Y : Value} {w : World} (o1 : Ok t1) (o2 : Ok t2) (h1 : DN w X t1) (h2 : DN w Y t2) : Calls Tryz.prog 31 #[X, Y] w fun r w' => ∃ A, r = .returned A ∧ DN w' A (tM t1 t2) ∧ Below w.heap.size w w' := by
  obtain ⟨ao, cap, rfl, a1⟩ := h1
  obtain ⟨ao', cap', rfl, a2⟩ := h2
  obtain ⟨f1, f2, f3, -, -⟩ := o1.facts
  obtain ⟨g1, g2, g3, -, -⟩ := o2.facts
  exact (xtimes_1 t1.1 t2.1 _ ao ao' _ cap _ cap' t1.2.1 t2.2.1 t1.2.2 t2.2.2 w ⟨ao, cap, rfl, a1.le, a1.at_⟩ ⟨ao', cap', rfl, a2.le, a2.at_⟩ (by omega) (by omega) (by omega) (by omega) (by omega) (by omega) rfl).mono fun r w' ⟨A, e, h, hb⟩ => ⟨A, e, h.dn, hb⟩

/-- the document's quotient of two numbers, rounded -/
theorem dratio {t1 t2 : Bool × Nat × Int} {X Y : Value} {m : Int} {w : World} (o1 : Ok t1) (o2 : Ok t2) (h1 : DN w X t1) (h2 : DN w Y t2) (x0 : t1.2.1 ≠ 0) (y0 : t2.2.1 ≠ 0) (hm : 1 ≤ m ∧ m ≤ 3) :
    Calls Tryz.prog 59 #[X, Y, .int .i64 m] w fun r w' => r = .returned (.float .f64 (rtF t1 t2 m)) ∧ Below w.heap.size w w' := by
  obtain ⟨ao, cap, rfl, a1⟩ := h1
  obtain ⟨ao', cap', rfl, a2⟩ := h2
  have f1 := o1.facts
  have f2 := o2.facts
  have hk : max 0 (64 + (bl t2.2.1 : Int) - (bl t1.2.1 : Int)) = (rtK t1 t2 : Int) := by unfold rtK; omega
  exact rratioto a1 a2 f1.1 f2.1 ⟨by omega, by omega⟩ ⟨by omega, by omega⟩ x0 y0 hm hk

theorem dmul_no (a b : Nat) (m : Int) (ha : a < 18446744073709551616) (hb : b < 18446744073709551616) (hm : isM m = false) (w : World) : Calls Tryz.prog 18 #[.float .f64 a, .float .f64 b, .int .i64 m] w fun r w' => r = .returned (.float .f64 9221120237041090560) ∧ w' = w := by
  have kV : ∀ W, Calls Tryz.prog 15 #[.int .i64 m] W fun r w' => r = .returned (.int .i64 1) ∧ w' = W := fun W => by
    have := dvalid m W
    rw [hm] at this
    exact this
  have ksa := Ie.dneg a ha
  have ksb := Ie.dneg b hb
  go_enter Tryz.func18, Tryz.ntmps18
  go_wp2_with (first | (go_at_call 15; refine (kV _).mono ?_; rintro e w' ⟨rfl, hw⟩; rw [hw]; clear hw w') | (go_at_call 46; refine (Ie.dnot _).mono ?_; rintro e w' ⟨rfl, hw⟩; rw [hw]; clear hw w') | (go_at_call 47; first | (with_reducible refine (ksa _).mono ?_; rintro e w' ⟨rfl, hw⟩; rw [hw]; clear hw w') | (with_reducible refine (ksb _).mono ?_; rintro e w' ⟨rfl, hw⟩; rw [hw]; clear hw w')))
  go_ret
  exact ⟨rfl, rfl⟩

theorem ddiv_no (a b : Nat) (m : Int) (ha : a < 18446744073709551616) (hb : b < 18446744073709551616) (hm : isM m = false) (w : World) : Calls Tryz.prog 20 #[.float .f64 a, .float .f64 b, .int .i64 m] w fun r w' => r = .returned (.float .f64 9221120237041090560) ∧ w' = w := by
  have kV : ∀ W, Calls Tryz.prog 15 #[.int .i64 m] W fun r w' => r = .returned (.int .i64 1) ∧ w' = W := fun W => by
    have := dvalid m W
    rw [hm] at this
    exact this
  have ksa := Ie.dneg a ha
  have ksb := Ie.dneg b hb
  go_enter Tryz.func20, Tryz.ntmps20
  go_wp2_with (first | (go_at_call 15; refine (kV _).mono ?_; rintro e w' ⟨rfl, hw⟩; rw [hw]; clear hw w') | (go_at_call 46; refine (Ie.dnot _).mono ?_; rintro e w' ⟨rfl, hw⟩; rw [hw]; clear hw w') | (go_at_call 47; first | (with_reducible refine (ksa _).mono ?_; rintro e w' ⟨rfl, hw⟩; rw [hw]; clear hw w') | (with_reducible refine (ksb _).mono ?_; rintro e w' ⟨rfl, hw⟩; rw [hw]; clear hw w')))
  go_ret
  exact ⟨rfl, rfl⟩

theorem zero_iff {a : Nat} : ((mag a : Int) == 0) = decide (mag a = 0) := by
  by_cases h : mag a = 0 <;> simp [h]
theorem inf_dec {a : Nat} : Ie.isInf a = decide (mag a = 9218868437227405312) := by
  by_cases h : mag a = 9218868437227405312
  · rw [decide_eq_true h]; exact Ie.isInf_iff.2 h
  · rw [decide_eq_false h]; exact Ie.isInf_not.2 h

set_option maxHeartbeats 8000000 in
set_option maxRecDepth 200000 in
theorem dmul_non (a b : Nat) (m : Int) (ha : a < 18446744073709551616) (hb : b < 18446744073709551616) (hm : isM m = true) (h : (isNaN a || isNaN b || Ie.isInf a || Ie.isInf b) = true) (w : World) :
    Calls Tryz.prog 18 #[.float .f64 a, .float .f64 b, .int .i64 m] w fun r w' => r = .returned (.float .f64 (mulX a b)) ∧ w' = w := by
  have e : mulX a b = if isNaN a || isNaN b then 9221120237041090560 else if (Ie.isInf a || Ie.isInf b) = true then (if (((mag a : Int) == 0) || ((mag b : Int) == 0)) = true then 9221120237041090560 else sig (neg a != neg b) 9218868437227405312) else sig (neg a != neg b) 0 := by
    unfold mulX
    rw [zero_iff, zero_iff, inf_dec, inf_dec]
    simp
  rw [e]
  have kV : ∀ W, Calls Tryz.prog 15 #[.int .i64 m] W fun r w' => r = .returned (.int .i64 0) ∧ w' = W := fun W => by
    have := dvalid m W
    rw [hm] at this
    exact this
  have kna := Ie.dnan a ha
  have knb := Ie.dnan b hb
  have kia := Ie.dinf a ha
  have kib := Ie.dinf b hb
  have ksa := Ie.dneg a ha
  have ksb := Ie.dneg b hb
  have kza := Ie.diszero a ha
  have kzb := Ie.diszero b hb
  clear e ha hb hm
  generalize isNaN a = na at *
  generalize isNaN b = nb at *
  generalize Ie.isInf a = ia at *
  generalize Ie.isInf b = ib at *
  generalize ((mag a : Int) == 0) = za at *
  generalize ((mag b : Int) == 0) = zb at *
  generalize neg a = sa at *
  generalize neg b = sb at *
  cases na
  · cases nb
    · have h' : (ia || ib) = true := by simpa using h
      clear h
      rw [if_neg (by decide), if_pos h']
      cases ia
      · simp only [Bool.false_or] at h'
        subst h'
        cases za <;> cases zb
        all_goals
          go_enter Tryz.func18, Tryz.ntmps18
          go_wp2_with (first | (go_at_call 15; refine (kV _).mono ?_; rintro e w' ⟨rfl, hw⟩; rw [hw]; clear hw w') | (go_at_call 46; refine (Ie.dnot _).mono ?_; rintro e w' ⟨rfl, hw⟩; rw [hw]; clear hw w') | (go_at_call 35; first | (with_reducible refine (kna _).mono ?_; rintro e w' ⟨rfl, hw⟩; rw [hw]; clear hw w') | (with_reducible refine (knb _).mono ?_; rintro e w' ⟨rfl, hw⟩; rw [hw]; clear hw w')) | (go_at_call 36; first | (with_reducible refine (kia _).mono ?_; rintro e w' ⟨rfl, hw⟩; rw [hw]; clear hw w') | (with_reducible refine (kib _).mono ?_; rintro e w' ⟨rfl, hw⟩; rw [hw]; clear hw w')) | (go_at_call 47; first | (with_reducible refine (ksa _).mono ?_; rintro e w' ⟨rfl, hw⟩; rw [hw]; clear hw w') | (with_reducible refine (ksb _).mono ?_; rintro e w' ⟨rfl, hw⟩; rw [hw]; clear hw w')) | (go_at_call 55; first | (with_reducible refine (kza _).mono ?_; rintro e w' ⟨rfl, hw⟩; rw [hw]; clear hw w') | (with_reducible refine (kzb _).mono ?_; rintro e w' ⟨rfl, hw⟩; rw [hw]; clear hw w')) | (go_at_call 56; refine (Ie.dendless _ _).mono ?_; rintro e w' ⟨rfl, hw⟩; rw [hw]; clear hw w'))
          go_ret
          exact ⟨rfl, rfl⟩
      · clear h'
        cases za <;> cases zb
        all_goals
          go_enter Tryz.func18, Tryz.ntmps18
          go_wp2_with (first | (go_at_call 15; refine (kV _).mono ?_; rintro e w' ⟨rfl, hw⟩; rw [hw]; clear hw w') | (go_at_call 46; refine (Ie.dnot _).mono ?_; rintro e w' ⟨rfl, hw⟩; rw [hw]; clear hw w') | (go_at_call 35; first | (with_reducible refine (kna _).mono ?_; rintro e w' ⟨rfl, hw⟩; rw [hw]; clear hw w') | (with_reducible refine (knb _).mono ?_; rintro e w' ⟨rfl, hw⟩; rw [hw]; clear hw w')) | (go_at_call 36; first | (with_reducible refine (kia _).mono ?_; rintro e w' ⟨rfl, hw⟩; rw [hw]; clear hw w') | (with_reducible refine (kib _).mono ?_; rintro e w' ⟨rfl, hw⟩; rw [hw]; clear hw w')) | (go_at_call 47; first | (with_reducible refine (ksa _).mono ?_; rintro e w' ⟨rfl, hw⟩; rw [hw]; clear hw w') | (with_reducible refine (ksb _).mono ?_; rintro e w' ⟨rfl, hw⟩; rw [hw]; clear hw w')) | (go_at_call 55; first | (with_reducible refine (kza _).mono ?_; rintro e w' ⟨rfl, hw⟩; rw [hw]; clear hw w') | (with_reducible refine (kzb _).mono ?_; rintro e w' ⟨rfl, hw⟩; rw [hw]; clear hw w')) | (go_at_call 56; refine (Ie.dendless _ _).mono ?_; rintro e w' ⟨rfl, hw⟩; rw [hw]; clear hw w'))
          go_ret
          exact ⟨rfl, rfl⟩
    · go_enter Tryz.func18, Tryz.ntmps18
      go_wp2_with (first | (go_at_call 15; refine (kV _).mono ?_; rintro e w' ⟨rfl, hw⟩; rw [hw]; clear hw w') | (go_at_call 46; refine (Ie.dnot _).mono ?_; rintro e w' ⟨rfl, hw⟩; rw [hw]; clear hw w') | (go_at_call 35; first | (with_reducible refine (kna _).mono ?_; rintro e w' ⟨rfl, hw⟩; rw [hw]; clear hw w') | (with_reducible refine (knb _).mono ?_; rintro e w' ⟨rfl, hw⟩; rw [hw]; clear hw w')) | (go_at_call 36; first | (with_reducible refine (kia _).mono ?_; rintro e w' ⟨rfl, hw⟩; rw [hw]; clear hw w') | (with_reducible refine (kib _).mono ?_; rintro e w' ⟨rfl, hw⟩; rw [hw]; clear hw w')) | (go_at_call 47; first | (with_reducible refine (ksa _).mono ?_; rintro e w' ⟨rfl, hw⟩; rw [hw]; clear hw w') | (with_reducible refine (ksb _).mono ?_; rintro e w' ⟨rfl, hw⟩; rw [hw]; clear hw w')) | (go_at_call 55; first | (with_reducible refine (kza _).mono ?_; rintro e w' ⟨rfl, hw⟩; rw [hw]; clear hw w') | (with_reducible refine (kzb _).mono ?_; rintro e w' ⟨rfl, hw⟩; rw [hw]; clear hw w')))
      go_ret
      exact ⟨rfl, rfl⟩
  · go_enter Tryz.func18, Tryz.ntmps18
    go_wp2_with (first | (go_at_call 15; refine (kV _).mono ?_; rintro e w' ⟨rfl, hw⟩; rw [hw]; clear hw w') | (go_at_call 46; refine (Ie.dnot _).mono ?_; rintro e w' ⟨rfl, hw⟩; rw [hw]; clear hw w') | (go_at_call 35; first | (with_reducible refine (kna _).mono ?_; rintro e w' ⟨rfl, hw⟩; rw [hw]; clear hw w') | (with_reducible refine (knb _).mono ?_; rintro e w' ⟨rfl, hw⟩; rw [hw]; clear hw w')) | (go_at_call 36; first | (with_reducible refine (kia _).mono ?_; rintro e w' ⟨rfl, hw⟩; rw [hw]; clear hw w') | (with_reducible refine (kib _).mono ?_; rintro e w' ⟨rfl, hw⟩; rw [hw]; clear hw w')) | (go_at_call 47; first | (with_reducible refine (ksa _).mono ?_; rintro e w' ⟨rfl, hw⟩; rw [hw]; clear hw w') | (with_reducible refine (ksb _).mono ?_; rintro e w' ⟨rfl, hw⟩; rw [hw]; clear hw w')) | (go_at_call 55; first | (with_reducible refine (kza _).mono ?_; rintro e w' ⟨rfl, hw⟩; rw [hw]; clear hw w') | (with_reducible refine (kzb _).mono ?_; rintro e w' ⟨rfl, hw⟩; rw [hw]; clear hw w')))
    go_ret
    exact ⟨rfl, rfl⟩

set_option maxHeartbeats 8000000 in
set_option maxRecDepth 200000 in
theorem ddiv_non (a b : Nat) (m : Int) (ha : a < 18446744073709551616) (hb : b < 18446744073709551616) (hm : isM m = true) (h : (isNaN a || isNaN b || Ie.isInf a || Ie.isInf b || ((mag a : Int) == 0) || ((mag b : Int) == 0)) = true) (hc1 : (Ie.isInf a && ((mag a : Int) == 0)) = false) (hc2 : (Ie.isInf b && ((mag b : Int) == 0)) = false) (w : World) :
    Calls Tryz.prog 20 #[.float .f64 a, .float .f64 b, .int .i64 m] w fun r w' => r = .returned (.float .f64 (divX a b)) ∧ w' = w := by
  have e : divX a b = if (isNaN a || isNaN b || (Ie.isInf a && Ie.isInf b) || (((mag a : Int) == 0) && ((mag b : Int) == 0))) = true then 9221120237041090560 else if (Ie.isInf a || ((mag b : Int) == 0)) = true then sig (neg a != neg b) 9218868437227405312 else sig (neg a != neg b) 0 := by
    unfold divX
    rw [zero_iff, zero_iff, inf_dec, inf_dec]
    simp
  rw [e]
  have kV : ∀ W, Calls Tryz.prog 15 #[.int .i64 m] W fun r w' => r = .returned (.int .i64 0) ∧ w' = W := fun W => by
    have := dvalid m W
    rw [hm] at this
    exact this
  have kna := Ie.dnan a ha
  have knb := Ie.dnan b hb
  have kia := Ie.dinf a ha
  have kib := Ie.dinf b hb
  have ksa := Ie.dneg a ha
  have ksb := Ie.dneg b hb
  have kza := Ie.diszero a ha
  have kzb := Ie.diszero b hb
  clear e ha hb hm
  generalize isNaN a = na at *
  generalize isNaN b = nb at *
  generalize Ie.isInf a = ia at *
  generalize Ie.isInf b = ib at *
  generalize ((mag a : Int) == 0) = za at *
  generalize ((mag b : Int) == 0) = zb at *
  generalize neg a = sa at *
  generalize neg b = sb at *
  cases na
  · cases nb
    · cases ia <;> cases ib <;> cases za <;> cases zb
      all_goals first
        | (exfalso; revert h hc1 hc2; decide)
        | (clear h hc1 hc2
           go_enter Tryz.func20, Tryz.ntmps20
           go_wp2_with (first | (go_at_call 15; refine (kV _).mono ?_; rintro e w' ⟨rfl, hw⟩; rw [hw]; clear hw w') | (go_at_call 46; refine (Ie.dnot _).mono ?_; rintro e w' ⟨rfl, hw⟩; rw [hw]; clear hw w') | (go_at_call 35; first | (with_reducible refine (kna _).mono ?_; rintro e w' ⟨rfl, hw⟩; rw [hw]; clear hw w') | (with_reducible refine (knb _).mono ?_; rintro e w' ⟨rfl, hw⟩; rw [hw]; clear hw w')) | (go_at_call 36; first | (with_reducible refine (kia _).mono ?_; rintro e w' ⟨rfl, hw⟩; rw [hw]; clear hw w') | (with_reducible refine (kib _).mono ?_; rintro e w' ⟨rfl, hw⟩; rw [hw]; clear hw w')) | (go_at_call 47; first | (with_reducible refine (ksa _).mono ?_; rintro e w' ⟨rfl, hw⟩; rw [hw]; clear hw w') | (with_reducible refine (ksb _).mono ?_; rintro e w' ⟨rfl, hw⟩; rw [hw]; clear hw w')) | (go_at_call 55; first | (with_reducible refine (kza _).mono ?_; rintro e w' ⟨rfl, hw⟩; rw [hw]; clear hw w') | (with_reducible refine (kzb _).mono ?_; rintro e w' ⟨rfl, hw⟩; rw [hw]; clear hw w')) | (go_at_call 56; refine (Ie.dendless _ _).mono ?_; rintro e w' ⟨rfl, hw⟩; rw [hw]; clear hw w') | (go_at_call 57; refine (Ie.dnought _ _).mono ?_; rintro e w' ⟨rfl, hw⟩; rw [hw]; clear hw w'))
           go_ret
           exact ⟨rfl, rfl⟩)
    · clear h hc1 hc2
      go_enter Tryz.func20, Tryz.ntmps20
      go_wp2_with (first | (go_at_call 15; refine (kV _).mono ?_; rintro e w' ⟨rfl, hw⟩; rw [hw]; clear hw w') | (go_at_call 46; refine (Ie.dnot _).mono ?_; rintro e w' ⟨rfl, hw⟩; rw [hw]; clear hw w') | (go_at_call 35; first | (with_reducible refine (kna _).mono ?_; rintro e w' ⟨rfl, hw⟩; rw [hw]; clear hw w') | (with_reducible refine (knb _).mono ?_; rintro e w' ⟨rfl, hw⟩; rw [hw]; clear hw w')) | (go_at_call 36; first | (with_reducible refine (kia _).mono ?_; rintro e w' ⟨rfl, hw⟩; rw [hw]; clear hw w') | (with_reducible refine (kib _).mono ?_; rintro e w' ⟨rfl, hw⟩; rw [hw]; clear hw w')) | (go_at_call 47; first | (with_reducible refine (ksa _).mono ?_; rintro e w' ⟨rfl, hw⟩; rw [hw]; clear hw w') | (with_reducible refine (ksb _).mono ?_; rintro e w' ⟨rfl, hw⟩; rw [hw]; clear hw w')) | (go_at_call 55; first | (with_reducible refine (kza _).mono ?_; rintro e w' ⟨rfl, hw⟩; rw [hw]; clear hw w') | (with_reducible refine (kzb _).mono ?_; rintro e w' ⟨rfl, hw⟩; rw [hw]; clear hw w')))
      go_ret
      exact ⟨rfl, rfl⟩
  · clear h hc1 hc2
    go_enter Tryz.func20, Tryz.ntmps20
    go_wp2_with (first | (go_at_call 15; refine (kV _).mono ?_; rintro e w' ⟨rfl, hw⟩; rw [hw]; clear hw w') | (go_at_call 46; refine (Ie.dnot _).mono ?_; rintro e w' ⟨rfl, hw⟩; rw [hw]; clear hw w') | (go_at_call 35; first | (with_reducible refine (kna _).mono ?_; rintro e w' ⟨rfl, hw⟩; rw [hw]; clear hw w') | (with_reducible refine (knb _).mono ?_; rintro e w' ⟨rfl, hw⟩; rw [hw]; clear hw w')) | (go_at_call 36; first | (with_reducible refine (kia _).mono ?_; rintro e w' ⟨rfl, hw⟩; rw [hw]; clear hw w') | (with_reducible refine (kib _).mono ?_; rintro e w' ⟨rfl, hw⟩; rw [hw]; clear hw w')) | (go_at_call 47; first | (with_reducible refine (ksa _).mono ?_; rintro e w' ⟨rfl, hw⟩; rw [hw]; clear hw w') | (with_reducible refine (ksb _).mono ?_; rintro e w' ⟨rfl, hw⟩; rw [hw]; clear hw w')) | (go_at_call 55; first | (with_reducible refine (kza _).mono ?_; rintro e w' ⟨rfl, hw⟩; rw [hw]; clear hw w') | (with_reducible refine (kzb _).mono ?_; rintro e w' ⟨rfl, hw⟩; rw [hw]; clear hw w')))
    go_ret
    exact ⟨rfl, rfl⟩

set_option maxHeartbeats 4000000 in
set_option maxRecDepth 200000 in
theorem dmul_fin (a b F : Nat) (m : Int) (ta tb t3 : Bool × Nat × Int) (w : World) (hm : isM m = true) (ha : a < 18446744073709551616) (hb : b < 18446744073709551616)
    (hfa : mag a < 9218868437227405312) (hfb : mag b < 9218868437227405312)
    (kA : Calls Tryz.prog 28 #[.float .f64 a] w fun r w' => ∃ A, r = .returned A ∧ DN w' A ta ∧ Below w.heap.size w w')
    (kB : ∀ W, Below w.heap.size w W → Calls Tryz.prog 28 #[.float .f64 b] W fun r w' => ∃ A, r = .returned A ∧ DN w' A tb ∧ Below W.heap.size W w')
    (kC : ∀ W X Y, Below w.heap.size w W → DN W X ta → DN W Y tb → Calls Tryz.prog 31 #[X, Y] W fun r w' => ∃ A, r = .returned A ∧ DN w' A t3 ∧ Below W.heap.size W w')
    (kR : ∀ W X, Below w.heap.size w W → DN W X t3 → Calls Tryz.prog 48 #[X, .int .i64 m, .float .f64 (sig (neg a != neg b) 0)] W fun r w' => r = .returned (.float .f64 F) ∧ Below W.heap.size W w') :
    Calls Tryz.prog 18 #[.float .f64 a, .float .f64 b, .int .i64 m] w fun r w' => r = .returned (.float .f64 F) ∧ Below w.heap.size w w' := by
  have kV : ∀ W, Calls Tryz.prog 15 #[.int .i64 m] W fun r w' => r = .returned (.int .i64 0) ∧ w' = W := fun W => by
    have := dvalid m W
    rw [hm] at this
    exact this
  have kna := Ie.dnan a ha
  have knb := Ie.dnan b hb
  have kia := Ie.dinf a ha
  have kib := Ie.dinf b hb
  have ksa := Ie.dneg a ha
  have ksb := Ie.dneg b hb
  rw [show isNaN a = false by unfold isNaN; simp; omega] at kna
  rw [show isNaN b = false by unfold isNaN; simp; omega] at knb
  rw [Ie.isInf_not.2 (by omega)] at kia
  rw [Ie.isInf_not.2 (by omega)] at kib
  have HKB : Hid (∀ W, Below w.heap.size w W → Calls Tryz.prog 28 #[.float .f64 b] W fun r w' => ∃ A, r = .returned A ∧ DN w' A tb ∧ Below W.heap.size W w') := kB
  have HKC : Hid (∀ W X Y, Below w.heap.size w W → DN W X ta → DN W Y tb → Calls Tryz.prog 31 #[X, Y] W fun r w' => ∃ A, r = .returned A ∧ DN w' A t3 ∧ Below W.heap.size W w') := kC
  have HKR : Hid (∀ W X, Below w.heap.size w W → DN W X t3 → Calls Tryz.prog 48 #[X, .int .i64 m, .float .f64 (sig (neg a != neg b) 0)] W fun r w' => r = .returned (.float .f64 F) ∧ Below W.heap.size W w') := kR
  clear ha hb kB kC kR hfa hfb
  go_enter Tryz.func18, Tryz.ntmps18
  go_wp2_with (first | (go_at_call 15; refine (kV _).mono ?_; rintro e w' ⟨rfl, hw⟩; rw [hw]; clear hw w') | (go_at_call 35; first | (with_reducible refine (kna _).mono ?_; rintro e w' ⟨rfl, hw⟩; rw [hw]; clear hw w') | (with_reducible refine (knb _).mono ?_; rintro e w' ⟨rfl, hw⟩; rw [hw]; clear hw w')) | (go_at_call 36; first | (with_reducible refine (kia _).mono ?_; rintro e w' ⟨rfl, hw⟩; rw [hw]; clear hw w') | (with_reducible refine (kib _).mono ?_; rintro e w' ⟨rfl, hw⟩; rw [hw]; clear hw w')) | (go_at_call 47; first | (with_reducible refine (ksa _).mono ?_; rintro e w' ⟨rfl, hw⟩; rw [hw]; clear hw w') | (with_reducible refine (ksb _).mono ?_; rintro e w' ⟨rfl, hw⟩; rw [hw]; clear hw w')))
  clear kna knb kia kib kV ksa ksb
  refine kA.mono ?_
  rintro r w1 ⟨A1, rfl, hP1, hb1⟩
  have k2 := HKB.out w1 hb1
  clear kA
  go_wp2_with fail
  refine k2.mono ?_
  rintro r w2 ⟨A2, rfl, hP2, hb2⟩
  have HB2 : Hid (Below w.heap.size w w2) := hb1.trans (hb2.mono hb1.size)
  have k3 := HKC.out w2 _ _ HB2.out (hP1.later hb2) hP2
  clear k2 hP1 hP2 hb1 hb2
  go_wp2_with fail
  refine k3.mono ?_
  rintro r w3 ⟨A3, rfl, hP3, hb3⟩
  have HB3 : Hid (Below w.heap.size w w3) := HB2.out.trans (hb3.mono HB2.out.size)
  have k4 := HKR.out w3 _ HB3.out hP3
  have k5 := Ie.dnought (neg a != neg b) w3
  clear k3 hP3 hb3
  go_wp2_with fail
  refine k5.mono ?_
  rintro r w6 ⟨rfl, hw⟩
  rw [hw]
  clear hw k5
  go_wp2_with fail
  refine k4.mono ?_
  rintro r w6 ⟨rfl, hb6⟩
  have HB6 : Hid (Below w.heap.size w w6) := HB3.out.trans (hb6.mono HB3.out.size)
  clear k4 hb6
  go_wp2_with fail
  go_ret
  exact ⟨rfl, HB6.out⟩

set_option maxHeartbeats 4000000 in
set_option maxRecDepth 200000 in
theorem ddiv_fin (a b F : Nat) (m : Int) (ta tb : Bool × Nat × Int) (w : World) (hm : isM m = true) (ha : a < 18446744073709551616) (hb : b < 18446744073709551616)
    (hfa : mag a < 9218868437227405312) (hfb : mag b < 9218868437227405312) (ha0 : mag a ≠ 0) (hb0 : mag b ≠ 0)
    (kA : Calls Tryz.prog 28 #[.float .f64 a] w fun r w' => ∃ A, r = .returned A ∧ DN w' A ta ∧ Below w.heap.size w w')
    (kB : ∀ W, Below w.heap.size w W → Calls Tryz.prog 28 #[.float .f64 b] W fun r w' => ∃ A, r = .returned A ∧ DN w' A tb ∧ Below W.heap.size W w')
    (kC : ∀ W X Y, Below w.heap.size w W → DN W X ta → DN W Y tb → Calls Tryz.prog 59 #[X, Y, .int .i64 m] W fun r w' => r = .returned (.float .f64 F) ∧ Below W.heap.size W w') :
    Calls Tryz.prog 20 #[.float .f64 a, .float .f64 b, .int .i64 m] w fun r w' => r = .returned (.float .f64 F) ∧ Below w.heap.size w w' := by
  have kV : ∀ W, Calls Tryz.prog 15 #[.int .i64 m] W fun r w' => r = .returned (.int .i64 0) ∧ w' = W := fun W => by
    have := dvalid m W
    rw [hm] at this
    exact this
  have kna := Ie.dnan a ha
  have knb := Ie.dnan b hb
  have kia := Ie.dinf a ha
  have kib := Ie.dinf b hb
  have ksa := Ie.dneg a ha
  have ksb := Ie.dneg b hb
  rw [show isNaN a = false by unfold isNaN; simp; omega] at kna
  rw [show isNaN b = false by unfold isNaN; simp; omega] at knb
  rw [Ie.isInf_not.2 (by omega)] at kia
  rw [Ie.isInf_not.2 (by omega)] at kib
  have kza := Ie.diszero a ha
  have kzb := Ie.diszero b hb
  rw [show ((mag a : Int) == 0) = false by simp; omega] at kza
  rw [show ((mag b : Int) == 0) = false by simp; omega] at kzb
  have HKB : Hid (∀ W, Below w.heap.size w W → Calls Tryz.prog 28 #[.float .f64 b] W fun r w' => ∃ A, r = .returned A ∧ DN w' A tb ∧ Below W.heap.size W w') := kB
  have HKC : Hid (∀ W X Y, Below w.heap.size w W → DN W X ta → DN W Y tb → Calls Tryz.prog 59 #[X, Y, .int .i64 m] W fun r w' => r = .returned (.float .f64 F) ∧ Below W.heap.size W w') := kC
  clear ha hb kB kC hfa hfb ha0 hb0
  go_enter Tryz.func20, Tryz.ntmps20
  go_wp2_with (first | (go_at_call 15; refine (kV _).mono ?_; rintro e w' ⟨rfl, hw⟩; rw [hw]; clear hw w') | (go_at_call 35; first | (with_reducible refine (kna _).mono ?_; rintro e w' ⟨rfl, hw⟩; rw [hw]; clear hw w') | (with_reducible refine (knb _).mono ?_; rintro e w' ⟨rfl, hw⟩; rw [hw]; clear hw w')) | (go_at_call 36; first | (with_reducible refine (kia _).mono ?_; rintro e w' ⟨rfl, hw⟩; rw [hw]; clear hw w') | (with_reducible refine (kib _).mono ?_; rintro e w' ⟨rfl, hw⟩; rw [hw]; clear hw w')) | (go_at_call 47; first | (with_reducible refine (ksa _).mono ?_; rintro e w' ⟨rfl, hw⟩; rw [hw]; clear hw w') | (with_reducible refine (ksb _).mono ?_; rintro e w' ⟨rfl, hw⟩; rw [hw]; clear hw w')) | (go_at_call 55; first | (with_reducible refine (kza _).mono ?_; rintro e w' ⟨rfl, hw⟩; rw [hw]; clear hw w') | (with_reducible refine (kzb _).mono ?_; rintro e w' ⟨rfl, hw⟩; rw [hw]; clear hw w')))
  clear kna knb kia kib kV ksa ksb kza kzb
  refine kA.mono ?_
  rintro r w1 ⟨A1, rfl, hP1, hb1⟩
  have k2 := HKB.out w1 hb1
  clear kA
  go_wp2_with fail
  refine k2.mono ?_
  rintro r w2 ⟨A2, rfl, hP2, hb2⟩
  have HB2 : Hid (Below w.heap.size w w2) := hb1.trans (hb2.mono hb1.size)
  have k3 := HKC.out w2 _ _ HB2.out (hP1.later hb2) hP2
  clear k2 hP1 hP2 hb1 hb2
  go_wp2_with fail
  refine k3.mono ?_
  rintro r w3 ⟨rfl, hb3⟩
  have HB3 : Hid (Below w.heap.size w w3) := HB2.out.trans (hb3.mono HB2.out.size)
  clear k3 hb3
  go_wp2_with fail
  go_ret
  exact ⟨rfl, HB3.out⟩

theorem tF_nought {a : Nat} (h : mag a = 0) : (tF a).2.1 = 0 := by
  have : Ie.mant a = 0 := by unfold Ie.mant; rw [if_pos (by omega)]; exact h
  unfold tF cn
  rw [if_pos this]
theorem nonfin {a : Nat} (h : ¬ mag a < 9218868437227405312) : (isNaN a || Ie.isInf a) = true := by
  rcases Nat.lt_or_eq_of_le (Nat.le_of_not_lt h) with h | h
  · rw [nan_of h]; rfl
  · rw [Ie.isInf_iff.2 h.symm, Bool.or_true]
theorem dmul_all (a b : Nat) (m : Int) (ha : a < 18446744073709551616) (hb : b < 18446744073709551616) (w : World) :
    Calls Tryz.prog 18 #[.float .f64 a, .float .f64 b, .int .i64 m] w fun r w' => OutD w (fMul a b m) r w' := by
  unfold fMul
  cases hm : isM m
  · rw [if_pos rfl]
    refine (dmul_no a b m ha hb hm w).mono ?_
    rintro r w' ⟨rfl, hw⟩
    exact ⟨rfl, hw ▸ Below.refl _ _⟩
  · rw [if_neg (by decide)]
    have hm' := isM_iff.1 hm
    by_cases hf : mag a < 9218868437227405312 ∧ mag b < 9218868437227405312
    · obtain ⟨hfa, hfb⟩ := hf
      have hok : Ok (tM (tF a) (tF b)) := tM_ok (tM_okR a b)
      obtain ⟨f1, f2, f3, f4, f5⟩ := hok.facts
      have k := dmul_fin a b _ m (tF a) (tF b) (tM (tF a) (tF b)) w hm ha hb hfa hfb (float_dn a ha w) (fun W' h => float_dn b hb W') (fun W' X Y h h1 h2 => times_dn (tF_ok a) (tF_ok b) h1 h2) (fun W' X h h1 => dR h1 f5 (by omega) (by omega) (by omega) hm')
      refine k.mono ?_
      rintro r w' ⟨rfl, hb'⟩
      refine ⟨?_, hb'⟩
      congr 2
      by_cases hp : pln a = false ∨ pln b = false
      · rw [if_pos hp]
        have h0 : (tM (tF a) (tF b)).2.1 = 0 := by
          have hz : (tF a).2.1 * (tF b).2.1 = 0 := by
            rcases hp with h | h
            · rw [tF_nought ((pln_false.1 h).resolve_left (by omega)), Nat.zero_mul]
            · rw [tF_nought ((pln_false.1 h).resolve_left (by omega)), Nat.mul_zero]
          unfold tM cn
          rw [if_pos hz]
        rw [if_pos h0]
        unfold mulX
        rw [nan_no (by omega), nan_no (by omega), if_neg (by decide), if_neg (by omega)]
      · rw [if_neg hp]
        have pa : pln a = true := by cases h : pln a; exact absurd (.inl h) hp; rfl
        have pb : pln b = true := by cases h : pln b; exact absurd (.inr h) hp; rfl
        rw [if_neg (tM_nought (tF_ne (pln_true.1 pa).2) (tF_ne (pln_true.1 pb).2))]
    · have hp : pln a = false ∨ pln b = false := by
        by_cases h : mag a < 9218868437227405312
        · exact .inr (pln_false.2 (.inl fun h' => hf ⟨h, h'⟩))
        · exact .inl (pln_false.2 (.inl h))
      rw [if_pos hp]
      refine (dmul_non a b m ha hb hm ?_ w).mono ?_
      · by_cases h : mag a < 9218868437227405312
        · have := nonfin (a := b) (fun h' => hf ⟨h, h'⟩)
          revert this
          cases isNaN a <;> cases isNaN b <;> cases Ie.isInf a <;> cases Ie.isInf b <;> decide
        · have := nonfin h
          revert this
          cases isNaN a <;> cases isNaN b <;> cases Ie.isInf a <;> cases Ie.isInf b <;> decide
      · rintro r w' ⟨rfl, hw⟩
        exact ⟨rfl, hw ▸ Below.refl _ _⟩
theorem ddiv_all (a b : Nat) (m : Int) (ha : a < 18446744073709551616) (hb : b < 18446744073709551616) (w : World) :
    Calls Tryz.prog 20 #[.float .f64 a, .float .f64 b, .int .i64 m] w fun r w' => OutD w (fDiv a b m) r w' := by
  unfold fDiv
  cases hm : isM m
  · rw [if_pos rfl]
    refine (ddiv_no a b m ha hb hm w).mono ?_
    rintro r w' ⟨rfl, hw⟩
    exact ⟨rfl, hw ▸ Below.refl _ _⟩
  · rw [if_neg (by decide)]
    have hm' := isM_iff.1 hm
    by_cases hp : pln a = false ∨ pln b = false
    · rw [if_pos hp]
      have hc : ∀ c : Nat, (Ie.isInf c && ((mag c : Int) == 0)) = false := fun c => by
        rw [inf_dec, zero_iff]
        by_cases h : mag c = 0
        · rw [decide_eq_false (by omega)]; rfl
        · rw [decide_eq_false h, Bool.and_false]
      refine (ddiv_non a b m ha hb hm ?_ (hc a) (hc b) w).mono ?_
      · have key : ∀ c : Nat, pln c = false → (isNaN c || Ie.isInf c || ((mag c : Int) == 0)) = true := fun c h => by
          rcases pln_false.1 h with h | h
          · rw [nonfin h]; rfl
          · rw [zero_iff, decide_eq_true h, Bool.or_true]
        rcases hp with h | h
        · have := key a h
          revert this
          cases isNaN a <;> cases isNaN b <;> cases Ie.isInf a <;> cases Ie.isInf b <;> cases ((mag a : Int) == 0) <;> cases ((mag b : Int) == 0) <;> decide
        · have := key b h
          revert this
          cases isNaN a <;> cases isNaN b <;> cases Ie.isInf a <;> cases Ie.isInf b <;> cases ((mag a : Int) == 0) <;> cases ((mag b : Int) == 0) <;> decide
      · rintro r w' ⟨rfl, hw⟩
        exact ⟨rfl, hw ▸ Below.refl _ _⟩
    · rw [if_neg hp]
      have pa : pln a = true := by cases h : pln a; exact absurd (.inl h) hp; rfl
      have pb : pln b = true := by cases h : pln b; exact absurd (.inr h) hp; rfl
      obtain ⟨hfa, ha0⟩ := pln_true.1 pa
      obtain ⟨hfb, hb0⟩ := pln_true.1 pb
      exact ddiv_fin a b _ m (tF a) (tF b) w hm ha hb hfa hfb ha0 hb0 (float_dn a ha w) (fun W' h => float_dn b hb W') (fun W' X Y h h1 h2 => dratio (tF_ok a) (tF_ok b) h1 h2 (tF_ne ha0) (tF_ne hb0) hm')
end Go.Proofs.YtajeodimbfppiaaGreatDoor

/- RoundProducts. -/
namespace Go.Proofs.YtajeodimbfppiaaGreatDoor
set_option linter.unusedVariables false
set_option linter.unusedSimpArgs false
open Go.RowKit Go.Fl64

set_option maxHeartbeats 4000000 in
set_option maxRecDepth 200000 in
theorem lawP_1 (a b X Y : Nat) (m : Int) (w : World) (hX : X < 18446744073709551616) (hY : Y < 18446744073709551616)
    (k1 : ∀ W, Below w.heap.size w W → Calls Tryz.prog 17 #[.float .f64 a, .float .f64 b, .int .i64 m] W fun r w' => OutF2 W X r w')
    (k2 : ∀ W, Calls Tryz.prog 18 #[.float .f64 a, .float .f64 b, .int .i64 m] W fun r w' => OutD W X r w')
    (k3 : ∀ W, Below w.heap.size w W → Calls Tryz.prog 19 #[.float .f64 a, .float .f64 b, .int .i64 m] W fun r w' => OutF2 W Y r w')
    (k4 : ∀ W, Calls Tryz.prog 20 #[.float .f64 a, .float .f64 b, .int .i64 m] W fun r w' => OutD W Y r w')
    (k7 : ∀ W, Below w.heap.size w W → Calls Tryz.prog 16 #[] W fun r w' => r = .returned (.bool true) ∧ Below W.heap.size W w') :
    Calls Tryz.prog 4 #[.float .f64 a, .float .f64 b, .int .i64 m] w fun r w' => r = .returned (.bool true) ∧ Below w.heap.size w w' := by
  have HXY : Hid (X < 18446744073709551616 ∧ Y < 18446744073709551616) := ⟨hX, hY⟩
  have H2 : Hid (∀ W, Calls Tryz.prog 18 #[.float .f64 a, .float .f64 b, .int .i64 m] W fun r w' => OutD W X r w') := k2
  have H3 : Hid (∀ W, Below w.heap.size w W → Calls Tryz.prog 19 #[.float .f64 a, .float .f64 b, .int .i64 m] W fun r w' => OutF2 W Y r w') := k3
  have H4 : Hid (∀ W, Calls Tryz.prog 20 #[.float .f64 a, .float .f64 b, .int .i64 m] W fun r w' => OutD W Y r w') := k4
  have H7 : Hid (∀ W, Below w.heap.size w W → Calls Tryz.prog 16 #[] W fun r w' => r = .returned (.bool true) ∧ Below W.heap.size W w') := k7
  have kk := k1 w (Below.refl _ _)
  clear hX hY k1 k2 k3 k4 k7
  go_enter Tryz.func4, Tryz.ntmps4
  go_wp2_with fail
  refine kk.mono ?_
  rintro r w1 ⟨n1, rfl, l1, hb1⟩
  have HB1 : Hid (lk n1 X ∧ Below w.heap.size w w1) := ⟨l1, hb1⟩
  clear kk l1 hb1
  have kk := H2.out w1
  go_wp2_with fail
  refine kk.mono ?_
  rintro r w2 ⟨rfl, hb2⟩
  have HB2 : Hid (Below w.heap.size w w2) := HB1.out.2.trans (hb2.mono HB1.out.2.size)
  clear kk hb2
  have kk := lsame_ok HB1.out.1 HXY.out.1 w2
  go_wp2_with fail
  refine kk.mono ?_
  rintro r w' ⟨rfl, hw⟩
  rw [hw]
  clear hw kk w' HB1
  have kk := H3.out w2 HB2.out
  go_wp2_with fail
  refine kk.mono ?_
  rintro r w3 ⟨n3, rfl, l3, hb3⟩
  have HB3 : Hid (lk n3 Y ∧ Below w.heap.size w w3) := ⟨l3, HB2.out.trans (hb3.mono HB2.out.size)⟩
  clear kk l3 hb3
  have kk := H4.out w3
  go_wp2_with fail
  refine kk.mono ?_
  rintro r w4 ⟨rfl, hb4⟩
  have HB4 : Hid (Below w.heap.size w w4) := HB3.out.2.trans (hb4.mono HB3.out.2.size)
  clear kk hb4
  have kk := lsame_ok HB3.out.1 HXY.out.2 w4
  go_wp2_with fail
  refine kk.mono ?_
  rintro r w' ⟨rfl, hw⟩
  rw [hw]
  clear hw kk w' HB3
  have kk := H7.out w4 HB4.out
  go_wp2_with fail
  refine kk.mono ?_
  rintro r w5 ⟨rfl, hb5⟩
  have HB5 : Hid (Below w.heap.size w w5) := HB4.out.trans (hb5.mono HB4.out.size)
  clear kk hb5
  go_wp2_with fail
  go_ret
  exact ⟨rfl, HB5.out⟩

/-- RoundProducts answers true -/
theorem roundProducts_ok (a b : Nat) (m : Int) (w : World) (ha : a < 18446744073709551616) (hb : b < 18446744073709551616) (hT : Tab32 w) (hI : Ie.Tab w) :
    Calls Tryz.prog 4 #[.float .f64 a, .float .f64 b, .int .i64 m] w fun r w' => r = .returned (.bool true) ∧ Below w.heap.size w w' :=
  lawP_1 a b _ _ m w fMul_lt fDiv_lt (fun W h => pmul_all a b m ha hb W (hT.later h) (Tab.later hI h)) (fun W => dmul_all a b m ha hb W) (fun W h => pdiv_all a b m ha hb W (hT.later h) (Tab.later hI h)) (fun W => ddiv_all a b m ha hb W) (fun W h => sure_ok W (hT.later h) (Tab.later hI h))
end Go.Proofs.YtajeodimbfppiaaGreatDoor
