/- Own work: contracts of the program's functions, part B2. -/
import Derived.Test.YtceoeiojoffnnaaGreatDoorA9
import Derived.Test.YtceoeiojoffnnaaGreatDoorA11
import Derived.Deep.CutRange

/- compare, where the signs are alike. -/
namespace Go.Proofs.YtceoeiojoffnnaaGreatDoor
set_option linter.unusedVariables false
set_option linter.unusedSimpArgs false
open Go.RowKit Go.Fl64

theorem c75 {neg : Bool} {ao : Option Addr} {cap x : Nat} {e : Int} {w : World} (h : Is w (.slice ao (dlen x) cap) x) (hx : dlen x ≤ 1000000) (he1 : -4000000 ≤ e) (he2 : e ≤ 4000000) :
    Calls Tryz.prog 81 #[.agg #[.bool neg, .slice ao (dlen x) cap, .int .i64 e]] w fun r w' => r = .returned (.int .i64 (bl x + e)) ∧ Below w.heap.size w w' := by
  have hb := bl_le_dlen x
  exact c75_1 neg ao _ cap (bl x) e w (by omega) he1 he2 fun W hW => c74 (h.later hW) (by omega)

set_option maxRecDepth 200000 in
theorem c77_0 (na nb : Bool) (ua va : Option Addr) (uc vc : Nat) (ea eb : Int) (w : World) :
    Calls Tryz.prog 51 #[.agg #[.bool na, .slice ua 0 uc, .int .i64 ea], .agg #[.bool nb, .slice va 0 vc, .int .i64 eb]] w fun r w' => r = .returned (.int .i64 0) ∧ Below w.heap.size w w' := by
  obtain ⟨W, hW⟩ : ∃ W, W = (w.alloc (.cells #[.bool na, .slice ua 0 uc, .int .i64 ea] 25)).alloc (.cells #[.bool nb, .slice va 0 vc, .int .i64 eb] 25) := ⟨_, rfl⟩
  have hBW : Below w.heap.size w W := by rw [hW]; exact ((Below.refl _ _).alloc (Nat.le_refl _) _).alloc (by simp) _
  have hbB : W.heap[w.heap.size + 1]? = some (.cells #[.bool nb, .slice va 0 vc, .int .i64 eb] 25 (0, 0)) := by
    have := heap_alloc_new (w.alloc (.cells #[.bool na, .slice ua 0 uc, .int .i64 ea] 25)) (.cells #[.bool nb, .slice va 0 vc, .int .i64 eb] 25)
    rw [hW]; simpa using this
  have hsz : W.heap.size = w.heap.size + 1 + 1 := by rw [hW]; simp
  have HC : Hid (∀ w', Below W.heap.size W w' → (w'.cell? ⟨w.heap.size + 1, 0, none⟩ = some (.bool nb) ∧ w'.cell? ⟨w.heap.size + 1, 1, none⟩ = some (.slice va 0 vc) ∧ w'.cell? ⟨w.heap.size + 1, 2, none⟩ = some (.int .i64 eb))) := fun w' hb => (box_cells (box_later hbB hb (by omega))).1
  have ka : ∀ W', Calls Tryz.prog 47 #[.agg #[.bool na, .slice ua 0 uc, .int .i64 ea]] W' fun r w' => r = .returned (.int .i64 0) ∧ Below W'.heap.size W' w' := fun W' =>
    (c72 na ua 0 uc ea W' (by omega)).mono fun r w' ⟨e1, e2⟩ => ⟨e1, by rw [e2]; exact (Below.refl _ _).alloc (Nat.le_refl _) _⟩
  have kb : ∀ W', Calls Tryz.prog 47 #[.agg #[.bool nb, .slice va 0 vc, .int .i64 eb]] W' fun r w' => r = .returned (.int .i64 0) ∧ Below W'.heap.size W' w' := fun W' =>
    (c72 nb va 0 vc eb W' (by omega)).mono fun r w' ⟨e1, e2⟩ => ⟨e1, by rw [e2]; exact (Below.refl _ _).alloc (Nat.le_refl _) _⟩
  have HB : Hid (Below w.heap.size w W) := hBW
  clear hBW hbB hsz
  go_enter Tryz.func51, Tryz.ntmps51
  go_wp2_with fail
  rw [← hW]
  clear hW
  refine (ka W).mono ?_
  rintro r w1 ⟨rfl, hB1⟩
  obtain ⟨x1, x2, x3⟩ := HC.out w1 hB1
  have HB1 : Hid (Below W.heap.size W w1) := hB1
  clear hB1
  go_wp2_with fail
  refine (kb _).mono ?_
  rintro r w2 ⟨rfl, hB2⟩
  have HF : Hid (Below w.heap.size w w2) := HB.out.trans ((below_step HB1.out hB2).mono HB.out.size)
  clear x1 x2 x3 hB2
  go_wp2_with fail
  go_ret
  exact ⟨rfl, HF.out⟩

set_option maxHeartbeats 4000000 in
set_option maxRecDepth 200000 in
theorem c77_2 (na : Bool) (ua va : Option Addr) (un uc vn vc : Nat) (ea eb s ta tb cv pv : Int) (w : World) (hs : Hid (sgI na un = s ∧ sgI na vn = s)) (hs0 : (s == 0) = false) (hss : (s != s) = false) (htt : (ta != tb) = true) (hun : un ≤ 35184372088832) (hvn : vn ≤ 35184372088832)
    (hcv : Hid (∀ W, Calls Tryz.prog 80 #[.int .i64 ta, .int .i64 tb] W fun r w' => r = .returned (.int .i64 cv) ∧ w' = W)) (hpv : IntKind.i64.wrap (s * cv) = pv)
    (kta : ∀ W, Below w.heap.size w W → Calls Tryz.prog 81 #[.agg #[.bool na, .slice ua un uc, .int .i64 ea]] W fun r w' => r = .returned (.int .i64 ta) ∧ Below W.heap.size W w')
    (ktb : ∀ W, Below w.heap.size w W → Calls Tryz.prog 81 #[.agg #[.bool na, .slice va vn vc, .int .i64 eb]] W fun r w' => r = .returned (.int .i64 tb) ∧ Below W.heap.size W w') :
    Calls Tryz.prog 51 #[.agg #[.bool na, .slice ua un uc, .int .i64 ea], .agg #[.bool na, .slice va vn vc, .int .i64 eb]] w fun r w' => r = .returned (.int .i64 pv) ∧ Below w.heap.size w w' := by
  obtain ⟨W, hW⟩ : ∃ W, W = (w.alloc (.cells #[.bool na, .slice ua un uc, .int .i64 ea] 25)).alloc (.cells #[.bool na, .slice va vn vc, .int .i64 eb] 25) := ⟨_, rfl⟩
  have hBW : Below w.heap.size w W := by rw [hW]; exact ((Below.refl _ _).alloc (Nat.le_refl _) _).alloc (by simp) _
  have hbA : W.heap[w.heap.size]? = some (.cells #[.bool na, .slice ua un uc, .int .i64 ea] 25 (0, 0)) := by
    rw [hW, Below.heap_alloc _ _ _ (by simp)]; exact heap_alloc_new _ _
  have hbB : W.heap[w.heap.size + 1]? = some (.cells #[.bool na, .slice va vn vc, .int .i64 eb] 25 (0, 0)) := by
    have := heap_alloc_new (w.alloc (.cells #[.bool na, .slice ua un uc, .int .i64 ea] 25)) (.cells #[.bool na, .slice va vn vc, .int .i64 eb] 25)
    rw [hW]; simpa using this
  have hsz : W.heap.size = w.heap.size + 1 + 1 := by rw [hW]; simp
  have HCC : Hid (∀ w', Below W.heap.size W w' → ((w'.cell? ⟨w.heap.size, 0, none⟩ = some (.bool na) ∧ w'.cell? ⟨w.heap.size, 1, none⟩ = some (.slice ua un uc) ∧ w'.cell? ⟨w.heap.size, 2, none⟩ = some (.int .i64 ea)) ∧ (w'.cell? ⟨w.heap.size + 1, 0, none⟩ = some (.bool na) ∧ w'.cell? ⟨w.heap.size + 1, 1, none⟩ = some (.slice va vn vc) ∧ w'.cell? ⟨w.heap.size + 1, 2, none⟩ = some (.int .i64 eb))) ∧ Below W.heap.size W w') := fun w' hb => ⟨⟨(box_cells (box_later hbA hb (by omega))).1, (box_cells (box_later hbB hb (by omega))).1⟩, hb⟩
  have ka : ∀ W', Calls Tryz.prog 47 #[.agg #[.bool na, .slice ua un uc, .int .i64 ea]] W' fun r w' => r = .returned (.int .i64 s) ∧ Below W'.heap.size W' w' := fun W' =>
    (c72 na ua un uc ea W' hun).mono fun r w' ⟨e1, e2⟩ => ⟨by rw [e1, hs.out.1], by rw [e2]; exact (Below.refl _ _).alloc (Nat.le_refl _) _⟩
  have kb : ∀ W', Calls Tryz.prog 47 #[.agg #[.bool na, .slice va vn vc, .int .i64 eb]] W' fun r w' => r = .returned (.int .i64 s) ∧ Below W'.heap.size W' w' := fun W' =>
    (c72 na va vn vc eb W' hvn).mono fun r w' ⟨e1, e2⟩ => ⟨by rw [e1, hs.out.2], by rw [e2]; exact (Below.refl _ _).alloc (Nat.le_refl _) _⟩
  have HB : Hid (Below w.heap.size w W) := hBW
  have k1 : ∀ w', Below W.heap.size W w' → Calls Tryz.prog 81 #[.agg #[.bool na, .slice ua un uc, .int .i64 ea]] w' fun r w'' => r = .returned (.int .i64 ta) ∧ Below W.heap.size W w'' := fun w' h => (kta w' (hBW.trans (h.mono hBW.size))).mono fun r w'' ⟨e1, e2⟩ => ⟨e1, h.trans (e2.mono h.size)⟩
  have k2 : ∀ w', Below W.heap.size W w' → Calls Tryz.prog 81 #[.agg #[.bool na, .slice va vn vc, .int .i64 eb]] w' fun r w'' => r = .returned (.int .i64 tb) ∧ Below W.heap.size W w'' := fun w' h => (ktb w' (hBW.trans (h.mono hBW.size))).mono fun r w'' ⟨e1, e2⟩ => ⟨e1, h.trans (e2.mono h.size)⟩
  clear hBW hbA hbB hsz hs kta ktb hun hvn
  go_enter Tryz.func51, Tryz.ntmps51
  go_wp2_with fail
  rw [← hW]
  clear hW
  refine (ka W).mono ?_
  rintro r w1 ⟨rfl, hB1⟩
  obtain ⟨⟨-, x1, x2, x3⟩, -⟩ := HCC.out w1 hB1
  have HB1 : Hid (Below W.heap.size W w1) := hB1
  clear hB1
  go_wp2_with fail
  refine (kb _).mono ?_
  rintro r w2 ⟨rfl, hB2⟩
  have HB2 : Hid (Below W.heap.size W w2) := below_step HB1.out hB2
  clear x1 x2 x3 hB2 ka kb HB1
  go_upto_region 6 with fail
  obtain ⟨⟨⟨a0, a1, a2⟩, b0, b1, b2⟩, hB0⟩ := HCC.out w2 HB2.out
  have hBR : Below W.heap.size W w2.drew := hB0.drew
  go_cut [23] from 24 to 28 (fun v wx => v = .bool true ∧ Hid (Below W.heap.size W wx))
  case first =>
    go_region_held3 (fun w' => ((w'.cell? ⟨w.heap.size, 0, none⟩ = some (.bool na) ∧ w'.cell? ⟨w.heap.size, 1, none⟩ = some (.slice ua un uc) ∧ w'.cell? ⟨w.heap.size, 2, none⟩ = some (.int .i64 ea)) ∧ (w'.cell? ⟨w.heap.size + 1, 0, none⟩ = some (.bool na) ∧ w'.cell? ⟨w.heap.size + 1, 1, none⟩ = some (.slice va vn vc) ∧ w'.cell? ⟨w.heap.size + 1, 2, none⟩ = some (.int .i64 eb))) ∧ Below W.heap.size W w') (first | (with_reducible assumption) | exact HCC.out _ hBR | exact ⟨⟨⟨a0, a1, a2⟩, b0, b1, b2⟩, hBR⟩ | (refine HCC.out _ ?_; with_reducible assumption) | go_keep)
      (first | (go_at_call_of 81 (Value.slice ua un uc); refine (k1 _ (by first | (with_reducible assumption) | exact Below.drew (by assumption))).mono ?_; rintro r w5 ⟨rfl, hb5⟩)
             | (go_at_call_of 81 (Value.slice va vn vc); refine (k2 _ (by first | (with_reducible assumption) | exact Below.drew (by assumption))).mono ?_; rintro r w6 ⟨rfl, hb6⟩))
    all_goals go_wp2_with fail
    all_goals go_meet
    all_goals exact ⟨rfl, hb6⟩
  case rest =>
    obtain ⟨W2, rfl⟩ : ∃ W2 : World, W2 = wc := ⟨_, rfl⟩
    obtain ⟨rfl, HB3⟩ := hcut
    clear a0 a1 a2 b0 b1 b2 hBR hB0
    go_upto_region 7 with fail
    obtain ⟨⟨⟨a0, a1, a2⟩, b0, b1, b2⟩, hB0⟩ := HCC.out W2 HB3.out
    have hBR : Below W.heap.size W W2.drew := hB0.drew
    have k3 := hcv.out
    go_region_held3 (fun w' => ((w'.cell? ⟨w.heap.size, 0, none⟩ = some (.bool na) ∧ w'.cell? ⟨w.heap.size, 1, none⟩ = some (.slice ua un uc) ∧ w'.cell? ⟨w.heap.size, 2, none⟩ = some (.int .i64 ea)) ∧ (w'.cell? ⟨w.heap.size + 1, 0, none⟩ = some (.bool na) ∧ w'.cell? ⟨w.heap.size + 1, 1, none⟩ = some (.slice va vn vc) ∧ w'.cell? ⟨w.heap.size + 1, 2, none⟩ = some (.int .i64 eb))) ∧ Below W.heap.size W w') (first | (with_reducible assumption) | exact HCC.out _ hBR | exact ⟨⟨⟨a0, a1, a2⟩, b0, b1, b2⟩, hBR⟩ | (refine HCC.out _ ?_; with_reducible assumption) | go_keep)
      (first | (go_at_call_of 81 (Value.slice ua un uc); refine (k1 _ (by first | (with_reducible assumption) | exact Below.drew (by assumption))).mono ?_; rintro r w5 ⟨rfl, hb5⟩)
             | (go_at_call_of 81 (Value.slice va vn vc); refine (k2 _ (by first | (with_reducible assumption) | exact Below.drew (by assumption))).mono ?_; rintro r w6 ⟨rfl, hb6⟩)
             | (go_at_call 80; refine (k3 _).mono ?_; rintro r w7 ⟨rfl, rfl⟩))
    all_goals go_wp2_with fail
    all_goals go_ret
    all_goals exact ⟨rfl, HB.out.trans (hb6.mono HB.out.size)⟩

set_option maxHeartbeats 4000000 in
set_option maxRecDepth 200000 in
theorem c77_3 (na : Bool) (ua va : Option Addr) (un uc vn vc : Nat) (ea eb s ta tb cv pv : Int) (PQ : World → Value → Value → Prop) (w : World) (hs : Hid (sgI na un = s ∧ sgI na vn = s)) (hs0 : (s == 0) = false) (hss : (s != s) = false) (htt : (ta != tb) = false) (hun : un ≤ 35184372088832) (hvn : vn ≤ 35184372088832)
    (kal : ∀ W, Below w.heap.size w W → Calls Tryz.prog 54 #[.agg #[.bool na, .slice ua un uc, .int .i64 ea], .agg #[.bool na, .slice va vn vc, .int .i64 eb]] W fun r w' => ∃ p q e', r = .returned (.tuple #[p, q, .int .i64 e']) ∧ PQ w' p q ∧ Below W.heap.size W w')
    (kcd : ∀ W p q, PQ W p q → Calls Tryz.prog 76 #[p, q] W fun r w' => r = .returned (.int .i64 cv) ∧ Below W.heap.size W w') (hpv : IntKind.i64.wrap (s * cv) = pv)
    (kta : ∀ W, Below w.heap.size w W → Calls Tryz.prog 81 #[.agg #[.bool na, .slice ua un uc, .int .i64 ea]] W fun r w' => r = .returned (.int .i64 ta) ∧ Below W.heap.size W w')
    (ktb : ∀ W, Below w.heap.size w W → Calls Tryz.prog 81 #[.agg #[.bool na, .slice va vn vc, .int .i64 eb]] W fun r w' => r = .returned (.int .i64 tb) ∧ Below W.heap.size W w') :
    Calls Tryz.prog 51 #[.agg #[.bool na, .slice ua un uc, .int .i64 ea], .agg #[.bool na, .slice va vn vc, .int .i64 eb]] w fun r w' => r = .returned (.int .i64 pv) ∧ Below w.heap.size w w' := by
  obtain ⟨W, hW⟩ : ∃ W, W = (w.alloc (.cells #[.bool na, .slice ua un uc, .int .i64 ea] 25)).alloc (.cells #[.bool na, .slice va vn vc, .int .i64 eb] 25) := ⟨_, rfl⟩
  have hBW : Below w.heap.size w W := by rw [hW]; exact ((Below.refl _ _).alloc (Nat.le_refl _) _).alloc (by simp) _
  have hbA : W.heap[w.heap.size]? = some (.cells #[.bool na, .slice ua un uc, .int .i64 ea] 25 (0, 0)) := by
    rw [hW, Below.heap_alloc _ _ _ (by simp)]; exact heap_alloc_new _ _
  have hbB : W.heap[w.heap.size + 1]? = some (.cells #[.bool na, .slice va vn vc, .int .i64 eb] 25 (0, 0)) := by
    have := heap_alloc_new (w.alloc (.cells #[.bool na, .slice ua un uc, .int .i64 ea] 25)) (.cells #[.bool na, .slice va vn vc, .int .i64 eb] 25)
    rw [hW]; simpa using this
  have hsz : W.heap.size = w.heap.size + 1 + 1 := by rw [hW]; simp
  have HCC : Hid (∀ w', Below W.heap.size W w' → ((w'.cell? ⟨w.heap.size, 0, none⟩ = some (.bool na) ∧ w'.cell? ⟨w.heap.size, 1, none⟩ = some (.slice ua un uc) ∧ w'.cell? ⟨w.heap.size, 2, none⟩ = some (.int .i64 ea)) ∧ (w'.cell? ⟨w.heap.size + 1, 0, none⟩ = some (.bool na) ∧ w'.cell? ⟨w.heap.size + 1, 1, none⟩ = some (.slice va vn vc) ∧ w'.cell? ⟨w.heap.size + 1, 2, none⟩ = some (.int .i64 eb))) ∧ Below W.heap.size W w') := fun w' hb => ⟨⟨(box_cells (box_later hbA hb (by omega))).1, (box_cells (box_later hbB hb (by omega))).1⟩, hb⟩
  have ka : ∀ W', Calls Tryz.prog 47 #[.agg #[.bool na, .slice ua un uc, .int .i64 ea]] W' fun r w' => r = .returned (.int .i64 s) ∧ Below W'.heap.size W' w' := fun W' =>
    (c72 na ua un uc ea W' hun).mono fun r w' ⟨e1, e2⟩ => ⟨by rw [e1, hs.out.1], by rw [e2]; exact (Below.refl _ _).alloc (Nat.le_refl _) _⟩
  have kb : ∀ W', Calls Tryz.prog 47 #[.agg #[.bool na, .slice va vn vc, .int .i64 eb]] W' fun r w' => r = .returned (.int .i64 s) ∧ Below W'.heap.size W' w' := fun W' =>
    (c72 na va vn vc eb W' hvn).mono fun r w' ⟨e1, e2⟩ => ⟨by rw [e1, hs.out.2], by rw [e2]; exact (Below.refl _ _).alloc (Nat.le_refl _) _⟩
  have HB : Hid (Below w.heap.size w W) := hBW
  have k1 : ∀ w', Below W.heap.size W w' → Calls Tryz.prog 81 #[.agg #[.bool na, .slice ua un uc, .int .i64 ea]] w' fun r w'' => r = .returned (.int .i64 ta) ∧ Below W.heap.size W w'' := fun w' h => (kta w' (hBW.trans (h.mono hBW.size))).mono fun r w'' ⟨e1, e2⟩ => ⟨e1, h.trans (e2.mono h.size)⟩
  have k2 : ∀ w', Below W.heap.size W w' → Calls Tryz.prog 81 #[.agg #[.bool na, .slice va vn vc, .int .i64 eb]] w' fun r w'' => r = .returned (.int .i64 tb) ∧ Below W.heap.size W w'' := fun w' h => (ktb w' (hBW.trans (h.mono hBW.size))).mono fun r w'' ⟨e1, e2⟩ => ⟨e1, h.trans (e2.mono h.size)⟩
  have KLN : Hid (∀ W, Below w.heap.size w W → Calls Tryz.prog 54 #[.agg #[.bool na, .slice ua un uc, .int .i64 ea], .agg #[.bool na, .slice va vn vc, .int .i64 eb]] W fun r w' => ∃ p q e', r = .returned (.tuple #[p, q, .int .i64 e']) ∧ PQ w' p q ∧ Below W.heap.size W w') := kal
  have KCD : Hid (∀ W p q, PQ W p q → Calls Tryz.prog 76 #[p, q] W fun r w' => r = .returned (.int .i64 cv) ∧ Below W.heap.size W w') := kcd
  clear hBW hbA hbB hsz hs kta ktb hun hvn kal kcd
  go_enter Tryz.func51, Tryz.ntmps51
  go_wp2_with fail
  rw [← hW]
  clear hW
  refine (ka W).mono ?_
  rintro r w1 ⟨rfl, hB1⟩
  obtain ⟨⟨-, x1, x2, x3⟩, -⟩ := HCC.out w1 hB1
  have HB1 : Hid (Below W.heap.size W w1) := hB1
  clear hB1
  go_wp2_with fail
  refine (kb _).mono ?_
  rintro r w2 ⟨rfl, hB2⟩
  have HB2 : Hid (Below W.heap.size W w2) := below_step HB1.out hB2
  clear x1 x2 x3 hB2 ka kb HB1
  go_upto_region 6 with fail
  obtain ⟨⟨⟨a0, a1, a2⟩, b0, b1, b2⟩, hB0⟩ := HCC.out w2 HB2.out
  have hBR : Below W.heap.size W w2.drew := hB0.drew
  go_cut [23] from 24 to 28 (fun v wx => v = .bool false ∧ Hid (Below W.heap.size W wx))
  case first =>
    go_region_held3 (fun w' => ((w'.cell? ⟨w.heap.size, 0, none⟩ = some (.bool na) ∧ w'.cell? ⟨w.heap.size, 1, none⟩ = some (.slice ua un uc) ∧ w'.cell? ⟨w.heap.size, 2, none⟩ = some (.int .i64 ea)) ∧ (w'.cell? ⟨w.heap.size + 1, 0, none⟩ = some (.bool na) ∧ w'.cell? ⟨w.heap.size + 1, 1, none⟩ = some (.slice va vn vc) ∧ w'.cell? ⟨w.heap.size + 1, 2, none⟩ = some (.int .i64 eb))) ∧ Below W.heap.size W w') (first | (with_reducible assumption) | exact HCC.out _ hBR | exact ⟨⟨⟨a0, a1, a2⟩, b0, b1, b2⟩, hBR⟩ | (refine HCC.out _ ?_; with_reducible assumption) | go_keep)
      (first | (go_at_call_of 81 (Value.slice ua un uc); refine (k1 _ (by first | (with_reducible assumption) | exact Below.drew (by assumption))).mono ?_; rintro r w5 ⟨rfl, hb5⟩)
             | (go_at_call_of 81 (Value.slice va vn vc); refine (k2 _ (by first | (with_reducible assumption) | exact Below.drew (by assumption))).mono ?_; rintro r w6 ⟨rfl, hb6⟩))
    all_goals go_wp2_with fail
    all_goals go_meet
    all_goals exact ⟨rfl, hb6⟩
  case rest =>
    obtain ⟨W2, rfl⟩ : ∃ W2 : World, W2 = wc := ⟨_, rfl⟩
    obtain ⟨rfl, HB3⟩ := hcut
    clear a0 a1 a2 b0 b1 b2 hBR hB0
    obtain ⟨⟨⟨a0, a1, a2⟩, b0, b1, b2⟩, hB0⟩ := HCC.out W2 HB3.out
    have HB3' : Hid (Below w.heap.size w W2) := HB.out.trans (hB0.mono HB.out.size)
    have k4 := KLN.out W2 HB3'.out
    go_wp2_with fail
    refine k4.mono ?_
    rintro r w5 ⟨p, q, e', rfl, hpq, hb5⟩
    have k5 := KCD.out w5 p q hpq
    have HB5 : Hid (Below w.heap.size w w5) := HB3'.out.trans (hb5.mono HB3'.out.size)
    clear k4 hb5 hpq a0 a1 a2 b0 b1 b2 hB0
    go_wp2_with fail
    refine k5.mono ?_
    rintro r w6 ⟨rfl, hb6⟩
    have HB6 : Hid (Below w.heap.size w w6) := HB5.out.trans (hb6.mono HB5.out.size)
    clear k5 hb6
    go_wp2_with fail
    go_ret
    exact ⟨rfl, HB6.out⟩

/-- the order of two numbers by their parts -/
def ordN (na : Bool) (x : Nat) (ea : Int) (nb : Bool) (y : Nat) (eb : Int) : Int :=
  if sgI na (dlen x) = sgI nb (dlen y) then sgI na (dlen x) * cmpI (x * 2 ^ (ea - min ea eb).toNat : Nat) (y * 2 ^ (eb - min ea eb).toNat : Nat) else cmpI (sgI na (dlen x)) (sgI nb (dlen y))
end Go.Proofs.YtceoeiojoffnnaaGreatDoor

/- compare and Cmp joined; Round. -/
namespace Go.Proofs.YtceoeiojoffnnaaGreatDoor
set_option linter.unusedVariables false
set_option linter.unusedSimpArgs false
open Go.RowKit Go.Fl64

theorem cmpI_cases (x y : Int) : (x < y ∧ cmpI x y = -1) ∨ (y < x ∧ cmpI x y = 1) ∨ (x = y ∧ cmpI x y = 0) := by
  unfold cmpI
  by_cases h1 : x < y
  · rw [if_pos h1]; exact .inl ⟨h1, rfl⟩
  · rw [if_neg h1]
    by_cases h2 : y < x
    · rw [if_pos h2]; exact .inr (.inl ⟨h2, rfl⟩)
    · rw [if_neg h2]; exact .inr (.inr ⟨by omega, rfl⟩)
theorem sgI_pos {na : Bool} {n : Nat} (h : n ≠ 0) : sgI na n = if na then -1 else 1 := by unfold sgI; rw [if_neg h]
theorem sgI_zero {na : Bool} : sgI na 0 = 0 := by unfold sgI; rw [if_pos rfl]

/-- a number with fewer binary digits, counted from its exponent, is less -/
theorem top_lt {x y k l : Nat} (hy : y ≠ 0) (h : bl x + k < bl y + l) : x * 2 ^ k < y * 2 ^ l := by
  have h1 := lt_bl x
  have h2 := le_bl hy
  have hb : bl y ≠ 0 := by unfold bl; rw [if_neg hy]; omega
  have h3 : x * 2 ^ k < 2 ^ (bl x + k) := by rw [Nat.pow_add]; exact Nat.mul_lt_mul_of_pos_right h1 (Nat.two_pow_pos k)
  have h4 : 2 ^ (bl x + k) ≤ 2 ^ (bl y - 1 + l) := Nat.pow_le_pow_right (by omega) (by omega)
  have h5 : 2 ^ (bl y - 1 + l) ≤ y * 2 ^ l := by rw [Nat.pow_add]; exact Nat.mul_le_mul_right _ h2
  omega

theorem c77 {na nb : Bool} {ua va : Option Addr} {uc vc x y : Nat} {ea eb : Int} {w : World} (h1 : Is w (.slice ua (dlen x) uc) x) (h2 : Is w (.slice va (dlen y) vc) y) (hx : dlen x ≤ 500000) (hy : dlen y ≤ 500000) (ha : -2000000 ≤ ea ∧ ea ≤ 2000000) (hb : -2000000 ≤ eb ∧ eb ≤ 2000000) :
    Calls Tryz.prog 51 #[.agg #[.bool na, .slice ua (dlen x) uc, .int .i64 ea], .agg #[.bool nb, .slice va (dlen y) vc, .int .i64 eb]] w fun r w' => r = .returned (.int .i64 (ordN na x ea nb y eb)) ∧ Below w.heap.size w w' := by
  unfold ordN
  by_cases hs : sgI na (dlen x) = sgI nb (dlen y)
  · rw [if_pos hs]
    by_cases hx0 : x = 0
    · subst hx0
      have hy0 : y = 0 := by
        rw [dlen_zero, sgI_zero] at hs
        apply dlen_eq_zero.1
        apply Decidable.byContradiction
        intro h
        rw [sgI_pos h] at hs
        cases nb <;> simp at hs
      subst hy0
      rw [dlen_zero, sgI_zero, Int.zero_mul]
      exact c77_0 na nb ua va uc vc ea eb w
    · have hdx : dlen x ≠ 0 := fun e => hx0 (dlen_eq_zero.1 e)
      have hdy : dlen y ≠ 0 := by
        intro e
        rw [e, sgI_zero, sgI_pos hdx] at hs
        cases na <;> simp at hs
      have hy0 : y ≠ 0 := fun e => hdy (by rw [e, dlen_zero])
      obtain rfl : na = nb := by
        rw [sgI_pos hdx, sgI_pos hdy] at hs
        cases na <;> cases nb <;> simp at hs ⊢
      have hs1 : sgI na (dlen x) = -1 ∨ sgI na (dlen x) = 1 := by rw [sgI_pos hdx]; cases na <;> simp
      have kta : ∀ W, Below w.heap.size w W → Calls Tryz.prog 81 #[.agg #[.bool na, .slice ua (dlen x) uc, .int .i64 ea]] W fun r w' => r = .returned (.int .i64 (bl x + ea)) ∧ Below W.heap.size W w' := fun W hW => c75 (h1.later hW) (by omega) (by omega) (by omega)
      have ktb : ∀ W, Below w.heap.size w W → Calls Tryz.prog 81 #[.agg #[.bool na, .slice va (dlen y) vc, .int .i64 eb]] W fun r w' => r = .returned (.int .i64 (bl y + eb)) ∧ Below W.heap.size W w' := fun W hW => c75 (h2.later hW) (by omega) (by omega) (by omega)
      have hsz : (sgI na (dlen x) == 0) = false := by rcases hs1 with h | h <;> rw [h] <;> decide
      have hss : (sgI na (dlen x) != sgI na (dlen x)) = false := by simp
      have hw : ∀ c : Int, c = -1 ∨ c = 1 ∨ c = 0 → IntKind.i64.wrap (sgI na (dlen x) * c) = sgI na (dlen x) * c := by
        intro c hc
        rcases hs1 with h | h <;> rcases hc with rfl | rfl | rfl <;> rw [h] <;> decide
      have hem : (ea - min ea eb).toNat = ea - min ea eb ∧ (eb - min ea eb).toNat = eb - min ea eb := by omega
      by_cases ht : (bl x : Int) + ea = bl y + eb
      · refine c77_3 na ua va _ uc _ vc ea eb (sgI na (dlen x)) (bl x + ea) (bl y + eb) (cmpI (x * 2 ^ (ea - min ea eb).toNat : Nat) (y * 2 ^ (eb - min ea eb).toNat : Nat)) _ (fun W p q => Is W p (x * 2 ^ (ea - min ea eb).toNat) ∧ Is W q (y * 2 ^ (eb - min ea eb).toNat)) w ⟨rfl, hs.symm⟩ hsz hss (by rw [ht]; simp) (by omega) (by omega) ?_ ?_ (hw _ ?_) kta ktb
        · intro W hW
          refine Calls.mono (c99 (na := na) (nb := na) (h1.later hW) (h2.later hW) (by omega) (by omega) (by omega) (by omega)) ?_
          rintro r w' ⟨p, q, rfl, hp, hq, hb'⟩
          exact ⟨p, q, _, rfl, ⟨hp.is, hq.is⟩, hb'⟩
        · rintro W p q ⟨hp, hq⟩
          have l1 : dlen (x * 2 ^ (ea - min ea eb).toNat) ≤ 760000 := by have := shl_len (x := x) (k := (ea - min ea eb).toNat) rfl; omega
          have l2 : dlen (y * 2 ^ (eb - min ea eb).toNat) ≤ 760000 := by have := shl_len (x := y) (k := (eb - min ea eb).toNat) rfl; omega
          refine (c129 hp hq (by omega) (by omega)).mono ?_
          rintro r w' ⟨rfl, d, rfl⟩
          exact ⟨rfl, rfl, rfl, rfl, Nat.le_refl _, fun _ _ => rfl⟩
        · rcases cmpI_cases (x * 2 ^ (ea - min ea eb).toNat : Nat) (y * 2 ^ (eb - min ea eb).toNat : Nat) with h | h | h
          · exact .inl h.2
          · exact .inr (.inl h.2)
          · exact .inr (.inr h.2)
      · have ec : cmpI (x * 2 ^ (ea - min ea eb).toNat : Nat) (y * 2 ^ (eb - min ea eb).toNat : Nat) = cmpI (bl x + ea) (bl y + eb) := by
          rcases cmpI_cases (bl x + ea) (bl y + eb) with h | h | h
          · have := top_lt (x := x) (k := (ea - min ea eb).toNat) (l := (eb - min ea eb).toNat) hy0 (by omega)
            rw [h.2]; unfold cmpI; rw [if_pos (by omega)]
          · have := top_lt (x := y) (y := x) (k := (eb - min ea eb).toNat) (l := (ea - min ea eb).toNat) hx0 (by omega)
            rw [h.2]; unfold cmpI; rw [if_neg (by omega), if_pos (by omega)]
          · exact absurd h.1 ht
        rw [ec]
        refine c77_2 na ua va _ uc _ vc ea eb (sgI na (dlen x)) (bl x + ea) (bl y + eb) (cmpI (bl x + ea) (bl y + eb)) _ w ⟨rfl, hs.symm⟩ hsz hss (by simp; omega) (by omega) (by omega) (fun W => c128 _ _ W) (hw _ ?_) kta ktb
        rcases cmpI_cases (bl x + ea) (bl y + eb) with h | h | h
        · exact .inl h.2
        · exact .inr (.inl h.2)
        · exact .inr (.inr h.2)
  · rw [if_neg hs]
    exact c77_1 na nb ua va _ uc _ vc ea eb _ _ w rfl rfl (by simp; exact hs) (by omega) (by omega)

theorem cmp_ok {na nb : Bool} {ua va : Option Addr} {uc vc x y : Nat} {ea eb : Int} {w : World} (h1 : Is w (.slice ua (dlen x) uc) x) (h2 : Is w (.slice va (dlen y) vc) y) (hx : dlen x ≤ 500000) (hy : dlen y ≤ 500000) (ha : -2000000 ≤ ea ∧ ea ≤ 2000000) (hb : -2000000 ≤ eb ∧ eb ≤ 2000000)
    (hoka : okN na (dlen x) x ea = true) (hokb : okN nb (dlen y) y eb = true) :
    Calls Tryz.prog 26 #[.agg #[.bool na, .slice ua (dlen x) uc, .int .i64 ea], .agg #[.bool nb, .slice va (dlen y) vc, .int .i64 eb]] w fun r w' => r = .returned (.int .i64 (ordN na x ea nb y eb)) ∧ Below w.heap.size w w' :=
  c30_1 na nb ua va _ uc _ vc ea eb _ w (fun W g hW hg => by
    have := maybe2 hg (h1.later hW) (h2.later hW) (by omega) (by omega)
    rw [hoka, hokb] at this
    exact this) (fun W hW => c77 (h1.later hW) (h2.later hW) hx hy ha hb)

theorem c48 (m : Int) (hm : m = 1 ∨ m = 2 ∨ m = 3) (w : World) : Calls Tryz.prog 48 #[.int .i64 m] w fun r w' => r = .returned (.bool true) ∧ w' = w := by
  rcases hm with rfl | rfl | rfl
  all_goals go_enter Tryz.func48, Tryz.ntmps48
  all_goals go_wp2
  all_goals go_ret
  all_goals exact ⟨rfl, rfl⟩

set_option maxRecDepth 200000 in
theorem c24_1 (na : Bool) (ua : Option Addr) (un uc F : Nat) (ea mode : Int) (w : World)
    (k43 : ∀ W g, Below w.heap.size w W → W.heap[g]? = some (.cells #[.bool na, .slice ua un uc, .int .i64 ea] 25 (0, 0)) → Calls Tryz.prog 43 #[.slice (some ⟨g, 0, none⟩) 1 1] W fun r w' => r = .returned (.bool true) ∧ Below W.heap.size W w')
    (k48 : ∀ W, Calls Tryz.prog 48 #[.int .i64 mode] W fun r w' => r = .returned (.bool true) ∧ w' = W)
    (k49 : ∀ W, Below w.heap.size w W → Calls Tryz.prog 49 #[.agg #[.bool na, .slice ua un uc, .int .i64 ea], .int .i64 mode] W fun r w' => r = .returned (.float .f64 F) ∧ Below W.heap.size W w') :
    Calls Tryz.prog 24 #[.agg #[.bool na, .slice ua un uc, .int .i64 ea], .int .i64 mode] w fun r w' => r = .returned (.tuple #[.float .f64 F, .int .i64 0]) ∧ Below w.heap.size w w' := by
  obtain ⟨W, hW⟩ : ∃ W, W = w.alloc (.cells #[.bool na, .slice ua un uc, .int .i64 ea] 25) := ⟨_, rfl⟩
  have hBW : Below w.heap.size w W := by rw [hW]; exact (Below.refl _ _).alloc (Nat.le_refl _) _
  have hsz : W.heap.size = w.heap.size + 1 := by rw [hW]; simp
  have hbx : W.heap[w.heap.size]? = some (.cells #[.bool na, .slice ua un uc, .int .i64 ea] 25 (0, 0)) := by rw [hW]; exact heap_alloc_new _ _
  have k1 := k43 (W.alloc (.cells #[.bool na, .slice ua un uc, .int .i64 ea] 25)) (w.heap.size + 1) (hBW.alloc hBW.size _) (by rw [← hsz]; exact heap_alloc_new _ _)
  have HX : Hid (Below w.heap.size w W ∧ W.heap.size = w.heap.size + 1 ∧ W.heap[w.heap.size]? = some (.cells #[.bool na, .slice ua un uc, .int .i64 ea] 25 (0, 0))) := ⟨hBW, hsz, hbx⟩
  have HK : Hid (∀ W, Below w.heap.size w W → Calls Tryz.prog 49 #[.agg #[.bool na, .slice ua un uc, .int .i64 ea], .int .i64 mode] W fun r w' => r = .returned (.float .f64 F) ∧ Below W.heap.size W w') := k49
  clear hBW hsz hbx k43 k49
  go_enter Tryz.func24, Tryz.ntmps24
  go_wp2_with fail
  rw [← hW]
  clear hW
  refine k1.mono ?_
  rintro r w1 ⟨rfl, hb1⟩
  have HB1 : Hid (Below W.heap.size W w1) := ((Below.refl W.heap.size W).alloc (Nat.le_refl _) _).trans (hb1.mono (by simp))
  clear k1 hb1
  obtain ⟨⟨x0, x1, x2⟩, -⟩ := box_cells (box_later HX.out.2.2 HB1.out (by have := HX.out.2.1; omega))
  have HB2 : Hid (Below w.heap.size w w1) := HX.out.1.trans (HB1.out.mono HX.out.1.size)
  have k2 := k48 w1
  clear k48
  go_wp2_with fail
  refine k2.mono ?_
  rintro r w2 ⟨rfl, hw2⟩
  replace hw2 := hw2.symm
  subst hw2
  clear k2
  have k3 := HK.out w1 HB2.out
  go_wp2_with fail
  refine k3.mono ?_
  rintro r w3 ⟨rfl, hb3⟩
  have HB3 : Hid (Below w.heap.size w w3) := HB2.out.trans (hb3.mono HB2.out.size)
  clear k3 hb3 x0 x1 x2
  go_wp2_with fail
  refine bodyPost_ret (results_tmp2 rfl _ _ _) rfl ?_
  exact ⟨rfl, HB3.out⟩
end Go.Proofs.YtceoeiojoffnnaaGreatDoor
