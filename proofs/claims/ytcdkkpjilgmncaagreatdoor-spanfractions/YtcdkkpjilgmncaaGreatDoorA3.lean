/- Own work: contracts of the program's functions, part 3: W17 W18 W19 W20 W21 W22 W23. -/
import Derived.Test.YtcdkkpjilgmncaaGreatDoorA2
import Derived.Deep.RegionHeld3

set_option maxHeartbeats 16000000
namespace Go.Proofs.YtcdkkpjilgmncaaGreatDoor
set_option linter.unusedVariables false
set_option linter.unusedSimpArgs false
open Go.RowKit
def Ct (W : World) (f : Nat) (args : Array Value) (x : Nat) : Prop :=
  ∀ w', Below W.heap.size W w' → Calls Tryz.prog f args w' fun r w'' => ∃ v, r = .returned v ∧ Own w'' W.heap.size v x ∧ Below W.heap.size W w'' ∧ Below w'.heap.size w' w''
theorem ct109 {W : World} {v : Value} {x k : Nat} (h : Is W v x) (hx : dlen x ≤ 35184372088832) (hk : k ≤ 1099511627776) : Ct W 59 #[v, .int .i64 k] (x * 2 ^ k) := fun w' hb =>
  (c109 (h.later hb) k hx hk).mono fun r w'' ⟨v, e, ho, hb2⟩ => ⟨v, e, ho.mono hb.size, hb.trans (hb2.mono hb.size), hb2⟩
set_option maxRecDepth 200000 in
theorem c99_1 (na nb : Bool) (ua va : Option Addr) (un vn uc vc x y : Nat) (ea : Int) (kb : Nat) (w : World)
    (h1 : ∀ W, Below w.heap.size w W → Ct W 59 #[.slice ua un uc, .int .i64 0] x) (h2 : ∀ W, Below w.heap.size w W → Ct W 59 #[.slice va vn vc, .int .i64 kb] (y * 2 ^ kb)) (hb1 : -4000000 ≤ ea) (hb2 : ea ≤ 4000000) (hb3 : kb ≤ 8000000) :
    Calls Tryz.prog 125 #[NumV na (.slice ua un uc) ea, NumV nb (.slice va vn vc) (ea + kb)] w fun r w' => ∃ p q, r = .returned (.tuple #[p, q, .int .i64 ea]) ∧ Own w' w.heap.size p x ∧ Own w' w.heap.size q (y * 2 ^ kb) ∧ Below w.heap.size w w' := by
  obtain ⟨W, hW⟩ : ∃ W, W = (w.alloc (.cells #[.bool na, .slice ua un uc, .int .i64 ea] 28)).alloc (.cells #[.bool nb, .slice va vn vc, .int .i64 (ea + kb)] 28) := ⟨_, rfl⟩
  have hBW : Below w.heap.size w W := by rw [hW]; exact ((Below.refl _ _).alloc (Nat.le_refl _) _).alloc (by simp) _
  have hbA : W.heap[w.heap.size]? = some (.cells #[.bool na, .slice ua un uc, .int .i64 ea] 28 (0, 0)) := by
    rw [hW, Below.heap_alloc _ _ _ (by simp)]; exact heap_alloc_new _ _
  have hbB : W.heap[w.heap.size + 1]? = some (.cells #[.bool nb, .slice va vn vc, .int .i64 (ea + kb)] 28 (0, 0)) := by
    have := heap_alloc_new (w.alloc (.cells #[.bool na, .slice ua un uc, .int .i64 ea] 28)) (.cells #[.bool nb, .slice va vn vc, .int .i64 (ea + kb)] 28)
    rw [hW]; simpa using this
  have hsz : W.heap.size = w.heap.size + 1 + 1 := by rw [hW]; simp
  have k1 := h1 W hBW
  have k2 := h2 W hBW
  have HBW : Hid (Below w.heap.size w W) := hBW
  have HCC : Hid (∀ w', Below W.heap.size W w' → (w'.cell? ⟨w.heap.size, 1, none⟩ = some (.slice ua un uc) ∧ w'.cell? ⟨w.heap.size, 2, none⟩ = some (.int .i64 ea)) ∧ w'.cell? ⟨w.heap.size + 1, 1, none⟩ = some (.slice va vn vc) ∧ w'.cell? ⟨w.heap.size + 1, 2, none⟩ = some (.int .i64 (ea + kb))) := by
    intro w' hB
    have a := (box_cells (box_later hbA hB (by omega))).1
    have b := (box_cells (box_later hbB hB (by omega))).1
    exact ⟨⟨a.2.1, a.2.2⟩, b.2.1, b.2.2⟩
  unfold NumV
  have wz0 : IntKind.i64.wrap 0 = 0 := by decide
  have wz1 : IntKind.i64.wrap (ea + (kb : Int) - ea) = (kb : Int) := by rw [IntKind.wrap_i64]; omega
  clear h1 h2 hbA hbB hsz hBW
  go_enter Tryz.func125, Tryz.ntmps125
  go_wp2
  rw [← hW]
  clear hW
  obtain ⟨⟨c1, c2⟩, c3, c4⟩ := HCC.out W (Below.refl _ _)
  have hB0 : Below W.heap.size W W := Below.refl _ _
  go_region_held3 (fun w' => ((w'.cell? ⟨w.heap.size, 1, none⟩ = some (.slice ua un uc) ∧ w'.cell? ⟨w.heap.size, 2, none⟩ = some (.int .i64 ea)) ∧ w'.cell? ⟨w.heap.size + 1, 1, none⟩ = some (.slice va vn vc) ∧ w'.cell? ⟨w.heap.size + 1, 2, none⟩ = some (.int .i64 (ea + kb))) ∧ Below W.heap.size W w') (first | assumption | exact ⟨⟨⟨c1, c2⟩, c3, c4⟩, hB0⟩ | (refine ⟨HCC.out _ ?_, ?_⟩ <;> first | assumption | exact Below.drew (by assumption)))
    (first | (go_at_call_of 59 (Value.slice ua un uc); (try simp only [wz0]); refine (k1 _ ?_).mono ?_; (first | assumption | exact Below.drew (by assumption)); rintro r w2 ⟨p, rfl, hp, hb2, hb3⟩) | (go_at_call_of 59 (Value.slice va vn vc); (try simp only [wz1]); refine (k2 _ ?_).mono ?_; (first | assumption | exact Below.drew (by assumption)); rintro r w3 ⟨q, rfl, hq, hb4, hb5⟩))
  have HP : Hid (Own w3 w.heap.size p x ∧ Own w3 w.heap.size q (y * 2 ^ kb) ∧ Below w.heap.size w w3) := ⟨(hp.later hb5).mono HBW.out.size, hq.mono HBW.out.size, HBW.out.trans (hb4.mono HBW.out.size)⟩
  clear hp hq hb2 hb4 hb5 k1 k2 HCC HBW c1 c2 c3 c4 hB0 wz0 wz1
  go_wp2
  go_ret3
  exact ⟨p, q, rfl, HP.out⟩
set_option maxRecDepth 200000 in
theorem c99_2 (na nb : Bool) (ua va : Option Addr) (un vn uc vc x y : Nat) (eb : Int) (ka : Nat) (w : World)
    (h1 : ∀ W, Below w.heap.size w W → Ct W 59 #[.slice ua un uc, .int .i64 ka] (x * 2 ^ ka)) (h2 : ∀ W, Below w.heap.size w W → Ct W 59 #[.slice va vn vc, .int .i64 0] y) (hb1 : -4000000 ≤ eb) (hb2 : eb ≤ 4000000) (hb3 : ka ≤ 8000000) (hb0 : 0 < ka) :
    Calls Tryz.prog 125 #[NumV na (.slice ua un uc) (eb + ka), NumV nb (.slice va vn vc) eb] w fun r w' => ∃ p q, r = .returned (.tuple #[p, q, .int .i64 eb]) ∧ Own w' w.heap.size p (x * 2 ^ ka) ∧ Own w' w.heap.size q y ∧ Below w.heap.size w w' := by
  obtain ⟨W, hW⟩ : ∃ W, W = (w.alloc (.cells #[.bool na, .slice ua un uc, .int .i64 (eb + ka)] 28)).alloc (.cells #[.bool nb, .slice va vn vc, .int .i64 eb] 28) := ⟨_, rfl⟩
  have hBW : Below w.heap.size w W := by rw [hW]; exact ((Below.refl _ _).alloc (Nat.le_refl _) _).alloc (by simp) _
  have hbA : W.heap[w.heap.size]? = some (.cells #[.bool na, .slice ua un uc, .int .i64 (eb + ka)] 28 (0, 0)) := by
    rw [hW, Below.heap_alloc _ _ _ (by simp)]; exact heap_alloc_new _ _
  have hbB : W.heap[w.heap.size + 1]? = some (.cells #[.bool nb, .slice va vn vc, .int .i64 eb] 28 (0, 0)) := by
    have := heap_alloc_new (w.alloc (.cells #[.bool na, .slice ua un uc, .int .i64 (eb + ka)] 28)) (.cells #[.bool nb, .slice va vn vc, .int .i64 eb] 28)
    rw [hW]; simpa using this
  have hsz : W.heap.size = w.heap.size + 1 + 1 := by rw [hW]; simp
  have k1 := h1 W hBW
  have k2 := h2 W hBW
  have HBW : Hid (Below w.heap.size w W) := hBW
  have HCC : Hid (∀ w', Below W.heap.size W w' → (w'.cell? ⟨w.heap.size, 1, none⟩ = some (.slice ua un uc) ∧ w'.cell? ⟨w.heap.size, 2, none⟩ = some (.int .i64 (eb + ka))) ∧ w'.cell? ⟨w.heap.size + 1, 1, none⟩ = some (.slice va vn vc) ∧ w'.cell? ⟨w.heap.size + 1, 2, none⟩ = some (.int .i64 eb)) := by
    intro w' hB
    have a := (box_cells (box_later hbA hB (by omega))).1
    have b := (box_cells (box_later hbB hB (by omega))).1
    exact ⟨⟨a.2.1, a.2.2⟩, b.2.1, b.2.2⟩
  unfold NumV
  have wz0 : IntKind.i64.wrap 0 = 0 := by decide
  have wz1 : IntKind.i64.wrap (eb + (ka : Int) - eb) = (ka : Int) := by rw [IntKind.wrap_i64]; omega
  clear h1 h2 hbA hbB hsz hBW
  go_enter Tryz.func125, Tryz.ntmps125
  go_wp2
  rw [← hW]
  clear hW
  obtain ⟨⟨c1, c2⟩, c3, c4⟩ := HCC.out W (Below.refl _ _)
  have hB0 : Below W.heap.size W W := Below.refl _ _
  go_region_held3 (fun w' => ((w'.cell? ⟨w.heap.size, 1, none⟩ = some (.slice ua un uc) ∧ w'.cell? ⟨w.heap.size, 2, none⟩ = some (.int .i64 (eb + ka))) ∧ w'.cell? ⟨w.heap.size + 1, 1, none⟩ = some (.slice va vn vc) ∧ w'.cell? ⟨w.heap.size + 1, 2, none⟩ = some (.int .i64 eb)) ∧ Below W.heap.size W w') (first | assumption | exact ⟨⟨⟨c1, c2⟩, c3, c4⟩, hB0⟩ | (refine ⟨HCC.out _ ?_, ?_⟩ <;> first | assumption | exact Below.drew (by assumption)))
    (first | (go_at_call_of 59 (Value.slice ua un uc); (try simp only [wz0]); refine (k1 _ ?_).mono ?_; (first | assumption | exact Below.drew (by assumption)); rintro r w2 ⟨p, rfl, hp, hb2, hb3⟩) | (go_at_call_of 59 (Value.slice va vn vc); (try simp only [wz1]); refine (k2 _ ?_).mono ?_; (first | assumption | exact Below.drew (by assumption)); rintro r w3 ⟨q, rfl, hq, hb4, hb5⟩))
  have HP : Hid (Own w3 w.heap.size p (x * 2 ^ ka) ∧ Own w3 w.heap.size q y ∧ Below w.heap.size w w3) := ⟨(hp.later hb5).mono HBW.out.size, hq.mono HBW.out.size, HBW.out.trans (hb4.mono HBW.out.size)⟩
  clear hp hq hb2 hb4 hb5 k1 k2 HCC HBW c1 c2 c3 c4 hB0 wz0 wz1
  go_wp2
  go_ret3
  exact ⟨p, q, rfl, HP.out⟩
theorem c99 {na nb : Bool} {u v : Value} {x y : Nat} {ea eb : Int} {w : World} (h1 : Is w u x) (h2 : Is w v y) (hx : dlen x ≤ 1000000) (hy : dlen y ≤ 1000000) (ha : -4000000 ≤ ea ∧ ea ≤ 4000000) (hb : -4000000 ≤ eb ∧ eb ≤ 4000000) :
    Calls Tryz.prog 125 #[NumV na u ea, NumV nb v eb] w fun r w' => ∃ p q, r = .returned (.tuple #[p, q, .int .i64 (min ea eb)]) ∧ Own w' w.heap.size p (x * 2 ^ (ea - min ea eb).toNat) ∧ Own w' w.heap.size q (y * 2 ^ (eb - min ea eb).toNat) ∧ Below w.heap.size w w' := by
  have h1' := h1
  have h2' := h2
  obtain ⟨ua, uc, rfl, -, -, -⟩ := h1'
  obtain ⟨va, vc, rfl, -, -, -⟩ := h2'
  by_cases h : ea ≤ eb
  · obtain ⟨k, rfl⟩ : ∃ k : Nat, eb = ea + k := ⟨(eb - ea).toNat, by omega⟩
    rw [show min ea (ea + (k : Int)) = ea by omega, show (ea - ea).toNat = 0 by omega, show (ea + (k : Int) - ea).toNat = k by omega, Nat.pow_zero, Nat.mul_one]
    refine c99_1 na nb ua va _ _ uc vc x y ea k w (fun W hW => ?_) (fun W hW => ct109 (h2.later hW) (by omega) (by omega)) ha.1 ha.2 (by omega)
    have := ct109 (k := 0) (h1.later hW) (by omega) (by omega)
    rwa [Nat.pow_zero, Nat.mul_one] at this
  · obtain ⟨k, rfl⟩ : ∃ k : Nat, ea = eb + k := ⟨(ea - eb).toNat, by omega⟩
    rw [show min (eb + (k : Int)) eb = eb by omega, show (eb - eb).toNat = 0 by omega, show (eb + (k : Int) - eb).toNat = k by omega, Nat.pow_zero, Nat.mul_one]
    refine c99_2 na nb ua va _ _ uc vc x y eb k w (fun W hW => ct109 (h1.later hW) (by omega) (by omega)) (fun W hW => ?_) hb.1 hb.2 (by omega) (by omega)
    have := ct109 (k := 0) (h2.later hW) (by omega) (by omega)
    rwa [Nat.pow_zero, Nat.mul_one] at this
theorem boxes3 {w W : World} (a b c : Obj) (hW : W = ((w.alloc a).alloc b).alloc c) :
    W.heap[w.heap.size]? = some a ∧ W.heap[w.heap.size + 1]? = some b ∧ W.heap[w.heap.size + 1 + 1]? = some c ∧ W.heap.size = w.heap.size + 1 + 1 + 1 ∧ Below w.heap.size w W := by
  subst hW
  refine ⟨?_, blk_mid _ _ _ _, ?_, by simp, (((Below.refl _ _).alloc (Nat.le_refl _) _).alloc (by simp) _).alloc (by simp; omega) _⟩
  · rw [Below.heap_alloc _ _ _ (by simp; omega), Below.heap_alloc _ _ _ (by simp)]; exact heap_alloc_new _ _
  · have := heap_alloc_new ((w.alloc a).alloc b) c
    simpa using this
theorem Nrm.shape {w : World} {base : Nat} {a : Value} {neg : Bool} {x : Nat} {e : Int} (h : Nrm w base a neg x e) : ∃ s ao n cap ex, a = .agg #[.bool s, .slice ao n cap, .int .i64 ex] := by
  rcases h with ⟨_, rfl⟩ | ⟨_, v, rfl, ho⟩
  · exact ⟨_, _, _, _, _, rfl⟩
  · obtain ⟨ao, cap, rfl, -, -, -⟩ := ho.is
    exact ⟨_, _, _, _, _, rfl⟩
theorem Nrm.mono {w : World} {base base' : Nat} {a : Value} {neg : Bool} {x : Nat} {e : Int} (h : Nrm w base a neg x e) (hb : base' ≤ base) : Nrm w base' a neg x e := by
  rcases h with h | ⟨h0, v, h1, ho⟩
  · exact .inl h
  · exact .inr ⟨h0, v, h1, ho.mono hb⟩
theorem Nrm.store {w : World} {base : Nat} {a : Value} {neg : Bool} {x : Nat} {e : Int} (h : Nrm w base a neg x e) {g : Nat} (hg : g < base) (p q r : Value) : Nrm (((w.setCell ⟨g, 0, none⟩ p).setCell ⟨g, 1, none⟩ q).setCell ⟨g, 2, none⟩ r) base a neg x e := by
  rcases h with h | ⟨h0, v, h1, ho⟩
  · exact .inl h
  · exact .inr ⟨h0, v, h1, own_store3 ho hg _ _ _⟩
set_option maxRecDepth 200000 in
theorem c87_a (na nb : Bool) (ua va : Option Addr) (uc vn vc y : Nat) (ea eb : Int) (w : World) (hT : Tab32 w) (h2 : Is w (.slice va vn vc) y) (hy : dlen y ≤ 1000000) (hb : -4000000 ≤ eb ∧ eb ≤ 4000000) :
    Calls Tryz.prog 83 #[NumV na (.slice ua 0 uc) ea, NumV nb (.slice va vn vc) eb] w fun r w' => ∃ a, r = .returned a ∧ Nrm w' w.heap.size a nb y eb ∧ Below w.heap.size w w' := by
  obtain ⟨W, hW⟩ : ∃ W, W = ((w.alloc (.cells #[.bool na, .slice ua 0 uc, .int .i64 ea] 28)).alloc (.cells #[.bool nb, .slice va vn vc, .int .i64 eb] 28)).alloc (.cells #[.bool false, .slice none 0 0, .int .i64 0] 28) := ⟨_, rfl⟩
  obtain ⟨hA, hBb, hC, hsz, hBW⟩ := boxes3 _ _ _ hW
  have k56 := c56 (neg := nb) (e := eb) (h2.later hBW) (by omega) (hT.later hBW) (by omega)
  have HH : Hid (W.heap[w.heap.size + 1 + 1]? = some (.cells #[.bool false, .slice none 0 0, .int .i64 0] 28 (0, 0)) ∧ W.heap.size = w.heap.size + 1 + 1 + 1 ∧ Below w.heap.size w W) := ⟨hC, hsz, hBW⟩
  clear h2 hT hA hBb hC hsz hBW
  unfold NumV
  go_enter Tryz.func83, Tryz.ntmps83
  go_wp2_with fail
  rw [← hW]
  clear hW
  refine k56.mono ?_
  rintro r w3 ⟨a, rfl, hN, hB⟩
  obtain ⟨s, ao, n, cap, ex, rfl⟩ := hN.shape
  have HC3 : Hid (w3.heap[w.heap.size + 1 + 1]? = some (.cells #[.bool false, .slice none 0 0, .int .i64 0] 28 (0, 0))) := box_later HH.out.1 hB (by have := HH.out.2.1; omega)
  obtain ⟨⟨a1, a2, a3⟩, a4, a5, a6⟩ := box_cells HC3.out
  have HN : Hid (Nrm w3 W.heap.size (.agg #[.bool s, .slice ao n cap, .int .i64 ex]) nb y eb ∧ Below W.heap.size W w3) := ⟨hN, hB⟩
  clear k56 hN hB
  go_wp2
  refine bodyPost_ret (results_cell_row rfl _ _ (w.heap.size + 1 + 1) 28 #[.bool s, .slice ao n cap, .int .i64 ex] (0, 0) _ rfl (store3 _ _ _ HC3.out) Tryz.underlying28 rfl Tryz.info28) rfl ?_
  obtain ⟨b1, b2, b3⟩ := HH.out
  exact ⟨_, rfl, (HN.out.1.store (by omega) _ _ _).mono (by omega), below_store3 (b3.trans (HN.out.2.mono b3.size)) (by omega) _ _ _⟩
set_option maxRecDepth 200000 in
theorem c87_b (na nb : Bool) (ua va : Option Addr) (un uc vc x : Nat) (ea eb : Int) (w : World) (hT : Tab32 w) (h2 : Is w (.slice ua un uc) x) (hy : dlen x ≤ 1000000) (hb : -4000000 ≤ ea ∧ ea ≤ 4000000) (hn0 : ((un : Int) == 0) = false) :
    Calls Tryz.prog 83 #[NumV na (.slice ua un uc) ea, NumV nb (.slice va 0 vc) eb] w fun r w' => ∃ a, r = .returned a ∧ Nrm w' w.heap.size a na x ea ∧ Below w.heap.size w w' := by
  obtain ⟨W, hW⟩ : ∃ W, W = ((w.alloc (.cells #[.bool na, .slice ua un uc, .int .i64 ea] 28)).alloc (.cells #[.bool nb, .slice va 0 vc, .int .i64 eb] 28)).alloc (.cells #[.bool false, .slice none 0 0, .int .i64 0] 28) := ⟨_, rfl⟩
  obtain ⟨hA, hBb, hC, hsz, hBW⟩ := boxes3 _ _ _ hW
  have k56 := c56 (neg := na) (e := ea) (h2.later hBW) (by omega) (hT.later hBW) (by omega)
  have HH : Hid (W.heap[w.heap.size + 1 + 1]? = some (.cells #[.bool false, .slice none 0 0, .int .i64 0] 28 (0, 0)) ∧ W.heap.size = w.heap.size + 1 + 1 + 1 ∧ Below w.heap.size w W) := ⟨hC, hsz, hBW⟩
  clear h2 hT hA hBb hC hsz hBW
  unfold NumV
  go_enter Tryz.func83, Tryz.ntmps83
  go_wp2_with fail
  rw [← hW]
  clear hW
  refine k56.mono ?_
  rintro r w3 ⟨a, rfl, hN, hB⟩
  obtain ⟨s, ao, n, cap, ex, rfl⟩ := hN.shape
  have HC3 : Hid (w3.heap[w.heap.size + 1 + 1]? = some (.cells #[.bool false, .slice none 0 0, .int .i64 0] 28 (0, 0))) := box_later HH.out.1 hB (by have := HH.out.2.1; omega)
  obtain ⟨⟨a1, a2, a3⟩, a4, a5, a6⟩ := box_cells HC3.out
  have HN : Hid (Nrm w3 W.heap.size (.agg #[.bool s, .slice ao n cap, .int .i64 ex]) na x ea ∧ Below W.heap.size W w3) := ⟨hN, hB⟩
  clear k56 hN hB
  go_wp2
  refine bodyPost_ret (results_cell_row rfl _ _ (w.heap.size + 1 + 1) 28 #[.bool s, .slice ao n cap, .int .i64 ex] (0, 0) _ rfl (store3 _ _ _ HC3.out) Tryz.underlying28 rfl Tryz.info28) rfl ?_
  obtain ⟨b1, b2, b3⟩ := HH.out
  exact ⟨_, rfl, (HN.out.1.store (by omega) _ _ _).mono (by omega), below_store3 (b3.trans (HN.out.2.mono b3.size)) (by omega) _ _ _⟩
set_option maxRecDepth 200000 in
theorem c87_c (na : Bool) (ua va : Option Addr) (un uc vn vc X Y : Nat) (ea eb e : Int) (w : World) (hT : Tab32 w) (hX : dlen (X + Y) ≤ 1000000) (hX1 : dlen X ≤ 1000000) (hX2 : dlen Y ≤ 1000000) (he : -4000000 ≤ e ∧ e ≤ 4000000) (hn0 : ((un : Int) == 0) = false) (hn1 : ((vn : Int) == 0) = false)
    (h99 : ∀ W, Below w.heap.size w W → Calls Tryz.prog 125 #[NumV na (.slice ua un uc) ea, NumV na (.slice va vn vc) eb] W fun r w' => ∃ p q, r = .returned (.tuple #[p, q, .int .i64 e]) ∧ Own w' W.heap.size p X ∧ Own w' W.heap.size q Y ∧ Below W.heap.size W w') :
    Calls Tryz.prog 83 #[NumV na (.slice ua un uc) ea, NumV na (.slice va vn vc) eb] w fun r w' => ∃ a, r = .returned a ∧ Nrm w' w.heap.size a na (X + Y) e ∧ Below w.heap.size w w' := by
  obtain ⟨W, hW⟩ : ∃ W, W = ((w.alloc (.cells #[.bool na, .slice ua un uc, .int .i64 ea] 28)).alloc (.cells #[.bool na, .slice va vn vc, .int .i64 eb] 28)).alloc (.cells #[.bool false, .slice none 0 0, .int .i64 0] 28) := ⟨_, rfl⟩
  obtain ⟨hA, hBb, hC, hsz, hBW⟩ := boxes3 _ _ _ hW
  have k99 := h99 W hBW
  have HH : Hid ((W.heap[w.heap.size]? = some (.cells #[.bool na, .slice ua un uc, .int .i64 ea] 28 (0, 0)) ∧ W.heap[w.heap.size + 1]? = some (.cells #[.bool na, .slice va vn vc, .int .i64 eb] 28 (0, 0)) ∧ W.heap[w.heap.size + 1 + 1]? = some (.cells #[.bool false, .slice none 0 0, .int .i64 0] 28 (0, 0))) ∧ W.heap.size = w.heap.size + 1 + 1 + 1 ∧ Below w.heap.size w W ∧ Tab32 W) := ⟨⟨hA, hBb, hC⟩, hsz, hBW, hT.later hBW⟩
  unfold NumV at *
  clear hT hA hBb hC hsz hBW h99
  go_enter Tryz.func83, Tryz.ntmps83
  go_wp2_with fail
  rw [← hW]
  clear hW
  refine k99.mono ?_
  rintro r w4 ⟨p, q, rfl, hp, hq, hB4⟩
  obtain ⟨⟨h1, h2, h3⟩, hs, hBW, hTW⟩ := HH.out
  obtain ⟨⟨a0, a1, a2⟩, -⟩ := box_cells (box_later h1 hB4 (by omega))
  obtain ⟨⟨b0, b1, b2⟩, -⟩ := box_cells (box_later h2 hB4 (by omega))
  have HC4 : Hid (w4.heap[w.heap.size + 1 + 1]? = some (.cells #[.bool false, .slice none 0 0, .int .i64 0] 28 (0, 0)) ∧ Below W.heap.size W w4) := ⟨box_later h3 hB4 (by omega), hB4⟩
  have k122 : Calls Tryz.prog 127 #[p, q] w4.drew fun r w' => ∃ v, r = .returned v ∧ Own w' w4.heap.size v (X + Y) ∧ Below w4.heap.size w4 w' :=
    (c122 (w := w4.drew) hp.is hq.is (by omega) (by omega)).mono fun r w' ⟨v, e1, o1, o2⟩ => ⟨v, e1, o1, Below.trans (b := w4.drew) (Below.refl _ _).drew o2⟩
  have hKeep : ∀ w', Below w4.heap.size w4 w' → w'.cell? ⟨w.heap.size, 0, none⟩ = some (.bool na) := fun w' hb => (hb.cell (World.block_lt_of_cell? _ _ a0)).trans a0
  have HK : Hid (∀ w', Below w4.heap.size w4 w' → w'.cell? ⟨w.heap.size, 0, none⟩ = some (.bool na)) := hKeep
  have k56 : ∀ v5 w5, Own w5 w4.heap.size v5 (X + Y) → Below w4.heap.size w4 w5 → Calls Tryz.prog 79 #[.bool na, v5, .int .i64 e] w5 fun r w' => ∃ s ao n cap ex, r = .returned (.agg #[.bool s, .slice ao n cap, .int .i64 ex]) ∧
      Hid (Nrm w' w5.heap.size (.agg #[.bool s, .slice ao n cap, .int .i64 ex]) na (X + Y) e ∧ w4.heap.size ≤ w5.heap.size) ∧ Below w4.heap.size w4 w' ∧ Hid (w'.heap[w.heap.size + 1 + 1]? = some (.cells #[.bool false, .slice none 0 0, .int .i64 0] 28 (0, 0))) ∧
      (w'.cell? ⟨w.heap.size + 1 + 1, 0, none⟩ = some (.bool false) ∧ w'.cell? ⟨w.heap.size + 1 + 1, 1, none⟩ = some (.slice none 0 0) ∧ w'.cell? ⟨w.heap.size + 1 + 1, 2, none⟩ = some (.int .i64 0)) ∧ (w'.frozen? ⟨w.heap.size + 1 + 1, 0, none⟩ = false ∧ w'.frozen? ⟨w.heap.size + 1 + 1, 1, none⟩ = false ∧ w'.frozen? ⟨w.heap.size + 1 + 1, 2, none⟩ = false) := by
    intro v5 w5 ho hb
    refine (c56 ho.is (by omega) ((hTW.later hB4).later hb) (by omega)).mono ?_
    rintro r w6 ⟨a, rfl, hN, hb6⟩
    obtain ⟨s, ao, n, cap, ex, rfl⟩ := hN.shape
    have hb46 : Below w4.heap.size w4 w6 := hb.trans (hb6.mono hb.size)
    have hblk := box_later HC4.out.1 hb46 (by have := HC4.out.2.size; omega)
    obtain ⟨f1, f2⟩ := box_cells hblk
    exact ⟨s, ao, n, cap, ex, rfl, ⟨hN, hb.size⟩, hb46, hblk, f1, f2⟩
  have hbl : (na == na) = true := by simp
  clear h1 h2 h3 hp hq hB4 k99 hs hBW hTW hKeep hX hX1 hX2
  go_wp2
  go_region_held3 (fun w' => w'.cell? ⟨w.heap.size, 0, none⟩ = some (.bool na)) (first | (with_reducible assumption) | (refine HK.out _ ?_; with_reducible assumption) | (rw [World.cell?_setCell_other _ _ _ _ (by simp), World.cell?_setCell_other _ _ _ _ (by simp), World.cell?_setCell_other _ _ _ _ (by simp)]; refine HK.out _ ?_; with_reducible assumption) | go_keep)
    (first | (go_at_call 127; refine k122.mono ?_; rintro r w5 ⟨v5, rfl, ho5, hb5⟩) | (go_at_call 79; refine (k56 _ _ ho5 hb5).mono ?_; rintro r w6 ⟨s6, ao6, n6, cap6, ex6, rfl, hN6, hb6, hblk6, ⟨x1, x2, x3⟩, x4, x5, x6⟩))
  have HF : Hid (Below w4.heap.size w4 w6) := hb6
  clear ho5 hb5 hb6 k56 k122 x1 x2 x3 x4 x5 x6 a0 a1 a2 b0 b1 b2 HK
  go_wp2
  refine bodyPost_ret (results_cell_row rfl _ _ (w.heap.size + 1 + 1) 28 #[.bool s6, .slice ao6 n6 cap6, .int .i64 ex6] (0, 0) _ rfl (store3 _ _ _ hblk6.out) Tryz.underlying28 rfl Tryz.info28) rfl ?_
  obtain ⟨-, hs, hBW, -⟩ := HH.out
  have hs4 := HC4.out.2.size
  have hs5 := hN6.out.2
  exact ⟨_, rfl, (hN6.out.1.store (by omega) _ _ _).mono (by omega), below_store3 (hBW.trans ((HC4.out.2.trans (HF.out.mono hs4)).mono hBW.size)) (by omega) _ _ _⟩
set_option maxRecDepth 200000 in
theorem c87_d (na nb : Bool) (ua va : Option Addr) (un uc vn vc X Y : Nat) (ea eb e : Int) (w : World) (hT : Tab32 w) (hlt : X < Y) (hne : (na == nb) = false) (hX1 : dlen X ≤ 1000000) (hX2 : dlen Y ≤ 1000000) (he : -4000000 ≤ e ∧ e ≤ 4000000) (hn0 : ((un : Int) == 0) = false) (hn1 : ((vn : Int) == 0) = false)
    (h99 : ∀ W, Below w.heap.size w W → Calls Tryz.prog 125 #[NumV na (.slice ua un uc) ea, NumV nb (.slice va vn vc) eb] W fun r w' => ∃ p q, r = .returned (.tuple #[p, q, .int .i64 e]) ∧ Own w' W.heap.size p X ∧ Own w' W.heap.size q Y ∧ Below W.heap.size W w') :
    Calls Tryz.prog 83 #[NumV na (.slice ua un uc) ea, NumV nb (.slice va vn vc) eb] w fun r w' => ∃ a, r = .returned a ∧ Nrm w' w.heap.size a nb (Y - X) e ∧ Below w.heap.size w w' := by
  obtain ⟨W, hW⟩ : ∃ W, W = ((w.alloc (.cells #[.bool na, .slice ua un uc, .int .i64 ea] 28)).alloc (.cells #[.bool nb, .slice va vn vc, .int .i64 eb] 28)).alloc (.cells #[.bool false, .slice none 0 0, .int .i64 0] 28) := ⟨_, rfl⟩
  obtain ⟨hA, hBb, hC, hsz, hBW⟩ := boxes3 _ _ _ hW
  have k99 := h99 W hBW
  have HH : Hid ((W.heap[w.heap.size]? = some (.cells #[.bool na, .slice ua un uc, .int .i64 ea] 28 (0, 0)) ∧ W.heap[w.heap.size + 1]? = some (.cells #[.bool nb, .slice va vn vc, .int .i64 eb] 28 (0, 0)) ∧ W.heap[w.heap.size + 1 + 1]? = some (.cells #[.bool false, .slice none 0 0, .int .i64 0] 28 (0, 0))) ∧ W.heap.size = w.heap.size + 1 + 1 + 1 ∧ Below w.heap.size w W ∧ Tab32 W) := ⟨⟨hA, hBb, hC⟩, hsz, hBW, hT.later hBW⟩
  unfold NumV at *
  clear hT hA hBb hC hsz hBW h99
  go_enter Tryz.func83, Tryz.ntmps83
  go_wp2_with fail
  rw [← hW]
  clear hW
  refine k99.mono ?_
  rintro r w4 ⟨p, q, rfl, hp, hq, hB4⟩
  obtain ⟨⟨h1, h2, h3⟩, hs, hBW, hTW⟩ := HH.out
  obtain ⟨⟨a0, a1, a2⟩, -⟩ := box_cells (box_later h1 hB4 (by omega))
  obtain ⟨⟨b0, b1, b2⟩, -⟩ := box_cells (box_later h2 hB4 (by omega))
  have HC4 : Hid (w4.heap[w.heap.size + 1 + 1]? = some (.cells #[.bool false, .slice none 0 0, .int .i64 0] 28 (0, 0)) ∧ Below W.heap.size W w4) := ⟨box_later h3 hB4 (by omega), hB4⟩
  have k129 := c129 hp.is hq.is (by omega) (by omega)
  have hcm : cmpI (X : Int) (Y : Int) < 0 := by unfold cmpI; rw [if_pos (by omega)]; omega
  generalize cmpI (X : Int) (Y : Int) = cv at *
  have k138 : ∀ dd, Calls Tryz.prog 128 #[q, p] (w4.drewN dd).drew fun r w' => ∃ v, r = .returned v ∧ Own w' w4.heap.size v (Y - X) ∧ Below w4.heap.size w4 w' := fun dd =>
    (c138 (w := (w4.drewN dd).drew) hq.is hp.is (by omega) (by omega)).mono fun r w' ⟨v, e1, o1, o2⟩ => ⟨v, e1, o1, Below.trans (b := (w4.drewN dd).drew) ⟨rfl, rfl, rfl, Nat.le_refl _, fun _ _ => rfl⟩ o2⟩
  have hKeep : ∀ w', Below w4.heap.size w4 w' → w'.cell? ⟨w.heap.size + 1, 0, none⟩ = some (.bool nb) := fun w' hb => (hb.cell (World.block_lt_of_cell? _ _ b0)).trans b0
  have HK : Hid (∀ w', Below w4.heap.size w4 w' → w'.cell? ⟨w.heap.size + 1, 0, none⟩ = some (.bool nb)) := hKeep
  have k56 : ∀ v5 w5, Own w5 w4.heap.size v5 (Y - X) → Below w4.heap.size w4 w5 → Calls Tryz.prog 79 #[.bool nb, v5, .int .i64 e] w5 fun r w' => ∃ s ao n cap ex, r = .returned (.agg #[.bool s, .slice ao n cap, .int .i64 ex]) ∧
      Hid (Nrm w' w5.heap.size (.agg #[.bool s, .slice ao n cap, .int .i64 ex]) nb (Y - X) e ∧ w4.heap.size ≤ w5.heap.size) ∧ Below w4.heap.size w4 w' ∧ Hid (w'.heap[w.heap.size + 1 + 1]? = some (.cells #[.bool false, .slice none 0 0, .int .i64 0] 28 (0, 0))) ∧
      (w'.cell? ⟨w.heap.size + 1 + 1, 0, none⟩ = some (.bool false) ∧ w'.cell? ⟨w.heap.size + 1 + 1, 1, none⟩ = some (.slice none 0 0) ∧ w'.cell? ⟨w.heap.size + 1 + 1, 2, none⟩ = some (.int .i64 0)) ∧ (w'.frozen? ⟨w.heap.size + 1 + 1, 0, none⟩ = false ∧ w'.frozen? ⟨w.heap.size + 1 + 1, 1, none⟩ = false ∧ w'.frozen? ⟨w.heap.size + 1 + 1, 2, none⟩ = false) := by
    intro v5 w5 ho hb
    refine (c56 ho.is (Nat.le_trans (dlen_mono (Nat.sub_le ..)) (by omega)) ((hTW.later hB4).later hb) (by omega)).mono ?_
    rintro r w6 ⟨a, rfl, hN, hb6⟩
    obtain ⟨s, ao, n, cap, ex, rfl⟩ := hN.shape
    have hb46 : Below w4.heap.size w4 w6 := hb.trans (hb6.mono hb.size)
    have hblk := box_later HC4.out.1 hb46 (by have := HC4.out.2.size; omega)
    obtain ⟨f1, f2⟩ := box_cells hblk
    exact ⟨s, ao, n, cap, ex, rfl, ⟨hN, hb.size⟩, hb46, hblk, f1, f2⟩
  clear h1 h2 h3 hp hq hB4 k99 hs hBW hTW hKeep hX1 hX2 hlt
  go_wp2_with fail
  refine k129.mono ?_
  rintro r w7 ⟨rfl, dd, rfl⟩
  have k138 := k138 dd
  clear k129
  have HK2 : Hid (∀ w', Below w4.heap.size w4 w' → w'.cell? ⟨w.heap.size + 1, 0, none⟩ = some (.bool nb)) := HK.out
  have z0 : (w4.drewN dd).cell? ⟨w.heap.size + 1, 0, none⟩ = some (.bool nb) := b0
  go_wp2
  go_region_held3 (fun w' => w'.cell? ⟨w.heap.size + 1, 0, none⟩ = some (.bool nb)) (first | (with_reducible assumption) | (refine HK.out _ ?_; with_reducible assumption) | (rw [World.cell?_setCell_other _ _ _ _ (by simp), World.cell?_setCell_other _ _ _ _ (by simp), World.cell?_setCell_other _ _ _ _ (by simp)]; refine HK.out _ ?_; with_reducible assumption) | go_keep)
    (first | (go_at_call 128; refine k138.mono ?_; rintro r w5 ⟨v5, rfl, ho5, hb5⟩) | (go_at_call 79; refine (k56 _ _ ho5 hb5).mono ?_; rintro r w6 ⟨s6, ao6, n6, cap6, ex6, rfl, hN6, hb6, hblk6, ⟨x1, x2, x3⟩, x4, x5, x6⟩))
  have HF : Hid (Below w4.heap.size w4 w6) := hb6
  clear ho5 hb5 hb6 k56 k138 x1 x2 x3 x4 x5 x6 a0 a1 a2 b0 b1 b2 HK
  go_wp2
  refine bodyPost_ret (results_cell_row rfl _ _ (w.heap.size + 1 + 1) 28 #[.bool s6, .slice ao6 n6 cap6, .int .i64 ex6] (0, 0) _ rfl (store3 _ _ _ hblk6.out) Tryz.underlying28 rfl Tryz.info28) rfl ?_
  obtain ⟨-, hs, hBW, -⟩ := HH.out
  have hs4 := HC4.out.2.size
  have hs5 := hN6.out.2
  exact ⟨_, rfl, (hN6.out.1.store (by omega) _ _ _).mono (by omega), below_store3 (hBW.trans ((HC4.out.2.trans (HF.out.mono hs4)).mono hBW.size)) (by omega) _ _ _⟩
set_option maxRecDepth 200000 in
theorem c87_e (na nb : Bool) (ua va : Option Addr) (un uc vn vc X Y : Nat) (ea eb e : Int) (w : World) (hT : Tab32 w) (hlt : Y ≤ X) (hne : (na == nb) = false) (hX1 : dlen X ≤ 1000000) (hX2 : dlen Y ≤ 1000000) (he : -4000000 ≤ e ∧ e ≤ 4000000) (hn0 : ((un : Int) == 0) = false) (hn1 : ((vn : Int) == 0) = false)
    (h99 : ∀ W, Below w.heap.size w W → Calls Tryz.prog 125 #[NumV na (.slice ua un uc) ea, NumV nb (.slice va vn vc) eb] W fun r w' => ∃ p q, r = .returned (.tuple #[p, q, .int .i64 e]) ∧ Own w' W.heap.size p X ∧ Own w' W.heap.size q Y ∧ Below W.heap.size W w') :
    Calls Tryz.prog 83 #[NumV na (.slice ua un uc) ea, NumV nb (.slice va vn vc) eb] w fun r w' => ∃ a, r = .returned a ∧ Nrm w' w.heap.size a na (X - Y) e ∧ Below w.heap.size w w' := by
  obtain ⟨W, hW⟩ : ∃ W, W = ((w.alloc (.cells #[.bool na, .slice ua un uc, .int .i64 ea] 28)).alloc (.cells #[.bool nb, .slice va vn vc, .int .i64 eb] 28)).alloc (.cells #[.bool false, .slice none 0 0, .int .i64 0] 28) := ⟨_, rfl⟩
  obtain ⟨hA, hBb, hC, hsz, hBW⟩ := boxes3 _ _ _ hW
  have k99 := h99 W hBW
  have HH : Hid ((W.heap[w.heap.size]? = some (.cells #[.bool na, .slice ua un uc, .int .i64 ea] 28 (0, 0)) ∧ W.heap[w.heap.size + 1]? = some (.cells #[.bool nb, .slice va vn vc, .int .i64 eb] 28 (0, 0)) ∧ W.heap[w.heap.size + 1 + 1]? = some (.cells #[.bool false, .slice none 0 0, .int .i64 0] 28 (0, 0))) ∧ W.heap.size = w.heap.size + 1 + 1 + 1 ∧ Below w.heap.size w W ∧ Tab32 W) := ⟨⟨hA, hBb, hC⟩, hsz, hBW, hT.later hBW⟩
  unfold NumV at *
  clear hT hA hBb hC hsz hBW h99
  go_enter Tryz.func83, Tryz.ntmps83
  go_wp2_with fail
  rw [← hW]
  clear hW
  refine k99.mono ?_
  rintro r w4 ⟨p, q, rfl, hp, hq, hB4⟩
  obtain ⟨⟨h1, h2, h3⟩, hs, hBW, hTW⟩ := HH.out
  obtain ⟨⟨a0, a1, a2⟩, -⟩ := box_cells (box_later h1 hB4 (by omega))
  obtain ⟨⟨b0, b1, b2⟩, -⟩ := box_cells (box_later h2 hB4 (by omega))
  have HC4 : Hid (w4.heap[w.heap.size + 1 + 1]? = some (.cells #[.bool false, .slice none 0 0, .int .i64 0] 28 (0, 0)) ∧ Below W.heap.size W w4) := ⟨box_later h3 hB4 (by omega), hB4⟩
  have k129 := c129 hp.is hq.is (by omega) (by omega)
  have hcm : ¬ cmpI (X : Int) (Y : Int) < 0 := by unfold cmpI; rw [if_neg (by omega)]; split <;> omega
  generalize cmpI (X : Int) (Y : Int) = cv at *
  have k138 : ∀ dd, Calls Tryz.prog 128 #[p, q] (w4.drewN dd).drew fun r w' => ∃ v, r = .returned v ∧ Own w' w4.heap.size v (X - Y) ∧ Below w4.heap.size w4 w' := fun dd =>
    (c138 (w := (w4.drewN dd).drew) hp.is hq.is (by omega) (by omega)).mono fun r w' ⟨v, e1, o1, o2⟩ => ⟨v, e1, o1, Below.trans (b := (w4.drewN dd).drew) ⟨rfl, rfl, rfl, Nat.le_refl _, fun _ _ => rfl⟩ o2⟩
  have hKeep : ∀ w', Below w4.heap.size w4 w' → w'.cell? ⟨w.heap.size, 0, none⟩ = some (.bool na) := fun w' hb => (hb.cell (World.block_lt_of_cell? _ _ a0)).trans a0
  have HK : Hid (∀ w', Below w4.heap.size w4 w' → w'.cell? ⟨w.heap.size, 0, none⟩ = some (.bool na)) := hKeep
  have k56 : ∀ v5 w5, Own w5 w4.heap.size v5 (X - Y) → Below w4.heap.size w4 w5 → Calls Tryz.prog 79 #[.bool na, v5, .int .i64 e] w5 fun r w' => ∃ s ao n cap ex, r = .returned (.agg #[.bool s, .slice ao n cap, .int .i64 ex]) ∧
      Hid (Nrm w' w5.heap.size (.agg #[.bool s, .slice ao n cap, .int .i64 ex]) na (X - Y) e ∧ w4.heap.size ≤ w5.heap.size) ∧ Below w4.heap.size w4 w' ∧ Hid (w'.heap[w.heap.size + 1 + 1]? = some (.cells #[.bool false, .slice none 0 0, .int .i64 0] 28 (0, 0))) ∧
      (w'.cell? ⟨w.heap.size + 1 + 1, 0, none⟩ = some (.bool false) ∧ w'.cell? ⟨w.heap.size + 1 + 1, 1, none⟩ = some (.slice none 0 0) ∧ w'.cell? ⟨w.heap.size + 1 + 1, 2, none⟩ = some (.int .i64 0)) ∧ (w'.frozen? ⟨w.heap.size + 1 + 1, 0, none⟩ = false ∧ w'.frozen? ⟨w.heap.size + 1 + 1, 1, none⟩ = false ∧ w'.frozen? ⟨w.heap.size + 1 + 1, 2, none⟩ = false) := by
    intro v5 w5 ho hb
    refine (c56 ho.is (Nat.le_trans (dlen_mono (Nat.sub_le ..)) (by omega)) ((hTW.later hB4).later hb) (by omega)).mono ?_
    rintro r w6 ⟨a, rfl, hN, hb6⟩
    obtain ⟨s, ao, n, cap, ex, rfl⟩ := hN.shape
    have hb46 : Below w4.heap.size w4 w6 := hb.trans (hb6.mono hb.size)
    have hblk := box_later HC4.out.1 hb46 (by have := HC4.out.2.size; omega)
    obtain ⟨f1, f2⟩ := box_cells hblk
    exact ⟨s, ao, n, cap, ex, rfl, ⟨hN, hb.size⟩, hb46, hblk, f1, f2⟩
  clear h1 h2 h3 hp hq hB4 k99 hs hBW hTW hKeep hX1 hX2 hlt
  go_wp2_with fail
  refine k129.mono ?_
  rintro r w7 ⟨rfl, dd, rfl⟩
  have k138 := k138 dd
  clear k129
  have HK2 : Hid (∀ w', Below w4.heap.size w4 w' → w'.cell? ⟨w.heap.size, 0, none⟩ = some (.bool na)) := HK.out
  have z0 : (w4.drewN dd).cell? ⟨w.heap.size, 0, none⟩ = some (.bool na) := a0
  go_wp2
  go_region_held3 (fun w' => w'.cell? ⟨w.heap.size, 0, none⟩ = some (.bool na)) (first | (with_reducible assumption) | (refine HK.out _ ?_; with_reducible assumption) | (rw [World.cell?_setCell_other _ _ _ _ (by simp), World.cell?_setCell_other _ _ _ _ (by simp), World.cell?_setCell_other _ _ _ _ (by simp)]; refine HK.out _ ?_; with_reducible assumption) | go_keep)
    (first | (go_at_call 128; refine k138.mono ?_; rintro r w5 ⟨v5, rfl, ho5, hb5⟩) | (go_at_call 79; refine (k56 _ _ ho5 hb5).mono ?_; rintro r w6 ⟨s6, ao6, n6, cap6, ex6, rfl, hN6, hb6, hblk6, ⟨x1, x2, x3⟩, x4, x5, x6⟩))
  have HF : Hid (Below w4.heap.size w4 w6) := hb6
  clear ho5 hb5 hb6 k56 k138 x1 x2 x3 x4 x5 x6 a0 a1 a2 b0 b1 b2 HK
  go_wp2
  refine bodyPost_ret (results_cell_row rfl _ _ (w.heap.size + 1 + 1) 28 #[.bool s6, .slice ao6 n6 cap6, .int .i64 ex6] (0, 0) _ rfl (store3 _ _ _ hblk6.out) Tryz.underlying28 rfl Tryz.info28) rfl ?_
  obtain ⟨-, hs, hBW, -⟩ := HH.out
  have hs4 := HC4.out.2.size
  have hs5 := hN6.out.2
  exact ⟨_, rfl, (hN6.out.1.store (by omega) _ _ _).mono (by omega), below_store3 (hBW.trans ((HC4.out.2.trans (HF.out.mono hs4)).mono hBW.size)) (by omega) _ _ _⟩
def sumN (na : Bool) (x : Nat) (ea : Int) (nb : Bool) (y : Nat) (eb : Int) : Bool × Nat × Int :=
  if x = 0 then (nb, y, eb) else if y = 0 then (na, x, ea) else
    if na = nb then (na, x * 2 ^ (ea - min ea eb).toNat + y * 2 ^ (eb - min ea eb).toNat, min ea eb)
    else if x * 2 ^ (ea - min ea eb).toNat < y * 2 ^ (eb - min ea eb).toNat then (nb, y * 2 ^ (eb - min ea eb).toNat - x * 2 ^ (ea - min ea eb).toNat, min ea eb)
    else (na, x * 2 ^ (ea - min ea eb).toNat - y * 2 ^ (eb - min ea eb).toNat, min ea eb)
theorem len_ne {x n : Nat} (hx : x ≠ 0) : ((dlen x : Int) == 0) = false := by
  have : dlen x ≠ 0 := fun e => hx (dlen_eq_zero.1 e)
  simp; omega
theorem dlen_add_le (x y : Nat) : dlen (x + y) ≤ max (dlen x) (dlen y) + 1 := by
  rw [dlen_le, Bpow_succ]
  have h1 := (dlen_le (max (dlen x) (dlen y)) x).1 (by omega)
  have h2 := (dlen_le (max (dlen x) (dlen y)) y).1 (by omega)
  have : B ^ max (dlen x) (dlen y) * 2 ≤ B ^ max (dlen x) (dlen y) * B := Nat.mul_le_mul_left _ (by unfold B; omega)
  omega
theorem c87 {na nb : Bool} {u v : Value} {x y : Nat} {ea eb : Int} {w : World} (h1 : Is w u x) (h2 : Is w v y) (hx : dlen x ≤ 500000) (hy : dlen y ≤ 500000) (ha : -4000000 ≤ ea ∧ ea ≤ 4000000) (hb : -4000000 ≤ eb ∧ eb ≤ 4000000) (hT : Tab32 w) :
    Calls Tryz.prog 83 #[NumV na u ea, NumV nb v eb] w fun r w' => ∃ a, r = .returned a ∧ Nrm w' w.heap.size a (sumN na x ea nb y eb).1 (sumN na x ea nb y eb).2.1 (sumN na x ea nb y eb).2.2 ∧ Below w.heap.size w w' := by
  have h1' := h1
  have h2' := h2
  obtain ⟨ua, uc, rfl, -, -, -⟩ := h1'
  obtain ⟨va, vc, rfl, -, -, -⟩ := h2'
  unfold sumN
  by_cases x0 : x = 0
  · subst x0
    rw [if_pos rfl, dlen_zero]
    exact c87_a na nb ua va uc _ vc y ea eb w hT h2 (by omega) hb
  · rw [if_neg x0]
    by_cases y0 : y = 0
    · subst y0
      rw [if_pos rfl, dlen_zero]
      exact c87_b na nb ua va _ uc vc x ea eb w hT h1 (by omega) ha (len_ne (n := 0) x0)
    · rw [if_neg y0]
      have hm : -4000000 ≤ min ea eb ∧ min ea eb ≤ 4000000 := by omega
      have l1 : dlen (x * 2 ^ (ea - min ea eb).toNat) ≤ 760000 := by have := shl_len (x := x) (k := (ea - min ea eb).toNat) rfl; omega
      have l2 : dlen (y * 2 ^ (eb - min ea eb).toNat) ≤ 760000 := by have := shl_len (x := y) (k := (eb - min ea eb).toNat) rfl; omega
      have h99 : ∀ W, Below w.heap.size w W → Calls Tryz.prog 125 #[NumV na (.slice ua (dlen x) uc) ea, NumV nb (.slice va (dlen y) vc) eb] W fun r w' => ∃ p q, r = .returned (.tuple #[p, q, .int .i64 (min ea eb)]) ∧ Own w' W.heap.size p (x * 2 ^ (ea - min ea eb).toNat) ∧ Own w' W.heap.size q (y * 2 ^ (eb - min ea eb).toNat) ∧ Below W.heap.size W w' :=
        fun W hW => c99 (h1.later hW) (h2.later hW) (by omega) (by omega) ha hb
      by_cases hs : na = nb
      · subst hs
        rw [if_pos rfl]
        exact c87_c na ua va _ uc _ vc _ _ ea eb _ w hT (by have := dlen_add_le (x * 2 ^ (ea - min ea eb).toNat) (y * 2 ^ (eb - min ea eb).toNat); omega) (by omega) (by omega) hm (len_ne (n := 0) x0) (len_ne (n := 0) y0) h99
      · rw [if_neg hs]
        have hne : (na == nb) = false := by simp [hs]
        by_cases hlt : x * 2 ^ (ea - min ea eb).toNat < y * 2 ^ (eb - min ea eb).toNat
        · rw [if_pos hlt]
          exact c87_d na nb ua va _ uc _ vc _ _ ea eb _ w hT hlt hne (by omega) (by omega) hm (len_ne (n := 0) x0) (len_ne (n := 0) y0) h99
        · rw [if_neg hlt]
          exact c87_e na nb ua va _ uc _ vc _ _ ea eb _ w hT (by omega) hne (by omega) (by omega) hm (len_ne (n := 0) x0) (len_ne (n := 0) y0) h99
theorem maybe2 {na nb : Bool} {ua va : Option Addr} {uc vc x y g : Nat} {ea eb : Int} {W : World} (hg : W.heap[g]? = some (.cells #[.bool na, .slice ua (dlen x) uc, .int .i64 ea, .bool nb, .slice va (dlen y) vc, .int .i64 eb] 28 (0, 0)))
    (h1 : Is W (.slice ua (dlen x) uc) x) (h2 : Is W (.slice va (dlen y) vc) y) (hx : dlen x ≤ 35184372088832) (hy : dlen y ≤ 35184372088832) :
    Calls Tryz.prog 44 #[.slice (some ⟨g, 0, none⟩) 2 2] W fun r w' => r = .returned (.bool (okN na (dlen x) x ea && okN nb (dlen y) y eb)) ∧ Below W.heap.size W w' := by
  obtain ⟨ao1, c1, e1, -, -, a1⟩ := h1
  obtain ⟨ao2, c2, e2, -, -, a2⟩ := h2
  simp only [Value.slice.injEq] at e1 e2
  obtain ⟨rfl, -, rfl⟩ := e1
  obtain ⟨rfl, -, rfl⟩ := e2
  have k := c67 g 2 (fun i => if i = 0 then na else nb) (fun i => if i = 0 then ua else va) (fun i => if i = 0 then dlen x else dlen y) (fun i => if i = 0 then uc else vc) (fun i => if i = 0 then x else y) (fun i => if i = 0 then ea else eb) W (by omega)
    (fun i hi => by rcases (show i = 0 ∨ i = 1 by omega) with rfl | rfl <;> simp [World.cell?, hg])
    (fun i hi => by rcases (show i = 0 ∨ i = 1 by omega) with rfl | rfl <;> simp [World.cell?, hg])
    (fun i hi => by rcases (show i = 0 ∨ i = 1 by omega) with rfl | rfl <;> simp [World.cell?, hg])
    (fun i hi => by rcases (show i = 0 ∨ i = 1 by omega) with rfl | rfl <;> simp <;> assumption)
    (fun i hi => by rcases (show i = 0 ∨ i = 1 by omega) with rfl | rfl <;> simp <;> omega)
  refine k.mono ?_
  rintro r w' ⟨rfl, hb⟩
  refine ⟨congrArg Ending.returned (congrArg Value.bool ?_), hb⟩
  rw [Bool.eq_iff_iff]
  simp only [decide_eq_true_eq, Bool.and_eq_true]
  constructor
  · intro h
    have h0 := h 0 (by omega)
    have h1 := h 1 (by omega)
    simp at h0 h1
    exact ⟨h0, h1⟩
  · rintro ⟨h0, h1⟩ i hi
    rcases (show i = 0 ∨ i = 1 by omega) with rfl | rfl
    · simpa using h0
    · simpa using h1
def okR (s : Bool) (z : Nat) (e : Int) : Bool := if z = 0 then true else okN s (dlen (z / 2 ^ tz z)) (z / 2 ^ tz z) (e + tz z)
theorem c63n {s : Bool} {z : Nat} {e : Int} {A : Value} {w : World} {base : Nat} (h : Nrm w base A s z e) (hz : dlen z ≤ 35184372088832) :
    Calls Tryz.prog 82 #[A] w fun r w' => r = .returned (.tuple #[if okR s z e then A else Nil, .int .i64 (if okR s z e then 0 else 2)]) ∧ Below w.heap.size w w' := by
  unfold okR
  rcases h with ⟨rfl, rfl⟩ | ⟨h0, v, rfl, ho⟩
  · have := c63 (neg := false) (cap := 0) (e := 0) (w := w) (ao := none) (n := 0) (z := 0) ⟨0, 0, fun h => by omega, fun i hi => by omega⟩ (by omega)
    have e0 : okN false 0 0 0 = true := rfl
    rw [e0] at this
    simpa [NumV] using this
  · obtain ⟨ao, cap, rfl, -, -, ha⟩ := ho.is
    rw [if_neg h0]
    exact c63 ha (Nat.le_trans (dlen_mono (Nat.div_le_self ..)) hz)
def Held (w : World) (s : Bool) (z : Nat) (e : Int) (r : Ending) (w' : World) : Prop :=
  ∃ A, r = .returned (.tuple #[if okR s z e then A else Nil, .int .i64 (if okR s z e then 0 else 2)]) ∧ Nrm w' w.heap.size A s z e ∧ Below w.heap.size w w'
set_option maxRecDepth 200000 in
theorem c34_1 (na nb : Bool) (ua va : Option Addr) (un uc vn vc x y z : Nat) (ea eb e : Int) (s : Bool) (w : World) (hz : dlen z ≤ 35184372088832)
    (k67 : ∀ W g, Below w.heap.size w W → W.heap[g]? = some (.cells #[.bool na, .slice ua un uc, .int .i64 ea, .bool nb, .slice va vn vc, .int .i64 eb] 28 (0, 0)) → Calls Tryz.prog 44 #[.slice (some ⟨g, 0, none⟩) 2 2] W fun r w' => r = .returned (.bool true) ∧ Below W.heap.size W w')
    (k87 : ∀ W, Below w.heap.size w W → Calls Tryz.prog 83 #[.agg #[.bool na, .slice ua un uc, .int .i64 ea], .agg #[.bool nb, .slice va vn vc, .int .i64 eb]] W fun r w' => ∃ a, r = .returned a ∧ Nrm w' W.heap.size a s z e ∧ Below W.heap.size W w') :
    Calls Tryz.prog 39 #[NumV na (.slice ua un uc) ea, NumV nb (.slice va vn vc) eb] w fun r w' => Held w s z e r w' := by
  obtain ⟨W, hW⟩ : ∃ W, W = ((w.alloc (.cells #[.bool na, .slice ua un uc, .int .i64 ea] 28)).alloc (.cells #[.bool nb, .slice va vn vc, .int .i64 eb] 28)).alloc (.cells #[.bool false, .slice none 0 0, .int .i64 0] 28) := ⟨_, rfl⟩
  obtain ⟨hA, hBb, hC, hsz, hBW⟩ := boxes3 _ _ _ hW
  have hB4 : Below w.heap.size w (W.alloc (.cells #[.bool na, .slice ua un uc, .int .i64 ea, .bool nb, .slice va vn vc, .int .i64 eb] 28)) := hBW.alloc hBW.size _
  have k1 := k67 (W.alloc (.cells #[.bool na, .slice ua un uc, .int .i64 ea, .bool nb, .slice va vn vc, .int .i64 eb] 28)) (w.heap.size + 1 + 1 + 1) hB4 (by rw [← hsz]; exact heap_alloc_new _ _)
  have HH : Hid ((W.heap[w.heap.size]? = some (.cells #[.bool na, .slice ua un uc, .int .i64 ea] 28 (0, 0)) ∧ W.heap[w.heap.size + 1]? = some (.cells #[.bool nb, .slice va vn vc, .int .i64 eb] 28 (0, 0)) ∧ W.heap[w.heap.size + 1 + 1]? = some (.cells #[.bool false, .slice none 0 0, .int .i64 0] 28 (0, 0))) ∧ W.heap.size = w.heap.size + 1 + 1 + 1 ∧ Below w.heap.size w W ∧ Below W.heap.size W (W.alloc (.cells #[.bool na, .slice ua un uc, .int .i64 ea, .bool nb, .slice va vn vc, .int .i64 eb] 28))) := ⟨⟨hA, hBb, hC⟩, hsz, hBW, (Below.refl _ _).alloc (Nat.le_refl _) _⟩
  have HZ : Hid (dlen z ≤ 35184372088832) := hz
  have HK87 : Hid _ := k87
  unfold NumV
  clear hA hBb hC hsz hBW hB4 k67 k87 hz
  go_enter Tryz.func39, Tryz.ntmps39
  go_wp2_with fail
  rw [← hW]
  clear hW
  refine k1.mono ?_
  rintro r w1 ⟨rfl, hB1⟩
  clear k1
  have hBW1 : Below W.heap.size W w1 := HH.out.2.2.2.trans (hB1.mono HH.out.2.2.2.size)
  obtain ⟨⟨a0, a1, a2⟩, -⟩ := box_cells (box_later HH.out.1.1 hBW1 (by have := HH.out.2.1; omega))
  obtain ⟨⟨b0, b1, b2⟩, -⟩ := box_cells (box_later HH.out.1.2.1 hBW1 (by have := HH.out.2.1; omega))
  have HB1 : Hid (Below W.heap.size W w1) := hBW1
  clear hB1 hBW1
  go_wp2_with fail
  refine (HK87.out w1 (HH.out.2.2.1.trans (HB1.out.mono HH.out.2.2.1.size))).mono ?_
  rintro r w2 ⟨A, rfl, hN, hB2⟩
  have HB2 : Hid (Below W.heap.size W w2) := HB1.out.trans (hB2.mono HB1.out.size)
  have HN : Hid (Nrm w2 W.heap.size A s z e) := hN.mono HB1.out.size
  clear hN hB2 a0 a1 a2 b0 b1 b2
  go_wp2_with fail
  refine (c63n HN.out HZ.out).mono ?_
  rintro r w3 ⟨rfl, hB3⟩
  have HB3 : Hid (Below W.heap.size W w3) := HB2.out.trans (hB3.mono HB2.out.size)
  have HN3 : Hid (Nrm w3 W.heap.size A s z e) := by
    rcases HN.out with h | ⟨h0, v, h1, ho⟩
    · exact .inl h
    · exact .inr ⟨h0, v, h1, ho.later hB3⟩
  have HC3 : Hid (w3.heap[w.heap.size + 1 + 1]? = some (.cells #[.bool false, .slice none 0 0, .int .i64 0] 28 (0, 0))) := box_later HH.out.1.2.2 HB3.out (by have := HH.out.2.1; omega)
  obtain ⟨⟨x1, x2, x3⟩, x4, x5, x6⟩ := box_cells HC3.out
  obtain ⟨s', ao, n, cap, ex, hsh⟩ := HN3.out.shape
  have HSH : Hid (A = .agg #[.bool s', .slice ao n cap, .int .i64 ex]) := hsh
  clear hB3
  cases hok : okR s z e
  · clear hsh
    have hNil : Nil = .agg #[.bool false, .slice none 0 0, .int .i64 0] := rfl
    go_wp2
    refine bodyPost_ret (results_cell_tmp_row rfl _ _ (w.heap.size + 1 + 1) 28 #[.bool false, .slice none 0 0, .int .i64 0] (0, 0) _ rfl (store3 _ _ _ HC3.out) Tryz.underlying28 rfl Tryz.info28) rfl ?_
    obtain ⟨-, hs, hBW, -⟩ := HH.out
    exact ⟨A, by rw [hok]; rfl, (HN3.out.store (by omega) _ _ _).mono (by omega), below_store3 (hBW.trans (HB3.out.mono hBW.size)) (by omega) _ _ _⟩
  · subst hsh
    go_wp2
    refine bodyPost_ret (results_cell_tmp_row rfl _ _ (w.heap.size + 1 + 1) 28 #[.bool s', .slice ao n cap, .int .i64 ex] (0, 0) _ rfl (store3 _ _ _ HC3.out) Tryz.underlying28 rfl Tryz.info28) rfl ?_
    obtain ⟨-, hs, hBW, -⟩ := HH.out
    exact ⟨_, by rw [hok]; rfl, (HN3.out.store (by omega) _ _ _).mono (by omega), below_store3 (hBW.trans (HB3.out.mono hBW.size)) (by omega) _ _ _⟩
end Go.Proofs.YtcdkkpjilgmncaaGreatDoor
namespace Go.Proofs.YtcdkkpjilgmncaaGreatDoor
set_option linter.unusedVariables false
set_option linter.unusedSimpArgs false
open Go.RowKit
set_option maxRecDepth 200000 in
theorem c12_1 (n : Int) (m : Nat) (w : World) (hT : Tab32 w) (hm : m < 18446744073709551616) (hn : 0 ≤ n) (hw : IntKind.u64.wrap n = (m : Int)) :
    Calls Tryz.prog 37 #[.int .i64 n] w fun r w' => ∃ a, r = .returned a ∧ Nrm w' w.heap.size a false m 0 ∧ Below w.heap.size w w' := by
  have hB0 : Below w.heap.size w (w.alloc (.cells #[.bool false, .slice none 0 0, .int .i64 0] 28)) := (Below.refl _ _).alloc (Nat.le_refl _) _
  have k57 := c57 m (w.alloc (.cells #[.bool false, .slice none 0 0, .int .i64 0] 28)) hm
  have hT0 := hT.later hB0
  have HB0 : Hid (Below w.heap.size w (w.alloc (.cells #[.bool false, .slice none 0 0, .int .i64 0] 28)) ∧ (w.alloc (.cells #[.bool false, .slice none 0 0, .int .i64 0] 28)).heap[w.heap.size]? = some (.cells #[.bool false, .slice none 0 0, .int .i64 0] 28 (0, 0)) ∧ Tab32 (w.alloc (.cells #[.bool false, .slice none 0 0, .int .i64 0] 28)) ∧ m < 18446744073709551616) := ⟨hB0, heap_alloc_new _ _, hT0, hm⟩
  have HS : Hid ((w.alloc (.cells #[.bool false, .slice none 0 0, .int .i64 0] 28)).heap.size = w.heap.size + 1) := (by simp : (w.alloc (.cells #[.bool false, .slice none 0 0, .int .i64 0] 28)).heap.size = w.heap.size + 1)
  clear hB0 hT hT0 hm
  have hd : decide (n < 0) = false := decide_eq_false (by omega)
  go_enter Tryz.func37, Tryz.ntmps37
  go_wp2_with fail
  (try rw [hw])
  generalize w.alloc (.cells #[.bool false, .slice none 0 0, .int .i64 0] 28) = W at *
  refine k57.mono ?_
  rintro r w1 ⟨v, rfl, hO, hB1⟩
  clear k57
  have hl : dlen m ≤ 2 := (dlen_le 2 m).2 (by have := HB0.out.2.2.2; unfold B; omega)
  have k56 := c56 (neg := false) (e := 0) hO.is (by omega) (HB0.out.2.2.1.later hB1) (by omega)
  have HB1 : Hid (Below W.heap.size W w1) := hB1
  clear hO hB1 hl
  go_wp2_with fail
  refine k56.mono ?_
  rintro r w3 ⟨a, rfl, hN, hB3⟩
  clear k56
  obtain ⟨s, ao, n', cap, ex, rfl⟩ := hN.shape
  have HB3 : Hid (Below W.heap.size W w3) := HB1.out.trans (hB3.mono HB1.out.size)
  have HC3 : Hid (w3.heap[w.heap.size]? = some (.cells #[.bool false, .slice none 0 0, .int .i64 0] 28 (0, 0))) := box_later HB0.out.2.1 HB3.out (by have := HS.out; omega)
  obtain ⟨⟨a1, a2, a3⟩, a4, a5, a6⟩ := box_cells HC3.out
  have HN : Hid (Nrm w3 W.heap.size (.agg #[.bool s, .slice ao n' cap, .int .i64 ex]) false m 0) := hN.mono HB1.out.size
  clear hN hB3
  go_wp2
  refine bodyPost_ret (results_cell_row rfl _ _ w.heap.size 28 #[.bool s, .slice ao n' cap, .int .i64 ex] (0, 0) _ rfl (store3 _ _ _ HC3.out) Tryz.underlying28 rfl Tryz.info28) rfl ?_
  have hs := HS.out
  exact ⟨_, rfl, (HN.out.store (by omega) _ _ _).mono (by omega), below_store3 (HB0.out.1.trans (HB3.out.mono (by omega))) (Nat.le_refl _) _ _ _⟩
set_option maxRecDepth 200000 in
theorem c12_2 (n : Int) (m : Nat) (w : World) (hT : Tab32 w) (hm : m < 18446744073709551616) (hn : n < 0) (hw : IntKind.u64.wrap (-IntKind.u64.wrap n) = (m : Int)) :
    Calls Tryz.prog 37 #[.int .i64 n] w fun r w' => ∃ a, r = .returned a ∧ Nrm w' w.heap.size a true m 0 ∧ Below w.heap.size w w' := by
  have hB0 : Below w.heap.size w (w.alloc (.cells #[.bool false, .slice none 0 0, .int .i64 0] 28)) := (Below.refl _ _).alloc (Nat.le_refl _) _
  have k57 := c57 m (w.alloc (.cells #[.bool false, .slice none 0 0, .int .i64 0] 28)) hm
  have hT0 := hT.later hB0
  have HB0 : Hid (Below w.heap.size w (w.alloc (.cells #[.bool false, .slice none 0 0, .int .i64 0] 28)) ∧ (w.alloc (.cells #[.bool false, .slice none 0 0, .int .i64 0] 28)).heap[w.heap.size]? = some (.cells #[.bool false, .slice none 0 0, .int .i64 0] 28 (0, 0)) ∧ Tab32 (w.alloc (.cells #[.bool false, .slice none 0 0, .int .i64 0] 28)) ∧ m < 18446744073709551616) := ⟨hB0, heap_alloc_new _ _, hT0, hm⟩
  have HS : Hid ((w.alloc (.cells #[.bool false, .slice none 0 0, .int .i64 0] 28)).heap.size = w.heap.size + 1) := (by simp : (w.alloc (.cells #[.bool false, .slice none 0 0, .int .i64 0] 28)).heap.size = w.heap.size + 1)
  clear hB0 hT hT0 hm
  go_enter Tryz.func37, Tryz.ntmps37
  go_wp2_with fail
  (try rw [hw])
  generalize w.alloc (.cells #[.bool false, .slice none 0 0, .int .i64 0] 28) = W at *
  refine k57.mono ?_
  rintro r w1 ⟨v, rfl, hO, hB1⟩
  clear k57
  have hl : dlen m ≤ 2 := (dlen_le 2 m).2 (by have := HB0.out.2.2.2; unfold B; omega)
  have k56 := c56 (neg := true) (e := 0) hO.is (by omega) (HB0.out.2.2.1.later hB1) (by omega)
  have HB1 : Hid (Below W.heap.size W w1) := hB1
  clear hO hB1 hl
  go_wp2_with fail
  refine k56.mono ?_
  rintro r w3 ⟨a, rfl, hN, hB3⟩
  clear k56
  obtain ⟨s, ao, n', cap, ex, rfl⟩ := hN.shape
  have HB3 : Hid (Below W.heap.size W w3) := HB1.out.trans (hB3.mono HB1.out.size)
  have HC3 : Hid (w3.heap[w.heap.size]? = some (.cells #[.bool false, .slice none 0 0, .int .i64 0] 28 (0, 0))) := box_later HB0.out.2.1 HB3.out (by have := HS.out; omega)
  obtain ⟨⟨a1, a2, a3⟩, a4, a5, a6⟩ := box_cells HC3.out
  have HN : Hid (Nrm w3 W.heap.size (.agg #[.bool s, .slice ao n' cap, .int .i64 ex]) true m 0) := hN.mono HB1.out.size
  clear hN hB3
  go_wp2
  refine bodyPost_ret (results_cell_row rfl _ _ w.heap.size 28 #[.bool s, .slice ao n' cap, .int .i64 ex] (0, 0) _ rfl (store3 _ _ _ HC3.out) Tryz.underlying28 rfl Tryz.info28) rfl ?_
  have hs := HS.out
  exact ⟨_, rfl, (HN.out.store (by omega) _ _ _).mono (by omega), below_store3 (HB0.out.1.trans (HB3.out.mono (by omega))) (Nat.le_refl _) _ _ _⟩
theorem c12 {n : Int} {w : World} (hT : Tab32 w) (hn : -9223372036854775808 ≤ n ∧ n ≤ 9223372036854775807) :
    Calls Tryz.prog 37 #[.int .i64 n] w fun r w' => ∃ a, r = .returned a ∧ Nrm w' w.heap.size a (decide (n < 0)) n.natAbs 0 ∧ Below w.heap.size w w' := by
  by_cases h : n < 0
  · rw [decide_eq_true h]
    exact c12_2 n n.natAbs w hT (by omega) h (by rw [IntKind.wrap_u64, IntKind.wrap_u64]; omega)
  · rw [decide_eq_false h]
    exact c12_1 n n.natAbs w hT (by omega) (by omega) (by rw [IntKind.wrap_u64]; omega)
end Go.Proofs.YtcdkkpjilgmncaaGreatDoor
namespace Go.Proofs.YtcdkkpjilgmncaaGreatDoor
set_option linter.unusedVariables false
set_option linter.unusedSimpArgs false
open Go.RowKit
theorem results_cell_tmp2_row {P : Program} {fn : Func} {p u v : Tmp} {ty : TypeId} (h : fn.results = #[.cell p ty, .tmp u, .tmp v]) (tmps : Array Value) (w : World) (g : Nat) (t : TypeId) (cs : Array Value) (fr : Nat × Nat) (d : TypeDesc)
    (hp : tmps.getD p undef = .pointer (some ⟨g, 0, none⟩)) (hg : w.heap[g]? = some (.cells cs t fr))
    (hu : P.underlying ty = some d) (hd : (match d with | .struct _ | .array _ _ => true | _ => false) = true) (hi : (P.info? ty).map (·.size) = some cs.size) :
    (results fn tmps).run P w = .ok (.tuple #[.agg cs, tmps.getD u undef, tmps.getD v undef]) w := by
  have hp' : tmps[p]?.getD undef = .pointer (some ⟨g, 0, none⟩) := by simpa using hp
  simp [results, h, hp', asAddr, run_loadVar_row w g t ty cs fr d hg hu hd hi]
def Held3 (w : World) (s : Bool) (z : Nat) (e : Int) (x : Bool) (r : Ending) (w' : World) : Prop :=
  ∃ A, r = .returned (.tuple #[if okR s z e then A else Nil, .bool (x && okR s z e), .int .i64 (if okR s z e then 0 else 2)]) ∧ Nrm w' w.heap.size A s z e ∧ Below w.heap.size w w'
set_option maxRecDepth 200000 in
theorem c96_ff (v : Value) (x : Nat) (place : Int) (w : World) (hT : Tab32 w) (h : Is w v x) (hx : dlen x ≤ 1000000) (hp1 : -4000000 ≤ place) (hp2 : place ≤ 4000000) :
    Calls Tryz.prog 126 #[.bool false, v, .int .i64 place, .bool false] w fun r w' => Held3 w false x (-place) false r w' := by
  obtain ⟨W, hW⟩ : ∃ W, W = w.alloc (.cells #[.bool false, .slice none 0 0, .int .i64 0] 28) := ⟨_, rfl⟩
  have hBW : Below w.heap.size w W := by rw [hW]; exact (Below.refl _ _).alloc (Nat.le_refl _) _
  have hC : W.heap[w.heap.size]? = some (.cells #[.bool false, .slice none 0 0, .int .i64 0] 28 (0, 0)) := by rw [hW]; exact heap_alloc_new _ _
  have hsz : W.heap.size = w.heap.size + 1 := by rw [hW]; simp
  have k56 := c56 (neg := false) (e := -place) (h.later hBW) (by omega) (hT.later hBW) (by omega)
  have HH : Hid (W.heap[w.heap.size]? = some (.cells #[.bool false, .slice none 0 0, .int .i64 0] 28 (0, 0)) ∧ W.heap.size = w.heap.size + 1 ∧ Below w.heap.size w W ∧ dlen x ≤ 1000000) := ⟨hC, hsz, hBW, hx⟩
  have HB1 : Hid (Below W.heap.size W W) := Below.refl _ _
  clear hT h hx hBW hC hsz
  go_enter Tryz.func126, Tryz.ntmps126
  go_wp2_with fail
  rw [← hW]
  clear hW
  refine k56.mono ?_
  rintro r w2 ⟨A, rfl, hN, hB2⟩
  clear k56
  have HN : Hid (Nrm w2 W.heap.size A false x (-place)) := hN.mono HB1.out.size
  have HB2 : Hid (Below W.heap.size W w2) := HB1.out.trans (hB2.mono HB1.out.size)
  clear hN hB2
  go_wp2_with fail
  refine (c63n HN.out (by have := HH.out.2.2.2; omega)).mono ?_
  rintro r w3 ⟨rfl, hB3⟩
  have HB3 : Hid (Below W.heap.size W w3) := HB2.out.trans (hB3.mono HB2.out.size)
  have HN3 : Hid (Nrm w3 W.heap.size A false x (-place)) := by
    rcases HN.out with h | ⟨h0, v, h1, ho⟩
    · exact .inl h
    · exact .inr ⟨h0, v, h1, ho.later hB3⟩
  have HC3 : Hid (w3.heap[w.heap.size]? = some (.cells #[.bool false, .slice none 0 0, .int .i64 0] 28 (0, 0))) := box_later HH.out.1 HB3.out (by have := HH.out.2.1; omega)
  have hlt3 : w.heap.size < w3.heap.size := by have := HB3.out.size; have := HH.out.2.1; omega
  have HC4 : Hid (∀ p q r o, ((((w3.setCell ⟨w.heap.size, 0, none⟩ p).setCell ⟨w.heap.size, 1, none⟩ q).setCell ⟨w.heap.size, 2, none⟩ r).alloc o).heap[w.heap.size]? = some (.cells #[p, q, r] 28 (0, 0))) := fun p q r o => (Below.heap_alloc _ _ _ (by simp [World.setCell]; omega)).trans (store3 _ _ _ HC3.out)
  obtain ⟨⟨x1, x2, x3⟩, x4, x5, x6⟩ := box_cells HC3.out
  obtain ⟨s', ao, n, cap, ex, hsh⟩ := HN3.out.shape
  obtain ⟨-, hs, hBW, -⟩ := HH.out
  have HFIN : Hid (∀ p q r o, Nrm ((((w3.setCell ⟨w.heap.size, 0, none⟩ p).setCell ⟨w.heap.size, 1, none⟩ q).setCell ⟨w.heap.size, 2, none⟩ r).alloc o) w.heap.size A false x (-place) ∧ Below w.heap.size w ((((w3.setCell ⟨w.heap.size, 0, none⟩ p).setCell ⟨w.heap.size, 1, none⟩ q).setCell ⟨w.heap.size, 2, none⟩ r).alloc o)) := by
    intro p q r o
    have hna : Nrm ((((w3.setCell ⟨w.heap.size, 0, none⟩ p).setCell ⟨w.heap.size, 1, none⟩ q).setCell ⟨w.heap.size, 2, none⟩ r).alloc o) W.heap.size A false x (-place) := by
      rcases HN3.out.store (g := w.heap.size) (by omega) p q r with h | ⟨h0, v, h1, ho⟩
      · exact .inl h
      · exact .inr ⟨h0, v, h1, ho.later ((Below.refl _ _).alloc (Nat.le_refl _) _)⟩
    exact ⟨hna.mono (by omega), (below_store3 (hBW.trans (HB3.out.mono (by omega))) (Nat.le_refl _) _ _ _).alloc (by simp [World.setCell]; omega) _⟩
  clear hB3 hs hBW
  have HOK : Hid (okR false x (-place) = okR false x (-place)) := (rfl : _ = _)
  cases hok : okR false x (-place)
  · have hNil : Nil = .agg #[.bool false, .slice none 0 0, .int .i64 0] := rfl
    clear hsh
    go_wp2
    refine bodyPost_ret (results_cell_tmp2_row rfl _ _ w.heap.size 28 #[.bool false, .slice none 0 0, .int .i64 0] (0, 0) _ rfl (HC4.out _ _ _ _) Tryz.underlying28 rfl Tryz.info28) rfl ?_
    exact ⟨A, by rw [hok]; rfl, HFIN.out _ _ _ _⟩
  · subst hsh
    go_wp2
    refine bodyPost_ret (results_cell_tmp2_row rfl _ _ w.heap.size 28 #[.bool s', .slice ao n cap, .int .i64 ex] (0, 0) _ rfl (HC4.out _ _ _ _) Tryz.underlying28 rfl Tryz.info28) rfl ?_
    exact ⟨_, by rw [hok]; rfl, HFIN.out _ _ _ _⟩
set_option maxRecDepth 200000 in
theorem c96_ft (v : Value) (x : Nat) (place : Int) (w : World) (hT : Tab32 w) (h : Is w v x) (hx : dlen x ≤ 1000000) (hp1 : -4000000 ≤ place) (hp2 : place ≤ 4000000) :
    Calls Tryz.prog 126 #[.bool false, v, .int .i64 place, .bool true] w fun r w' => Held3 w false x (-place) true r w' := by
  obtain ⟨W, hW⟩ : ∃ W, W = w.alloc (.cells #[.bool false, .slice none 0 0, .int .i64 0] 28) := ⟨_, rfl⟩
  have hBW : Below w.heap.size w W := by rw [hW]; exact (Below.refl _ _).alloc (Nat.le_refl _) _
  have hC : W.heap[w.heap.size]? = some (.cells #[.bool false, .slice none 0 0, .int .i64 0] 28 (0, 0)) := by rw [hW]; exact heap_alloc_new _ _
  have hsz : W.heap.size = w.heap.size + 1 := by rw [hW]; simp
  have k56 := c56 (neg := false) (e := -place) (h.later hBW) (by omega) (hT.later hBW) (by omega)
  have HH : Hid (W.heap[w.heap.size]? = some (.cells #[.bool false, .slice none 0 0, .int .i64 0] 28 (0, 0)) ∧ W.heap.size = w.heap.size + 1 ∧ Below w.heap.size w W ∧ dlen x ≤ 1000000) := ⟨hC, hsz, hBW, hx⟩
  have HB1 : Hid (Below W.heap.size W W) := Below.refl _ _
  clear hT h hx hBW hC hsz
  go_enter Tryz.func126, Tryz.ntmps126
  go_wp2_with fail
  rw [← hW]
  clear hW
  refine k56.mono ?_
  rintro r w2 ⟨A, rfl, hN, hB2⟩
  clear k56
  have HN : Hid (Nrm w2 W.heap.size A false x (-place)) := hN.mono HB1.out.size
  have HB2 : Hid (Below W.heap.size W w2) := HB1.out.trans (hB2.mono HB1.out.size)
  clear hN hB2
  go_wp2_with fail
  refine (c63n HN.out (by have := HH.out.2.2.2; omega)).mono ?_
  rintro r w3 ⟨rfl, hB3⟩
  have HB3 : Hid (Below W.heap.size W w3) := HB2.out.trans (hB3.mono HB2.out.size)
  have HN3 : Hid (Nrm w3 W.heap.size A false x (-place)) := by
    rcases HN.out with h | ⟨h0, v, h1, ho⟩
    · exact .inl h
    · exact .inr ⟨h0, v, h1, ho.later hB3⟩
  have HC3 : Hid (w3.heap[w.heap.size]? = some (.cells #[.bool false, .slice none 0 0, .int .i64 0] 28 (0, 0))) := box_later HH.out.1 HB3.out (by have := HH.out.2.1; omega)
  have hlt3 : w.heap.size < w3.heap.size := by have := HB3.out.size; have := HH.out.2.1; omega
  have HC4 : Hid (∀ p q r o, ((((w3.setCell ⟨w.heap.size, 0, none⟩ p).setCell ⟨w.heap.size, 1, none⟩ q).setCell ⟨w.heap.size, 2, none⟩ r).alloc o).heap[w.heap.size]? = some (.cells #[p, q, r] 28 (0, 0))) := fun p q r o => (Below.heap_alloc _ _ _ (by simp [World.setCell]; omega)).trans (store3 _ _ _ HC3.out)
  obtain ⟨⟨x1, x2, x3⟩, x4, x5, x6⟩ := box_cells HC3.out
  obtain ⟨s', ao, n, cap, ex, hsh⟩ := HN3.out.shape
  obtain ⟨-, hs, hBW, -⟩ := HH.out
  have HFIN : Hid (∀ p q r o, Nrm ((((w3.setCell ⟨w.heap.size, 0, none⟩ p).setCell ⟨w.heap.size, 1, none⟩ q).setCell ⟨w.heap.size, 2, none⟩ r).alloc o) w.heap.size A false x (-place) ∧ Below w.heap.size w ((((w3.setCell ⟨w.heap.size, 0, none⟩ p).setCell ⟨w.heap.size, 1, none⟩ q).setCell ⟨w.heap.size, 2, none⟩ r).alloc o)) := by
    intro p q r o
    have hna : Nrm ((((w3.setCell ⟨w.heap.size, 0, none⟩ p).setCell ⟨w.heap.size, 1, none⟩ q).setCell ⟨w.heap.size, 2, none⟩ r).alloc o) W.heap.size A false x (-place) := by
      rcases HN3.out.store (g := w.heap.size) (by omega) p q r with h | ⟨h0, v, h1, ho⟩
      · exact .inl h
      · exact .inr ⟨h0, v, h1, ho.later ((Below.refl _ _).alloc (Nat.le_refl _) _)⟩
    exact ⟨hna.mono (by omega), (below_store3 (hBW.trans (HB3.out.mono (by omega))) (Nat.le_refl _) _ _ _).alloc (by simp [World.setCell]; omega) _⟩
  clear hB3 hs hBW
  have HOK : Hid (okR false x (-place) = okR false x (-place)) := (rfl : _ = _)
  cases hok : okR false x (-place)
  · have hNil : Nil = .agg #[.bool false, .slice none 0 0, .int .i64 0] := rfl
    clear hsh
    go_wp2
    refine bodyPost_ret (results_cell_tmp2_row rfl _ _ w.heap.size 28 #[.bool false, .slice none 0 0, .int .i64 0] (0, 0) _ rfl (HC4.out _ _ _ _) Tryz.underlying28 rfl Tryz.info28) rfl ?_
    exact ⟨A, by rw [hok]; rfl, HFIN.out _ _ _ _⟩
  · subst hsh
    go_wp2
    refine bodyPost_ret (results_cell_tmp2_row rfl _ _ w.heap.size 28 #[.bool s', .slice ao n cap, .int .i64 ex] (0, 0) _ rfl (HC4.out _ _ _ _) Tryz.underlying28 rfl Tryz.info28) rfl ?_
    exact ⟨_, by rw [hok]; rfl, HFIN.out _ _ _ _⟩
set_option maxRecDepth 200000 in
theorem c96_tt (v : Value) (x : Nat) (place : Int) (w : World) (hT : Tab32 w) (h : Is w v x) (hx : dlen x ≤ 1000000) (hp1 : -4000000 ≤ place) (hp2 : place ≤ 4000000) :
    Calls Tryz.prog 126 #[.bool true, v, .int .i64 place, .bool true] w fun r w' => Held3 w true x (-place) true r w' := by
  obtain ⟨W, hW⟩ : ∃ W, W = w.alloc (.cells #[.bool false, .slice none 0 0, .int .i64 0] 28) := ⟨_, rfl⟩
  have hBW : Below w.heap.size w W := by rw [hW]; exact (Below.refl _ _).alloc (Nat.le_refl _) _
  have hC : W.heap[w.heap.size]? = some (.cells #[.bool false, .slice none 0 0, .int .i64 0] 28 (0, 0)) := by rw [hW]; exact heap_alloc_new _ _
  have hsz : W.heap.size = w.heap.size + 1 := by rw [hW]; simp
  have k56 := c56 (neg := true) (e := -place) (h.later hBW) (by omega) (hT.later hBW) (by omega)
  have HH : Hid (W.heap[w.heap.size]? = some (.cells #[.bool false, .slice none 0 0, .int .i64 0] 28 (0, 0)) ∧ W.heap.size = w.heap.size + 1 ∧ Below w.heap.size w W ∧ dlen x ≤ 1000000) := ⟨hC, hsz, hBW, hx⟩
  have HB1 : Hid (Below W.heap.size W W) := Below.refl _ _
  clear hT h hx hBW hC hsz
  go_enter Tryz.func126, Tryz.ntmps126
  go_wp2_with fail
  rw [← hW]
  clear hW
  refine k56.mono ?_
  rintro r w2 ⟨A, rfl, hN, hB2⟩
  clear k56
  have HN : Hid (Nrm w2 W.heap.size A true x (-place)) := hN.mono HB1.out.size
  have HB2 : Hid (Below W.heap.size W w2) := HB1.out.trans (hB2.mono HB1.out.size)
  clear hN hB2
  go_wp2_with fail
  refine (c63n HN.out (by have := HH.out.2.2.2; omega)).mono ?_
  rintro r w3 ⟨rfl, hB3⟩
  have HB3 : Hid (Below W.heap.size W w3) := HB2.out.trans (hB3.mono HB2.out.size)
  have HN3 : Hid (Nrm w3 W.heap.size A true x (-place)) := by
    rcases HN.out with h | ⟨h0, v, h1, ho⟩
    · exact .inl h
    · exact .inr ⟨h0, v, h1, ho.later hB3⟩
  have HC3 : Hid (w3.heap[w.heap.size]? = some (.cells #[.bool false, .slice none 0 0, .int .i64 0] 28 (0, 0))) := box_later HH.out.1 HB3.out (by have := HH.out.2.1; omega)
  have hlt3 : w.heap.size < w3.heap.size := by have := HB3.out.size; have := HH.out.2.1; omega
  have HC4 : Hid (∀ p q r o, ((((w3.setCell ⟨w.heap.size, 0, none⟩ p).setCell ⟨w.heap.size, 1, none⟩ q).setCell ⟨w.heap.size, 2, none⟩ r).alloc o).heap[w.heap.size]? = some (.cells #[p, q, r] 28 (0, 0))) := fun p q r o => (Below.heap_alloc _ _ _ (by simp [World.setCell]; omega)).trans (store3 _ _ _ HC3.out)
  obtain ⟨⟨x1, x2, x3⟩, x4, x5, x6⟩ := box_cells HC3.out
  obtain ⟨s', ao, n, cap, ex, hsh⟩ := HN3.out.shape
  obtain ⟨-, hs, hBW, -⟩ := HH.out
  have HFIN : Hid (∀ p q r o, Nrm ((((w3.setCell ⟨w.heap.size, 0, none⟩ p).setCell ⟨w.heap.size, 1, none⟩ q).setCell ⟨w.heap.size, 2, none⟩ r).alloc o) w.heap.size A true x (-place) ∧ Below w.heap.size w ((((w3.setCell ⟨w.heap.size, 0, none⟩ p).setCell ⟨w.heap.size, 1, none⟩ q).setCell ⟨w.heap.size, 2, none⟩ r).alloc o)) := by
    intro p q r o
    have hna : Nrm ((((w3.setCell ⟨w.heap.size, 0, none⟩ p).setCell ⟨w.heap.size, 1, none⟩ q).setCell ⟨w.heap.size, 2, none⟩ r).alloc o) W.heap.size A true x (-place) := by
      rcases HN3.out.store (g := w.heap.size) (by omega) p q r with h | ⟨h0, v, h1, ho⟩
      · exact .inl h
      · exact .inr ⟨h0, v, h1, ho.later ((Below.refl _ _).alloc (Nat.le_refl _) _)⟩
    exact ⟨hna.mono (by omega), (below_store3 (hBW.trans (HB3.out.mono (by omega))) (Nat.le_refl _) _ _ _).alloc (by simp [World.setCell]; omega) _⟩
  clear hB3 hs hBW
  have HOK : Hid (okR true x (-place) = okR true x (-place)) := (rfl : _ = _)
  cases hok : okR true x (-place)
  · have hNil : Nil = .agg #[.bool false, .slice none 0 0, .int .i64 0] := rfl
    clear hsh
    go_wp2
    refine bodyPost_ret (results_cell_tmp2_row rfl _ _ w.heap.size 28 #[.bool false, .slice none 0 0, .int .i64 0] (0, 0) _ rfl (HC4.out _ _ _ _) Tryz.underlying28 rfl Tryz.info28) rfl ?_
    exact ⟨A, by rw [hok]; rfl, HFIN.out _ _ _ _⟩
  · subst hsh
    go_wp2
    refine bodyPost_ret (results_cell_tmp2_row rfl _ _ w.heap.size 28 #[.bool s', .slice ao n cap, .int .i64 ex] (0, 0) _ rfl (HC4.out _ _ _ _) Tryz.underlying28 rfl Tryz.info28) rfl ?_
    exact ⟨_, by rw [hok]; rfl, HFIN.out _ _ _ _⟩
theorem dlen_one : dlen 1 = 1 := dlen_eq (by unfold B; omega) (.inr (by simp))
set_option maxRecDepth 200000 in
theorem c96_tf (v : Value) (x : Nat) (place : Int) (w : World) (hT : Tab32 w) (h : Is w v x) (hx : dlen x ≤ 900000) (hp1 : -4000000 ≤ place) (hp2 : place ≤ 4000000) :
    Calls Tryz.prog 126 #[.bool true, v, .int .i64 place, .bool false] w fun r w' => Held3 w true (x + 1) (-place) false r w' := by
  obtain ⟨W, hW⟩ : ∃ W, W = w.alloc (.cells #[.bool false, .slice none 0 0, .int .i64 0] 28) := ⟨_, rfl⟩
  have hBW : Below w.heap.size w W := by rw [hW]; exact (Below.refl _ _).alloc (Nat.le_refl _) _
  have hC : W.heap[w.heap.size]? = some (.cells #[.bool false, .slice none 0 0, .int .i64 0] 28 (0, 0)) := by rw [hW]; exact heap_alloc_new _ _
  have hsz : W.heap.size = w.heap.size + 1 := by rw [hW]; simp
  have HH : Hid (W.heap[w.heap.size]? = some (.cells #[.bool false, .slice none 0 0, .int .i64 0] 28 (0, 0)) ∧ W.heap.size = w.heap.size + 1 ∧ Below w.heap.size w W ∧ dlen x ≤ 900000) := ⟨hC, hsz, hBW, hx⟩
  have HI : Hid (Is W v x ∧ Tab32 W) := ⟨h.later hBW, hT.later hBW⟩
  clear hT h hx hBW hC hsz
  go_enter Tryz.func126, Tryz.ntmps126
  go_wp2_with fail
  rw [← hW]
  clear hW
  refine (c57 1 W (by omega)).mono ?_
  rintro r wa ⟨v1, rfl, hO1, hBa⟩
  have hIa := HI.out.1.later hBa
  go_wp2_with fail
  refine (c122 hIa hO1.is (by have := HH.out.2.2.2; omega) (by rw [dlen_one]; omega)).mono ?_
  rintro r wb ⟨vb, rfl, hOb, hBb⟩
  have HB1 : Hid (Below W.heap.size W wb) := below_step hBa hBb
  have k56 := c56 (neg := true) (e := -place) hOb.is (by have := HH.out.2.2.2; have := dlen_add_le x 1; have := dlen_one; omega) (HI.out.2.later HB1.out) (by omega)
  clear hO1 hIa hBa hBb hOb HI
  go_wp2_with fail
  refine k56.mono ?_
  rintro r w2 ⟨A, rfl, hN, hB2⟩
  clear k56
  have HN : Hid (Nrm w2 W.heap.size A true (x + 1) (-place)) := hN.mono HB1.out.size
  have HB2 : Hid (Below W.heap.size W w2) := HB1.out.trans (hB2.mono HB1.out.size)
  clear hN hB2
  go_wp2_with fail
  refine (c63n HN.out (by have := HH.out.2.2.2; have := dlen_add_le x 1; have := dlen_one; omega)).mono ?_
  rintro r w3 ⟨rfl, hB3⟩
  have HB3 : Hid (Below W.heap.size W w3) := HB2.out.trans (hB3.mono HB2.out.size)
  have HN3 : Hid (Nrm w3 W.heap.size A true (x + 1) (-place)) := by
    rcases HN.out with h | ⟨h0, v, h1, ho⟩
    · exact .inl h
    · exact .inr ⟨h0, v, h1, ho.later hB3⟩
  have HC3 : Hid (w3.heap[w.heap.size]? = some (.cells #[.bool false, .slice none 0 0, .int .i64 0] 28 (0, 0))) := box_later HH.out.1 HB3.out (by have := HH.out.2.1; omega)
  have hlt3 : w.heap.size < w3.heap.size := by have := HB3.out.size; have := HH.out.2.1; omega
  have HC4 : Hid (∀ p q r o, ((((w3.setCell ⟨w.heap.size, 0, none⟩ p).setCell ⟨w.heap.size, 1, none⟩ q).setCell ⟨w.heap.size, 2, none⟩ r).alloc o).heap[w.heap.size]? = some (.cells #[p, q, r] 28 (0, 0))) := fun p q r o => (Below.heap_alloc _ _ _ (by simp [World.setCell]; omega)).trans (store3 _ _ _ HC3.out)
  obtain ⟨⟨x1, x2, x3⟩, x4, x5, x6⟩ := box_cells HC3.out
  obtain ⟨s', ao, n, cap, ex, hsh⟩ := HN3.out.shape
  obtain ⟨-, hs, hBW, -⟩ := HH.out
  have HFIN : Hid (∀ p q r o, Nrm ((((w3.setCell ⟨w.heap.size, 0, none⟩ p).setCell ⟨w.heap.size, 1, none⟩ q).setCell ⟨w.heap.size, 2, none⟩ r).alloc o) w.heap.size A true (x + 1) (-place) ∧ Below w.heap.size w ((((w3.setCell ⟨w.heap.size, 0, none⟩ p).setCell ⟨w.heap.size, 1, none⟩ q).setCell ⟨w.heap.size, 2, none⟩ r).alloc o)) := by
    intro p q r o
    have hna : Nrm ((((w3.setCell ⟨w.heap.size, 0, none⟩ p).setCell ⟨w.heap.size, 1, none⟩ q).setCell ⟨w.heap.size, 2, none⟩ r).alloc o) W.heap.size A true (x + 1) (-place) := by
      rcases HN3.out.store (g := w.heap.size) (by omega) p q r with h | ⟨h0, v, h1, ho⟩
      · exact .inl h
      · exact .inr ⟨h0, v, h1, ho.later ((Below.refl _ _).alloc (Nat.le_refl _) _)⟩
    exact ⟨hna.mono (by omega), (below_store3 (hBW.trans (HB3.out.mono (by omega))) (Nat.le_refl _) _ _ _).alloc (by simp [World.setCell]; omega) _⟩
  clear hB3 hs hBW
  have HOK : Hid (okR true (x + 1) (-place) = okR true (x + 1) (-place)) := (rfl : _ = _)
  cases hok : okR true (x + 1) (-place)
  · have hNil : Nil = .agg #[.bool false, .slice none 0 0, .int .i64 0] := rfl
    clear hsh
    go_wp2
    refine bodyPost_ret (results_cell_tmp2_row rfl _ _ w.heap.size 28 #[.bool false, .slice none 0 0, .int .i64 0] (0, 0) _ rfl (HC4.out _ _ _ _) Tryz.underlying28 rfl Tryz.info28) rfl ?_
    exact ⟨A, by rw [hok]; rfl, HFIN.out _ _ _ _⟩
  · subst hsh
    go_wp2
    refine bodyPost_ret (results_cell_tmp2_row rfl _ _ w.heap.size 28 #[.bool s', .slice ao n cap, .int .i64 ex] (0, 0) _ rfl (HC4.out _ _ _ _) Tryz.underlying28 rfl Tryz.info28) rfl ?_
    exact ⟨_, by rw [hok]; rfl, HFIN.out _ _ _ _⟩
theorem c96 {neg exact : Bool} {v : Value} {x : Nat} {place : Int} {w : World} (hT : Tab32 w) (h : Is w v x) (hx : dlen x ≤ 900000) (hp1 : -4000000 ≤ place) (hp2 : place ≤ 4000000) :
    Calls Tryz.prog 126 #[.bool neg, v, .int .i64 place, .bool exact] w fun r w' => Held3 w neg (if neg && !exact then x + 1 else x) (-place) exact r w' := by
  cases neg <;> cases exact
  · exact c96_ff v x place w hT h (by omega) hp1 hp2
  · exact c96_ft v x place w hT h (by omega) hp1 hp2
  · exact c96_tf v x place w hT h hx hp1 hp2
  · exact c96_tt v x place w hT h (by omega) hp1 hp2
theorem c94 (place : Int) (w : World) (h : -65536 ≤ place ∧ place ≤ 65536) : Calls Tryz.prog 124 #[.int .i64 place] w fun r w' => r = .returned (.bool true) ∧ w' = w := by
  obtain ⟨h1, h2⟩ := h
  go_enter Tryz.func124, Tryz.ntmps124
  go_wp2
  go_ret
  exact ⟨rfl, rfl⟩
set_option maxRecDepth 200000 in
theorem c44_1 (na nb : Bool) (ua va : Option Addr) (un uc vn vc X Y : Nat) (ea eb e place : Int) (sg xc : Bool) (zz : Nat) (w : World) (hsg : Hid ((!(na == nb)) = sg)) (hxc : Hid (decide (X % Y = 0) = xc)) (hzz : Hid ((if sg && !xc then X / Y + 1 else X / Y) = zz)) (hT : Tab32 w) (hY0 : Y ≠ 0) (hX : dlen X ≤ 900000) (hY : dlen Y ≤ 900000) (hn1 : ((vn : Int) == 0) = false) (hp : -65536 ≤ place ∧ place ≤ 65536) (hea1 : -65536 ≤ ea) (hea2 : ea ≤ 65536)
    (k67 : ∀ W g, Below w.heap.size w W → W.heap[g]? = some (.cells #[.bool na, .slice ua un uc, .int .i64 ea, .bool nb, .slice va vn vc, .int .i64 eb] 28 (0, 0)) → Calls Tryz.prog 44 #[.slice (some ⟨g, 0, none⟩) 2 2] W fun r w' => r = .returned (.bool true) ∧ Below W.heap.size W w')
    (h99 : ∀ W, Below w.heap.size w W → Calls Tryz.prog 125 #[.agg #[.bool false, .slice ua un uc, .int .i64 (ea + place)], .agg #[.bool nb, .slice va vn vc, .int .i64 eb]] W fun r w' => ∃ p q, r = .returned (.tuple #[p, q, .int .i64 e]) ∧ Own w' W.heap.size p X ∧ Own w' W.heap.size q Y ∧ Below W.heap.size W w') :
    Calls Tryz.prog 81 #[NumV na (.slice ua un uc) ea, NumV nb (.slice va vn vc) eb, .int .i64 place] w fun r w' => Held3 w sg zz (-place) xc r w' := by
  obtain ⟨W, hW⟩ : ∃ W, W = ((w.alloc (.cells #[.bool na, .slice ua un uc, .int .i64 ea] 28)).alloc (.cells #[.bool nb, .slice va vn vc, .int .i64 eb] 28)).alloc (.cells #[.bool false, .slice none 0 0, .int .i64 0] 28) := ⟨_, rfl⟩
  obtain ⟨hA, hBb, hC, hsz, hBW⟩ := boxes3 _ _ _ hW
  have hB4 : Below w.heap.size w (W.alloc (.cells #[.bool na, .slice ua un uc, .int .i64 ea, .bool nb, .slice va vn vc, .int .i64 eb] 28)) := hBW.alloc hBW.size _
  have k1 := k67 (W.alloc (.cells #[.bool na, .slice ua un uc, .int .i64 ea, .bool nb, .slice va vn vc, .int .i64 eb] 28)) (w.heap.size + 1 + 1 + 1) hB4 (by rw [← hsz]; exact heap_alloc_new _ _)
  have HH : Hid ((W.heap[w.heap.size]? = some (.cells #[.bool na, .slice ua un uc, .int .i64 ea] 28 (0, 0)) ∧ W.heap[w.heap.size + 1]? = some (.cells #[.bool nb, .slice va vn vc, .int .i64 eb] 28 (0, 0)) ∧ W.heap[w.heap.size + 1 + 1]? = some (.cells #[.bool false, .slice none 0 0, .int .i64 0] 28 (0, 0))) ∧ W.heap.size = w.heap.size + 1 + 1 + 1 ∧ Below w.heap.size w W ∧ Below W.heap.size W (W.alloc (.cells #[.bool na, .slice ua un uc, .int .i64 ea, .bool nb, .slice va vn vc, .int .i64 eb] 28))) := ⟨⟨hA, hBb, hC⟩, hsz, hBW, (Below.refl _ _).alloc (Nat.le_refl _) _⟩
  have HT : Hid (Tab32 W ∧ Y ≠ 0 ∧ dlen X ≤ 900000 ∧ dlen Y ≤ 900000) := ⟨hT.later hBW, hY0, hX, hY⟩
  have HK99 : Hid _ := h99
  have k94 := fun w => c94 place w hp
  obtain ⟨hp1, hp2⟩ := hp
  have hpk : Hid (-65536 ≤ place ∧ place ≤ 65536) := ⟨hp1, hp2⟩
  unfold NumV
  clear hA hBb hC hsz hBW hB4 k67 h99 hT hY0 hX hY
  go_enter Tryz.func81, Tryz.ntmps81
  go_wp2_with fail
  rw [← hW]
  clear hW
  refine k1.mono ?_
  rintro r w1 ⟨rfl, hB1⟩
  clear k1
  have HB1 : Hid (Below W.heap.size W w1) := HH.out.2.2.2.trans (hB1.mono HH.out.2.2.2.size)
  obtain ⟨⟨a0, a1, a2⟩, -⟩ := box_cells (box_later HH.out.1.1 HB1.out (by have := HH.out.2.1; omega))
  obtain ⟨⟨b0, b1, b2⟩, -⟩ := box_cells (box_later HH.out.1.2.1 HB1.out (by have := HH.out.2.1; omega))
  clear hB1
  go_wp2_with fail
  refine (k94 _).mono ?_
  rintro r w1' ⟨rfl, rfl⟩
  clear k94
  go_wp2_with fail
  refine (HK99.out _ (HH.out.2.2.1.trans (HB1.out.mono HH.out.2.2.1.size))).mono ?_
  rintro r w2 ⟨p, q, rfl, hp, hq, hB2⟩
  have HB2 : Hid (Below W.heap.size W w2) := HB1.out.trans (hB2.mono HB1.out.size)
  clear a0 a1 a2 b0 b1 b2 hB2
  go_wp2_with fail
  refine (c100 hp.is hq.is (by have := HT.out.2.2.1; omega) (by have := HT.out.2.2.2; omega) HT.out.2.1).mono ?_
  rw [hxc.out]
  rintro r w3 ⟨qq, rfl, hO3, hB3⟩
  have HB3 : Hid (Below W.heap.size W w3) := HB2.out.trans (hB3.mono HB2.out.size)
  obtain ⟨⟨a0, a1, a2⟩, -⟩ := box_cells (box_later HH.out.1.1 HB3.out (by have := HH.out.2.1; omega))
  obtain ⟨⟨b0, b1, b2⟩, -⟩ := box_cells (box_later HH.out.1.2.1 HB3.out (by have := HH.out.2.1; omega))
  have k96 := c96 (neg := sg) (exact := xc) (place := place) (HT.out.1.later HB3.out) hO3.is (Nat.le_trans (dlen_mono (Nat.div_le_self ..)) HT.out.2.2.1) (by omega) (by omega)
  rw [hzz.out] at k96
  clear hp hq hO3 hB3
  go_wp2_with fail
  rw [hsg.out]
  refine k96.mono ?_
  clear k96
  rintro r w4 ⟨A, rfl, hN, hB4⟩
  have HB4 : Hid (Below W.heap.size W w4) := HB3.out.trans (hB4.mono HB3.out.size)
  have HN4 : Hid (Nrm w4 W.heap.size A sg zz (-place)) := hN.mono HB3.out.size
  have HC4 : Hid (w4.heap[w.heap.size + 1 + 1]? = some (.cells #[.bool false, .slice none 0 0, .int .i64 0] 28 (0, 0))) := box_later HH.out.1.2.2 HB4.out (by have := HH.out.2.1; omega)
  obtain ⟨⟨x1, x2, x3⟩, x4, x5, x6⟩ := box_cells HC4.out
  obtain ⟨s', ao, n, cap, ex, hsh⟩ := HN4.out.shape
  clear hN hB4 a0 a1 a2 b0 b1 b2 hsg
  obtain ⟨-, hs, hBW, -⟩ := HH.out
  have HF : Hid (∀ p q r, Nrm (((w4.setCell ⟨w.heap.size + 1 + 1, 0, none⟩ p).setCell ⟨w.heap.size + 1 + 1, 1, none⟩ q).setCell ⟨w.heap.size + 1 + 1, 2, none⟩ r) w.heap.size A sg zz (-place) ∧ Below w.heap.size w (((w4.setCell ⟨w.heap.size + 1 + 1, 0, none⟩ p).setCell ⟨w.heap.size + 1 + 1, 1, none⟩ q).setCell ⟨w.heap.size + 1 + 1, 2, none⟩ r)) := fun p q r =>
    ⟨(HN4.out.store (by omega) _ _ _).mono (by omega), below_store3 (hBW.trans (HB4.out.mono hBW.size)) (by omega) _ _ _⟩
  clear hs hBW
  cases hok : okR sg zz (-place)
  · have hNil : Nil = .agg #[.bool false, .slice none 0 0, .int .i64 0] := rfl
    clear hsh
    go_wp2
    refine bodyPost_ret (results_cell_tmp2_row rfl _ _ (w.heap.size + 1 + 1) 28 #[.bool false, .slice none 0 0, .int .i64 0] (0, 0) _ rfl (store3 _ _ _ HC4.out) Tryz.underlying28 rfl Tryz.info28) rfl ?_
    exact ⟨A, by rw [hok]; simp [hNil], HF.out _ _ _⟩
  · subst hsh
    go_wp2
    refine bodyPost_ret (results_cell_tmp2_row rfl _ _ (w.heap.size + 1 + 1) 28 #[.bool s', .slice ao n cap, .int .i64 ex] (0, 0) _ rfl (store3 _ _ _ HC4.out) Tryz.underlying28 rfl Tryz.info28) rfl ?_
    exact ⟨_, by rw [hok]; simp, HF.out _ _ _⟩
theorem c44 {na nb : Bool} {u v : Value} {x y : Nat} {ea eb place : Int} {w : World} (h1 : Is w u x) (h2 : Is w v y) (hT : Tab32 w) (hy0 : y ≠ 0) (hx : dlen x ≤ 2048) (hy : dlen y ≤ 2048) (hoka : okN na (dlen x) x ea = true) (hokb : okN nb (dlen y) y eb = true)
    (ha : -65536 ≤ ea ∧ ea ≤ 65536) (hb : -65536 ≤ eb ∧ eb ≤ 65536) (hp : -65536 ≤ place ∧ place ≤ 65536) (X Y : Nat) (hX : x * 2 ^ (ea + place - min (ea + place) eb).toNat = X) (hY : y * 2 ^ (eb - min (ea + place) eb).toNat = Y) :
    Calls Tryz.prog 81 #[NumV na u ea, NumV nb v eb, .int .i64 place] w fun r w' => Held3 w (na != nb) (if (na != nb) && !(decide (X % Y = 0)) then X / Y + 1 else X / Y) (-place) (decide (X % Y = 0)) r w' := by
  have h1' := h1
  have h2' := h2
  obtain ⟨ua, uc, rfl, -, -, -⟩ := h1'
  obtain ⟨va, vc, rfl, -, -, -⟩ := h2'
  have lX : dlen X ≤ 900000 := by have := shl_len (x := x) (k := (ea + place - min (ea + place) eb).toNat) rfl; rw [← hX]; omega
  have lY : dlen Y ≤ 900000 := by have := shl_len (x := y) (k := (eb - min (ea + place) eb).toNat) rfl; rw [← hY]; omega
  have hY0 : Y ≠ 0 := by rw [← hY]; exact Nat.ne_of_gt (Nat.mul_pos (by omega) (Nat.two_pow_pos _))
  refine c44_1 na nb ua va _ uc _ vc X Y ea eb (min (ea + place) eb) place (na != nb) _ _ w (rfl : (!(na == nb)) = (na != nb)) rfl rfl hT hY0 lX lY (len_ne (n := 0) hy0) hp ha.1 ha.2 (fun W g hW hg => ?_) (fun W hW => ?_)
  · have := maybe2 hg (h1.later hW) (h2.later hW) (by omega) (by omega)
    rw [hoka, hokb] at this
    exact this
  · have := c99 (na := false) (nb := nb) (ea := ea + place) (eb := eb) (h1.later hW) (h2.later hW) (by omega) (by omega) (by omega) (by omega)
    rw [hX, hY] at this
    exact this
end Go.Proofs.YtcdkkpjilgmncaaGreatDoor
