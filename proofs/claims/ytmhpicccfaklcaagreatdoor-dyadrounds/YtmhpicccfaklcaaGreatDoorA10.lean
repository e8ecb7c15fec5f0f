/- Own work: contracts of the program's functions, part 10: RB4 RB5 RB6 RB7 RB8 RB9 W33 RC1 RC2 RC3 V1 V2 E2 V3 E3 V4 RC4 W44 L9. -/
import Derived.Test.YtmhpicccfaklcaaGreatDoorA9
import Derived.Test.YtmhpicccfaklcaaGreatDoorA8
import Derived.Test.YtmhpicccfaklcaaGreatDoorA5
import Derived.Laws.AppendOwnNone
import Derived.Test.YtmhpicccfaklcaaGreatDoorA3
import Derived.Test.YtmhpicccfaklcaaGreatDoorA6
import Derived.Test.YtmhpicccfaklcaaGreatDoorA7

/- The document's known, Minus, twin, Scaled, Times. -/
namespace Go.Proofs.YtmhpicccfaklcaaGreatDoor
set_option linter.unusedVariables false
set_option linter.unusedSimpArgs false
open Go.RowKit

set_option maxHeartbeats 4000000 in
set_option maxRecDepth 200000 in
theorem rknown (g k : Nat) (ng : Nat → Bool) (ao : Nat → Option Addr) (n cap z : Nat → Nat) (e : Nat → Int) (w : World) (hk : k ≤ 3)
    (h0 : ∀ i, i < k → w.cell? ⟨g, i * 3, none⟩ = some (.bool (ng i))) (h1 : ∀ i, i < k → w.cell? ⟨g, i * 3 + 1, none⟩ = some (.slice (ao i) (n i) (cap i))) (h2 : ∀ i, i < k → w.cell? ⟨g, i * 3 + 2, none⟩ = some (.int .i64 (e i)))
    (hA : ∀ i, i < k → Arg w (ao i) (n i) (cap i) (z i)) :
    Calls Tryz.prog 83 #[.slice (some ⟨g, 0, none⟩) k k] w fun r w' => r = .returned (.bool (decide (∀ i, i < k → okN (ng i) (n i) (z i) (e i) = true))) ∧ Below w.heap.size w w' := by
  generalize hans : decide (∀ i, i < k → okN (ng i) (n i) (z i) (e i) = true) = ans
  have HA : Hid (ans = decide (∀ i, i < k → okN (ng i) (n i) (z i) (e i) = true)) := hans.symm
  clear hans
  go_enter Tryz.func83, Tryz.ntmps83
  go_wp2
  go_loopw [3] (fun i wr => ∃ j : Nat, j ≤ k ∧ i = .int .i64 j ∧ Hid (Below w.heap.size w wr) ∧ Hid (∀ i, i < j → okN (ng i) (n i) (z i) (e i) = true)) (fun i _ => k - (intOf i).toNat)
  case atStart => exact ⟨0, Nat.zero_le _, rfl, Below.refl _ _, (fun i hi => absurd hi (Nat.not_lt_zero _) : ∀ i, i < 0 → okN (ng i) (n i) (z i) (e i) = true)⟩
  case round =>
    obtain ⟨j, hj, rfl, hB, hok⟩ := hrel
    by_cases hjk : j < k
    · have a0 : wr.cell? ⟨g, j * 3, none⟩ = some (.bool (ng j)) := (hB.out.cell (World.block_lt_of_cell? _ _ (h0 j hjk))).trans (h0 j hjk)
      have a1 : wr.cell? ⟨g, j * 3 + 1, none⟩ = some (.slice (ao j) (n j) (cap j)) := (hB.out.cell (World.block_lt_of_cell? _ _ (h1 j hjk))).trans (h1 j hjk)
      have a2 : wr.cell? ⟨g, j * 3 + 2, none⟩ = some (.int .i64 (e j)) := (hB.out.cell (World.block_lt_of_cell? _ _ (h2 j hjk))).trans (h2 j hjk)
      have hji : (j : Int) < (k : Int) := by omega
      have kv := rvalid (s := ng j) (e := e j) ((hA j hjk).later hB.out)
      clear h0 h1 h2 hA
      generalize hokj : okN (ng j) (n j) (z j) (e j) = okj at *
      have HOK : Hid (okN (ng j) (n j) (z j) (e j) = okj) := hokj
      clear hokj
      go_wp2_with fail
      refine kv.mono ?_
      rintro r w1 ⟨rfl, hb1⟩
      have HB1 : Hid (Below w.heap.size w w1) := hB.out.trans (hb1.mono hB.out.size)
      clear kv hb1
      cases okj
      · go_wp2
        go_ret
        refine ⟨congrArg Ending.returned (congrArg Value.bool ?_), HB1.out⟩
        rw [HA.out, decide_eq_false]
        intro h
        have := h j hjk
        rw [HOK.out] at this
        exact absurd this (by decide)
      · go_wp2
        exact ⟨⟨j + 1, by omega, by simp, HB1, (fun i hi => by
          by_cases e1 : i = j
          · subst e1; exact HOK.out
          · exact hok.out i (by omega) : ∀ i, i < j + 1 → okN (ng i) (n i) (z i) (e i) = true)⟩, by simp [intOf]; omega⟩
    · obtain rfl : j = k := by omega
      clear h0 h1 h2 hA
      go_wp2
      go_ret
      refine ⟨congrArg Ending.returned (congrArg Value.bool ?_), hB.out⟩
      rw [HA.out, decide_eq_true hok.out]

/-- known of two -/
theorem rknown2 {na nb : Bool} {ua va : Option Addr} {un uc vn vc x y g : Nat} {ea eb : Int} {W : World} (hg : W.heap[g]? = some (.cells #[.bool na, .slice ua un uc, .int .i64 ea, .bool nb, .slice va vn vc, .int .i64 eb] 24 (0, 0)))
    (h1 : Arg W ua un uc x) (h2 : Arg W va vn vc y) :
    Calls Tryz.prog 83 #[.slice (some ⟨g, 0, none⟩) 2 2] W fun r w' => r = .returned (.bool (okN na un x ea && okN nb vn y eb)) ∧ Below W.heap.size W w' := by
  have k := rknown g 2 (fun i => if i = 0 then na else nb) (fun i => if i = 0 then ua else va) (fun i => if i = 0 then un else vn) (fun i => if i = 0 then uc else vc) (fun i => if i = 0 then x else y) (fun i => if i = 0 then ea else eb) W (by omega)
    (fun i hi => by rcases (show i = 0 ∨ i = 1 by omega) with rfl | rfl <;> simp [World.cell?, hg])
    (fun i hi => by rcases (show i = 0 ∨ i = 1 by omega) with rfl | rfl <;> simp [World.cell?, hg])
    (fun i hi => by rcases (show i = 0 ∨ i = 1 by omega) with rfl | rfl <;> simp [World.cell?, hg])
    (fun i hi => by rcases (show i = 0 ∨ i = 1 by omega) with rfl | rfl <;> simp <;> assumption)
  refine k.mono ?_
  rintro r w' ⟨rfl, hb⟩
  refine ⟨congrArg Ending.returned (congrArg Value.bool ?_), hb⟩
  rw [Bool.eq_iff_iff]
  simp only [decide_eq_true_eq, Bool.and_eq_true]
  constructor
  · intro h
    have h0 := h 0 (by omega)
    have h1 := h 1 (by omega)
    simp at h0 h1
    exact ⟨h0, h1⟩
  · rintro ⟨h0, h1⟩ i hi
    rcases (show i = 0 ∨ i = 1 by omega) with rfl | rfl
    · simpa using h0
    · simpa using h1

set_option maxHeartbeats 4000000 in
set_option maxRecDepth 200000 in
theorem rminus_1 (na : Bool) (ua : Option Addr) (un uc : Nat) (ea : Int) (w : World) (hn : un ≤ 35184372088832) (hn0 : ((un : Int) == 0) = false) :
    Calls Tryz.prog 50 #[.agg #[.bool na, .slice ua un uc, .int .i64 ea]] w fun r w' => r = .returned (.agg #[.bool (!na), .slice ua un uc, .int .i64 ea]) ∧ Below w.heap.size w w' := by
  obtain ⟨W, hW⟩ : ∃ W, W = (w.alloc (.cells #[.bool na, .slice ua un uc, .int .i64 ea] 24)).alloc (.cells #[.bool false, .slice none 0 0, .int .i64 0] 24) := ⟨_, rfl⟩
  obtain ⟨hA, hB, hsz, hBW⟩ := two29 _ _ hW
  obtain ⟨⟨a0, a1, a2⟩, -⟩ := box_cells29 hA
  obtain ⟨⟨b0, b1, b2⟩, b3, b4, b5⟩ := box_cells29 hB
  have HX : Hid (Below w.heap.size w W ∧ W.heap[w.heap.size + 1]? = some (.cells #[.bool false, .slice none 0 0, .int .i64 0] 24 (0, 0))) := ⟨hBW, hB⟩
  clear hA hB hsz hBW
  have HE : Hid (W = (w.alloc (.cells #[.bool na, .slice ua un uc, .int .i64 ea] 24)).alloc (.cells #[.bool false, .slice none 0 0, .int .i64 0] 24)) := hW
  rw [hW] at a0 a1 a2 b0 b1 b2 b3 b4 b5
  clear hW
  go_enter Tryz.func50, Tryz.ntmps50
  go_wp2
  refine bodyPost_ret (results_cell_row rfl _ _ (w.heap.size + 1) 24 #[.bool (!na), .slice ua un uc, .int .i64 ea] (0, 0) _ rfl (two29 _ _ rfl).2.1 Tryz.underlying24 rfl Tryz.info24) rfl ?_
  exact ⟨rfl, (two29 _ _ rfl).2.2.2⟩
set_option maxHeartbeats 4000000 in
set_option maxRecDepth 200000 in
theorem rminus_0 (na : Bool) (ua : Option Addr) (uc : Nat) (ea : Int) (w : World) :
    Calls Tryz.prog 50 #[.agg #[.bool na, .slice ua 0 uc, .int .i64 ea]] w fun r w' => r = .returned (.agg #[.bool false, .slice none 0 0, .int .i64 0]) ∧ Below w.heap.size w w' := by
  obtain ⟨W, hW⟩ : ∃ W, W = (w.alloc (.cells #[.bool na, .slice ua 0 uc, .int .i64 ea] 24)).alloc (.cells #[.bool false, .slice none 0 0, .int .i64 0] 24) := ⟨_, rfl⟩
  obtain ⟨hA, hB, hsz, hBW⟩ := two29 _ _ hW
  obtain ⟨⟨a0, a1, a2⟩, -⟩ := box_cells29 hA
  obtain ⟨⟨b0, b1, b2⟩, b3, b4, b5⟩ := box_cells29 hB
  have HX : Hid (Below w.heap.size w W ∧ W.heap[w.heap.size + 1]? = some (.cells #[.bool false, .slice none 0 0, .int .i64 0] 24 (0, 0))) := ⟨hBW, hB⟩
  clear hA hB hsz hBW
  have HE : Hid (W = (w.alloc (.cells #[.bool na, .slice ua 0 uc, .int .i64 ea] 24)).alloc (.cells #[.bool false, .slice none 0 0, .int .i64 0] 24)) := hW
  rw [hW] at a0 a1 a2 b0 b1 b2 b3 b4 b5
  clear hW
  go_enter Tryz.func50, Tryz.ntmps50
  go_wp2
  refine bodyPost_ret (results_cell_row rfl _ _ (w.heap.size + 1) 24 #[.bool false, .slice none 0 0, .int .i64 0] (0, 0) _ rfl (two29 _ _ rfl).2.1 Tryz.underlying24 rfl Tryz.info24) rfl ?_
  exact ⟨rfl, (two29 _ _ rfl).2.2.2⟩
set_option maxHeartbeats 4000000 in
set_option maxRecDepth 200000 in
theorem rscaled_1 (na : Bool) (ua : Option Addr) (un uc : Nat) (ea k : Int) (w : World) (hn : un ≤ 35184372088832) (hn0 : ((un : Int) == 0) = false) (he : -65536 ≤ ea ∧ ea ≤ 65536) (hk : -131072 ≤ k ∧ k ≤ 131072) :
    Calls Tryz.prog 187 #[.agg #[.bool na, .slice ua un uc, .int .i64 ea], .int .i64 k] w fun r w' => r = .returned (.agg #[.bool na, .slice ua un uc, .int .i64 (ea + k)]) ∧ Below w.heap.size w w' := by
  obtain ⟨W, hW⟩ : ∃ W, W = (w.alloc (.cells #[.bool na, .slice ua un uc, .int .i64 ea] 24)).alloc (.cells #[.bool false, .slice none 0 0, .int .i64 0] 24) := ⟨_, rfl⟩
  obtain ⟨hA, hB, hsz, hBW⟩ := two29 _ _ hW
  obtain ⟨⟨a0, a1, a2⟩, -⟩ := box_cells29 hA
  obtain ⟨⟨b0, b1, b2⟩, b3, b4, b5⟩ := box_cells29 hB
  have HX : Hid (Below w.heap.size w W ∧ W.heap[w.heap.size + 1]? = some (.cells #[.bool false, .slice none 0 0, .int .i64 0] 24 (0, 0))) := ⟨hBW, hB⟩
  obtain ⟨he1, he2⟩ := he
  obtain ⟨hk1, hk2⟩ := hk
  clear hA hB hsz hBW
  have HE : Hid (W = (w.alloc (.cells #[.bool na, .slice ua un uc, .int .i64 ea] 24)).alloc (.cells #[.bool false, .slice none 0 0, .int .i64 0] 24)) := hW
  rw [hW] at a0 a1 a2 b0 b1 b2 b3 b4 b5
  clear hW
  go_enter Tryz.func187, Tryz.ntmps187
  go_wp2
  refine bodyPost_ret (results_cell_row rfl _ _ (w.heap.size + 1) 24 #[.bool na, .slice ua un uc, .int .i64 (ea + k)] (0, 0) _ rfl (two29 _ _ rfl).2.1 Tryz.underlying24 rfl Tryz.info24) rfl ?_
  exact ⟨rfl, (two29 _ _ rfl).2.2.2⟩
end Go.Proofs.YtmhpicccfaklcaaGreatDoor

/- The document's Times, kept, Mul. -/
namespace Go.Proofs.YtmhpicccfaklcaaGreatDoor
set_option linter.unusedVariables false
set_option linter.unusedSimpArgs false
open Go.RowKit

theorem kept_nr {s : Bool} {z : Nat} {e : Int} {A : Value} {w : World} {base : Nat} (h : Nr w base A s z e) (hz : dlen z ≤ 35184372088832) :
    Calls Tryz.prog 80 #[A] w fun r w' => r = .returned (.tuple #[if okR s z e then A else Nil, .int .i64 (if okR s z e then 0 else 2)]) ∧ Below w.heap.size w w' := by
  unfold okR
  rcases h with ⟨rfl, rfl⟩ | ⟨h0, g, cap, rfl, hg, ha⟩
  · have := r41 false none 0 0 0 true w (fun W hW => by
      have := rvalid_at (s := false) (ao := none) (n := 0) (cap := 0) (z := 0) (e := 0) (w := W) ⟨0, 0, fun h => by omega, fun i hi => by omega⟩ (by omega)
      exact this)
    simpa [NumV] using this
  · rw [if_neg h0]
    have hl : dlen (z / 2 ^ tz z) ≤ dlen z := dlen_mono (Nat.div_le_self ..)
    exact r41 s _ _ cap _ _ w (fun W hW => rvalid_at (ha.later hW) (by omega))

def HeldR (w : World) (s : Bool) (z : Nat) (e : Int) (r : Ending) (w' : World) : Prop :=
  ∃ A, r = .returned (.tuple #[if okR s z e then A else Nil, .int .i64 (if okR s z e then 0 else 2)]) ∧ Nr w' w.heap.size A s z e ∧ Below w.heap.size w w'

set_option maxHeartbeats 4000000 in
set_option maxRecDepth 200000 in
theorem rtimes_1 (na nb sg : Bool) (ua va : Option Addr) (un uc vn vc x y : Nat) (ea eb : Int) (w : World) (h1 : Ir w (.slice ua un uc) x) (h2 : Ir w (.slice va vn vc) y) (hx : dlen x ≤ 400000) (hy : dlen y ≤ 400000) (he1 : -4000000 ≤ ea) (he2 : ea ≤ 4000000) (he3 : -4000000 ≤ eb) (he4 : eb ≤ 4000000) (hsg : (!(na == nb)) = sg) :
    Calls Tryz.prog 186 #[.agg #[.bool na, .slice ua un uc, .int .i64 ea], .agg #[.bool nb, .slice va vn vc, .int .i64 eb]] w fun r w' => ∃ a, r = .returned a ∧ Nr w' w.heap.size a sg (x * y) (ea + eb) ∧ Below w.heap.size w w' := by
  obtain ⟨W, hW⟩ : ∃ W, W = ((w.alloc (.cells #[.bool na, .slice ua un uc, .int .i64 ea] 24)).alloc (.cells #[.bool nb, .slice va vn vc, .int .i64 eb] 24)).alloc (.cells #[.bool false, .slice none 0 0, .int .i64 0] 24) := ⟨_, rfl⟩
  obtain ⟨hA, hBb, hC, hsz, hBW⟩ := boxes3 _ _ _ hW
  have hxy : dlen (x * y) ≤ 1000000 := by
    have l1 := (dlen_le (dlen x) x).1 (Nat.le_refl _)
    have l2 := (dlen_le (dlen y) y).1 (Nat.le_refl _)
    have : dlen (x * y) ≤ dlen x + dlen y := (dlen_le _ _).2 (by
      rw [Nat.pow_add]
      rcases Nat.eq_zero_or_pos x with h | h
      · rw [h, Nat.zero_mul]; exact Nat.mul_pos (Bpow_pos _) (Bpow_pos _)
      · exact Nat.mul_lt_mul_of_lt_of_le l1 (Nat.le_of_lt l2) (Bpow_pos _))
    omega
  have HH : Hid (W.heap[w.heap.size + 1 + 1]? = some (.cells #[.bool false, .slice none 0 0, .int .i64 0] 24 (0, 0)) ∧ W.heap.size = w.heap.size + 1 + 1 + 1 ∧ Below w.heap.size w W) := ⟨hC, hsz, hBW⟩
  have k78 : ∀ w4, Below W.heap.size W w4 → Calls Tryz.prog 179 #[.slice ua un uc, .slice va vn vc] w4 fun r w' => ∃ v, r = .returned v ∧ Own w' W.heap.size v (x * y) ∧ Below W.heap.size W w' := fun w4 hb =>
    (rprod ((h1.later hBW).later hb) ((h2.later hBW).later hb) (by omega) (by omega)).mono fun r w' ⟨v, e1, o1, o2⟩ => ⟨v, e1, o1.mono hb.size, hb.trans (o2.mono hb.size)⟩
  have k31 : ∀ v5 w5, Own w5 W.heap.size v5 (x * y) → Below W.heap.size W w5 → Calls Tryz.prog 132 #[.bool sg, v5, .int .i64 (ea + eb)] w5 fun r w' => ∃ s ao n cap ex, r = .returned (.agg #[.bool s, .slice ao n cap, .int .i64 ex]) ∧
      Hid (Nr w' w5.heap.size (.agg #[.bool s, .slice ao n cap, .int .i64 ex]) sg (x * y) (ea + eb) ∧ W.heap.size ≤ w5.heap.size) ∧ Below W.heap.size W w' ∧ Hid (w'.heap[w.heap.size + 1 + 1]? = some (.cells #[.bool false, .slice none 0 0, .int .i64 0] 24 (0, 0))) ∧
      (w'.cell? ⟨w.heap.size + 1 + 1, 0, none⟩ = some (.bool false) ∧ w'.cell? ⟨w.heap.size + 1 + 1, 1, none⟩ = some (.slice none 0 0) ∧ w'.cell? ⟨w.heap.size + 1 + 1, 2, none⟩ = some (.int .i64 0)) ∧ (w'.frozen? ⟨w.heap.size + 1 + 1, 0, none⟩ = false ∧ w'.frozen? ⟨w.heap.size + 1 + 1, 1, none⟩ = false ∧ w'.frozen? ⟨w.heap.size + 1 + 1, 2, none⟩ = false) := by
    intro v5 w5 ho hb
    obtain ⟨ao0, cap0, rfl, hl0, -, hat0⟩ := ho.is
    refine (r34 hat0 (Nat.le_refl _) hl0 (by omega) (by omega)).mono ?_
    rintro r w6 ⟨a, rfl, hN, hb6⟩
    obtain ⟨s, ao, n, cap, ex, rfl⟩ := hN.shape
    have hb46 : Below W.heap.size W w6 := hb.trans (hb6.mono hb.size)
    have hblk := box_later HH.out.1 hb46 (by have := HH.out.2.1; omega)
    obtain ⟨f1, f2⟩ := box_cells29 hblk
    exact ⟨s, ao, n, cap, ex, rfl, ⟨hN, hb.size⟩, hb46, hblk, f1, f2⟩
  obtain ⟨⟨a0, a1, a2⟩, -⟩ := box_cells29 hA
  obtain ⟨⟨b0, b1, b2⟩, -⟩ := box_cells29 hBb
  have HK : Hid (∀ w', Below W.heap.size W w' → ((w'.cell? ⟨w.heap.size, 0, none⟩ = some (.bool na) ∧ w'.cell? ⟨w.heap.size, 1, none⟩ = some (.slice ua un uc) ∧ w'.cell? ⟨w.heap.size, 2, none⟩ = some (.int .i64 ea)) ∧ (w'.cell? ⟨w.heap.size + 1, 0, none⟩ = some (.bool nb) ∧ w'.cell? ⟨w.heap.size + 1, 1, none⟩ = some (.slice va vn vc) ∧ w'.cell? ⟨w.heap.size + 1, 2, none⟩ = some (.int .i64 eb)))) := fun w' hb => ⟨(box_cells29 (box_later hA hb (by omega))).1, (box_cells29 (box_later hBb hb (by omega))).1⟩
  have HK2 : Hid (∀ w', Below (w.heap.size + 1 + 1) W w' → ((w'.cell? ⟨w.heap.size, 0, none⟩ = some (.bool na) ∧ w'.cell? ⟨w.heap.size, 1, none⟩ = some (.slice ua un uc) ∧ w'.cell? ⟨w.heap.size, 2, none⟩ = some (.int .i64 ea)) ∧ (w'.cell? ⟨w.heap.size + 1, 0, none⟩ = some (.bool nb) ∧ w'.cell? ⟨w.heap.size + 1, 1, none⟩ = some (.slice va vn vc) ∧ w'.cell? ⟨w.heap.size + 1, 2, none⟩ = some (.int .i64 eb)))) := fun w' hb => ⟨(box_cells29 (box_later hA hb (by omega))).1, (box_cells29 (box_later hBb hb (by omega))).1⟩
  have HS2 : Hid (w.heap.size + 1 + 1 ≤ W.heap.size) := (by omega : w.heap.size + 1 + 1 ≤ W.heap.size)
  have hBR : Below W.heap.size W W.drew := (Below.refl _ _).drew
  have wz : IntKind.i64.wrap (ea + eb) = ea + eb := by rw [IntKind.wrap_i64]; omega
  clear hA hBb hC hsz hBW h1 h2 hx hy hxy
  go_enter Tryz.func186, Tryz.ntmps186
  go_upto_region 1 with fail
  rw [← hW]
  clear hW
  go_region_held3 (fun w' => ((w'.cell? ⟨w.heap.size, 0, none⟩ = some (.bool na) ∧ w'.cell? ⟨w.heap.size, 1, none⟩ = some (.slice ua un uc) ∧ w'.cell? ⟨w.heap.size, 2, none⟩ = some (.int .i64 ea)) ∧ (w'.cell? ⟨w.heap.size + 1, 0, none⟩ = some (.bool nb) ∧ w'.cell? ⟨w.heap.size + 1, 1, none⟩ = some (.slice va vn vc) ∧ w'.cell? ⟨w.heap.size + 1, 2, none⟩ = some (.int .i64 eb)))) (first | (with_reducible assumption) | exact ⟨⟨a0, a1, a2⟩, b0, b1, b2⟩ | (refine HK.out _ ?_; with_reducible assumption) | (refine HK2.out _ (below_store3 (Below.mono hb6 HS2.out) (Nat.le_refl _) _ _ _)) | go_keep)
    (first | (go_at_call 179; refine (k78 _ (by first | (with_reducible assumption) | exact hBR)).mono ?_; rintro r w5 ⟨v5, rfl, ho5, hb5⟩) | (go_at_call 132; (try simp only [hsg, wz]); refine (k31 _ _ ho5 hb5).mono ?_; rintro r w6 ⟨s6, ao6, n6, cap6, ex6, rfl, hN6, hb6, hblk6, ⟨x1, x2, x3⟩, x4, x5, x6⟩))
  have HF : Hid (Below W.heap.size W w6) := hb6
  clear ho5 hb5 hb6 k31 k78 x1 x2 x3 x4 x5 x6 a0 a1 a2 b0 b1 b2 HK HK2
  go_wp2
  refine bodyPost_ret (results_cell_row rfl _ _ (w.heap.size + 1 + 1) 24 #[.bool s6, .slice ao6 n6 cap6, .int .i64 ex6] (0, 0) _ rfl (store3_29 _ _ _ hblk6.out) Tryz.underlying24 rfl Tryz.info24) rfl ?_
  obtain ⟨-, hs, hBW⟩ := HH.out
  have hs5 := hN6.out.2
  exact ⟨_, rfl, (hN6.out.1.store (by omega) _ _ _).mono (by omega), below_store3 (hBW.trans (HF.out.mono hBW.size)) (by omega) _ _ _⟩

end Go.Proofs.YtmhpicccfaklcaaGreatDoor

/- The document's twin. -/
namespace Go.Proofs.YtmhpicccfaklcaaGreatDoor
set_option linter.unusedVariables false
set_option linter.unusedSimpArgs false
open Go.RowKit

theorem dn_of_row {w : World} {base n z : Nat} {v : Value} (h : w.ownsRow base 65 1 v n (cells z n)) (hn0 : 0 < n) : Dn w base v n z := by
  obtain ⟨g2, cap2, cur2, rfl, hg2, hc2, hc3, hc4, hc5, hc6⟩ := (h.2.resolve_left fun h => by omega)
  refine .inr ⟨g2, cap2, cur2, rfl, hg2, ⟨hc3, by unfold maxLen at hc4; omega⟩, hc2, by omega, fun i hi => ?_⟩
  have h7 : (cells z n)[i]? = cur2[i]? := by
    rw [← hc6, Nat.mul_one, List.getElem?_take, if_pos hi, Array.getElem?_toList]
  rw [← h7, cells_get hi]

set_option maxRecDepth 200000 in
/-- append(nil, m...): a copy -/
theorem wpList_append_copy {w : World} {ops : Array Oper} {rest : List Oper} {o : Oper} {a : Act} {Q : Exit → Act → World → Prop} (hgd : o.guard = none) (s x : Operand)
    (ho : o.op = .call { callee := .builtin .append, args := #[s, x], argTypes := #[22, 22] }) (hs : a.eval s = .slice none 0 0) {ao : Option Addr} {n cap z : Nat} (hx : a.eval x = .slice ao n cap) (hA : Arg w ao n cap z)
    (h : ∀ ao' cap' w', Dn w' w.heap.size (.slice ao' n cap') n z → Below w.heap.size w w' → wpList Tryz.prog ops Q rest (a.put o.dst (.slice ao' n cap')) w') : wpList Tryz.prog ops Q (o :: rest) a w := by
  obtain ⟨i0, hi0, hz0, hz1, hz2⟩ := info_parts Tryz.info65
  by_cases h0 : n = 0
  · subst h0
    rcases hA.nil rfl with ⟨ad, rfl⟩ | ⟨rfl, rfl⟩
    · refine wpList_append_own _ hgd s x 22 ho w.heap.size 65 i0 (.int .u32 0) 1 4 Tryz.underlying22 hi0 hz0 hz1 hz2 rfl (by decide) (.slice none 0 0) 0 [] hs (World.ownsRow_nil w _ _ _) ad 0 cap [] hx (by simp) (by intro j u hj; simp at hj) (by intro u hu; simp at hu) (by unfold maxLen; omega) (by omega) (Nat.le_refl _) ?_
      intro v' w' _ r2 r3
      obtain rfl : v' = .slice none 0 0 := r3.2 ⟨rfl, rfl⟩
      exact h none 0 w' (.inl ⟨rfl, rfl⟩) (Below.grown (Below.refl _ _) r2 (Nat.le_refl _) (fun k hk => by simp [Value.ownBlock] at hk))
    · exact wpList_append_own_none hgd s x 22 ho w.heap.size 65 i0 1 Tryz.underlying22 hi0 (.slice none 0 0) 0 [] hs (World.ownsRow_nil w _ _ _) hx (h none 0 w (.inl ⟨rfl, rfl⟩) (Below.refl _ _))
  · obtain ⟨b, o', h1, h2⟩ := hA.at_
    obtain rfl := h1 (by omega)
    have hsm := hA.small
    refine wpList_append_own _ hgd s x 22 ho w.heap.size 65 i0 (.int .u32 0) 1 4 Tryz.underlying22 hi0 hz0 hz1 hz2 rfl (by decide) (.slice none 0 0) 0 [] hs (World.ownsRow_nil w _ _ _) ⟨b, o', none⟩ n cap (cells z n) hx (by rw [cells_length, Nat.mul_one]) (fun j u hj => by
      have hjl : j < n := by
        have := (List.getElem?_eq_some_iff.1 hj).1
        rwa [cells_length] at this
      rw [cells_get hjl] at hj
      rw [show (⟨b, o', none⟩ : Addr).add j = ⟨b, o' + j, none⟩ by simp [Addr.add], ← hj]
      exact h2 j hjl) (by intro u hu; simp [cells] at hu; obtain ⟨j, -, rfl⟩ := hu; rfl) (by unfold maxLen; omega) (by omega) (Nat.le_refl _) ?_
    intro v' w' r1 r2 _
    rw [Nat.zero_add, List.nil_append] at r1
    have hd := dn_of_row r1 (by omega)
    have hb : Below w.heap.size w w' := Below.grown (Below.refl _ _) r2 (Nat.le_refl _) (fun k hk => by simp [Value.ownBlock] at hk)
    rcases hd with ⟨-, h⟩ | ⟨g, cap', c, rfl, h3⟩
    · omega
    · exact h _ _ w' (.inr ⟨g, cap', c, rfl, h3⟩) hb

theorem Dn.store {w : World} {base n z : Nat} {v : Value} (h : Dn w base v n z) {g : Nat} (hg : g < base) (i : Nat) (u : Value) : Dn (w.setCell ⟨g, i, none⟩ u) base v n z := by
  rcases h with h | ⟨g2, cap2, c, rfl, h1, h2, h3, h4⟩
  · exact .inl h
  · exact .inr ⟨g2, cap2, c, rfl, h1, h2, by rw [setCell_block _ _ (by omega)]; exact h3, h4⟩

set_option maxHeartbeats 4000000 in
set_option maxRecDepth 200000 in
theorem rtwin {ng : Bool} {ao : Option Addr} {n cap z : Nat} {e : Int} {w : World} (h : Arg w ao n cap z) :
    Calls Tryz.prog 49 #[.agg #[.bool ng, .slice ao n cap, .int .i64 e]] w fun r w' => ∃ ao' cap', r = .returned (.agg #[.bool ng, .slice ao' n cap', .int .i64 e]) ∧ Dn w' w.heap.size (.slice ao' n cap') n z ∧ Below w.heap.size w w' := by
  obtain ⟨W, hW⟩ : ∃ W, W = (w.alloc (.cells #[.bool ng, .slice ao n cap, .int .i64 e] 24)).alloc (.cells #[.bool false, .slice none 0 0, .int .i64 0] 24) := ⟨_, rfl⟩
  obtain ⟨hA, hB, hsz, hBW⟩ := two29 _ _ hW
  obtain ⟨⟨a0, a1, a2⟩, -⟩ := box_cells29 hA
  have HX : Hid (Below w.heap.size w W ∧ W.heap.size = w.heap.size + 1 + 1 ∧ W.heap[w.heap.size]? = some (.cells #[.bool ng, .slice ao n cap, .int .i64 e] 24 (0, 0)) ∧ W.heap[w.heap.size + 1]? = some (.cells #[.bool false, .slice none 0 0, .int .i64 0] 24 (0, 0))) := ⟨hBW, hsz, hA, hB⟩
  have hAr := h.later hBW
  rw [hW] at a0 a1 a2
  have HW : Hid (W = (w.alloc (.cells #[.bool ng, .slice ao n cap, .int .i64 e] 24)).alloc (.cells #[.bool false, .slice none 0 0, .int .i64 0] 24)) := hW
  clear hA hB hsz hBW h hW
  go_enter Tryz.func49, Tryz.ntmps49
  go_wp2_with (at_builtin; rw [← HW.out]; refine wpList_append_copy rfl _ _ rfl rfl rfl hAr ?_)
  intro ao2 cap2 w2 hd hb
  have hb1 := box_later HX.out.2.2.1 hb (by have := HX.out.2.1; omega)
  have hb2 := box_later HX.out.2.2.2 hb (by have := HX.out.2.1; omega)
  obtain ⟨⟨x1, x2, x3⟩, x4, x5, x6⟩ := box_cells29 hb1
  obtain ⟨⟨y1, y2, y3⟩, y4, y5, y6⟩ := box_cells29 hb2
  have HR : Hid (Dn w2 W.heap.size (.slice ao2 n cap2) n z ∧ Below W.heap.size W w2 ∧ w2.heap[w.heap.size + 1]? = some (.cells #[.bool false, .slice none 0 0, .int .i64 0] 24 (0, 0))) := ⟨hd, hb, hb2⟩
  clear hd hb hb1 hb2 a0 a1 a2 hAr
  go_wp2
  have HQ : (w2.setCell ⟨w.heap.size, 1, none⟩ (.slice ao2 n cap2)).heap[w.heap.size + 1]? = some (.cells #[.bool false, .slice none 0 0, .int .i64 0] 24 (0, 0)) := by
    rw [setCell_block _ _ (by omega)]; exact HR.out.2.2
  refine bodyPost_ret (results_cell_row rfl _ _ (w.heap.size + 1) 24 #[.bool ng, .slice ao2 n cap2, .int .i64 e] (0, 0) _ rfl (store3_29 _ _ _ HQ) Tryz.underlying24 rfl Tryz.info24) rfl ?_
  obtain ⟨q1, q2, -, -⟩ := HX.out
  obtain ⟨r1, r2, -⟩ := HR.out
  exact ⟨_, _, rfl, ((((r1.store (by omega) _ _).store (by omega) _ _).store (by omega) _ _).store (by omega) _ _).mono (by omega), below_store3 ((q1.trans (r2.mono q1.size)).setCell (Nat.le_refl _) _) (by omega) _ _ _⟩

/-- a number of the document, of the value t -/
def RN (w : World) (base : Nat) (A : Value) (t : Bool × Nat × Int) : Prop := ∃ ao cap, A = .agg #[.bool t.1, .slice ao (dlen t.2.1) cap, .int .i64 t.2.2] ∧ (∀ ad : Addr, ao = some ad → 0 < dlen t.2.1 → base ≤ ad.block) ∧ At w ao (dlen t.2.1) t.2.1
theorem RN.later {w w' : World} {base : Nat} {A : Value} {t : Bool × Nat × Int} (h : RN w base A t) (hb : Below w.heap.size w w') : RN w' base A t := by
  obtain ⟨ao, cap, h1, h2, h3⟩ := h
  exact ⟨ao, cap, h1, h2, h3.later hb⟩
theorem RN.mono {w : World} {base base' : Nat} {A : Value} {t : Bool × Nat × Int} (h : RN w base A t) (hb : base' ≤ base) : RN w base' A t := by
  obtain ⟨ao, cap, h1, h2, h3⟩ := h
  exact ⟨ao, cap, h1, fun ad e hl => Nat.le_trans hb (h2 ad e hl), h3⟩
theorem Nr.rn {w : World} {base : Nat} {A : Value} {s : Bool} {z : Nat} {e : Int} (h : Nr w base A s z e) : RN w base A (cn s z e) := by
  unfold cn
  rcases h with ⟨rfl, rfl⟩ | ⟨h0, g, cap, rfl, hg, ha⟩
  · rw [if_pos rfl]
    exact ⟨none, 0, by rw [dlen_zero]; rfl, (fun ad e => by cases e), 0, 0, fun h => by rw [dlen_zero] at h; omega, fun i hi => by rw [dlen_zero] at hi; omega⟩
  · rw [if_neg h0]
    exact ⟨_, cap, rfl, (fun ad e _ => by cases e; exact hg), ha⟩
theorem rn_nil (w : World) (base : Nat) : RN w base (.agg #[.bool false, .slice none 0 0, .int .i64 0]) (false, 0, 0) :=
  ⟨none, 0, by rw [dlen_zero], (fun ad e => by cases e), 0, 0, fun h => by rw [dlen_zero] at h; omega, fun i hi => by rw [dlen_zero] at hi; omega⟩
theorem Dn.at_ {w : World} {base n z cap : Nat} {ao : Option Addr} (h : Dn w base (.slice ao n cap) n z) : At w ao n z := by
  rcases h with ⟨h1, rfl⟩ | ⟨g, cap', c, h1, h2, h3, h4, h5, h6⟩
  · exact ⟨0, 0, fun h => by omega, fun i hi => by omega⟩
  · simp only [Value.slice.injEq] at h1
    obtain ⟨rfl, -, rfl⟩ := h1
    exact ⟨g, 0, fun _ => rfl, fun i hi => by simp [World.cell?, h4, h6 i hi]⟩
end Go.Proofs.YtmhpicccfaklcaaGreatDoor

/- The document's Shift. -/
namespace Go.Proofs.YtmhpicccfaklcaaGreatDoor
set_option linter.unusedVariables false
set_option linter.unusedSimpArgs false
open Go.RowKit

def ShP (w : World) (na : Bool) (un z : Nat) (e : Int) (VK : Bool) (r : Ending) (w' : World) : Prop := ∃ ao' cap', r = .returned (.tuple #[if VK then .agg #[.bool na, .slice ao' un cap', .int .i64 e] else .agg #[.bool false, .slice none 0 0, .int .i64 0], .int .i64 (if VK then 0 else 2)]) ∧ Dn w' w.heap.size (.slice ao' un cap') un z ∧ Below w.heap.size w w'

end Go.Proofs.YtmhpicccfaklcaaGreatDoor

/- The document's High, far. -/
namespace Go.Proofs.YtmhpicccfaklcaaGreatDoor
set_option linter.unusedVariables false
set_option linter.unusedSimpArgs false
open Go.RowKit

set_option maxHeartbeats 4000000 in
set_option maxRecDepth 200000 in
theorem rhigh_1 (neg : Bool) (ao : Option Addr) (n cap b : Nat) (e : Int) (w : World) (hn0 : ((n : Int) == 0) = false) (hb : b ≤ 64000000000) (he1 : -4000000 ≤ e) (he2 : e ≤ 4000000)
    (k74 : ∀ W, Below w.heap.size w W → Calls Tryz.prog 46 #[.slice ao n cap] W fun r w' => r = .returned (.int .i64 b) ∧ w' = W) :
    Calls Tryz.prog 56 #[.agg #[.bool neg, .slice ao n cap, .int .i64 e]] w fun r w' => r = .returned (.int .i64 (b + e)) ∧ Below w.heap.size w w' := by
  obtain ⟨W, hW⟩ : ∃ W, W = w.alloc (.cells #[.bool neg, .slice ao n cap, .int .i64 e] 24) := ⟨_, rfl⟩
  have hBW : Below w.heap.size w W := by rw [hW]; exact (Below.refl _ _).alloc (Nat.le_refl _) _
  have hbA : W.heap[w.heap.size]? = some (.cells #[.bool neg, .slice ao n cap, .int .i64 e] 24 (0, 0)) := by rw [hW]; exact heap_alloc_new _ _
  obtain ⟨⟨a0, a1, a2⟩, -⟩ := box_cells29 hbA
  have k := fun d => k74 (W.drewN d) (hBW.trans ⟨rfl, rfl, rfl, Nat.le_refl _, fun _ _ => rfl⟩)
  have HB : Hid (Below w.heap.size w W) := hBW
  clear k74 hBW hbA
  go_enter Tryz.func56, Tryz.ntmps56
  go_upto_region 3 with fail
  rw [← hW]
  clear hW
  go_quiet ((go_at_call 46; exact Calls.quiet_of_same (k _)))
  go_wp2
  go_ret
  refine ⟨congrArg Ending.returned (congrArg (Value.int IntKind.i64) ?_), HB.out.trans ⟨rfl, rfl, rfl, Nat.le_refl _, fun _ _ => rfl⟩⟩
  first | rfl | omega | (rw [IntKind.wrap_i64]; omega) | (unfold wrap64; omega)

theorem rhigh {neg : Bool} {ao : Option Addr} {cap x : Nat} {e : Int} {w : World} (h : At w ao (dlen x) x) (h0 : x ≠ 0) (hx : dlen x ≤ 1000000000) (he : -4000000 ≤ e ∧ e ≤ 4000000) :
    Calls Tryz.prog 56 #[.agg #[.bool neg, .slice ao (dlen x) cap, .int .i64 e]] w fun r w' => r = .returned (.int .i64 (bl x + e)) ∧ Below w.heap.size w w' := by
  have hl : 0 < dlen x := Nat.pos_of_ne_zero fun e => h0 (dlen_eq_zero.1 e)
  refine rhigh_1 neg ao (dlen x) cap (bl x) e w (len_ne (n := 0) h0) ?_ he.1 he.2 (fun W hW => ?_)
  · have := bl_le_dlen x
    omega
  · obtain ⟨b, o, h1, h2⟩ := h.later hW
    obtain rfl := h1 hl
    exact r42 b o (dlen x) cap x W hl hx rfl h2

end Go.Proofs.YtmhpicccfaklcaaGreatDoor

/- The document's Plus. -/
namespace Go.Proofs.YtmhpicccfaklcaaGreatDoor
set_option linter.unusedVariables false
set_option linter.unusedSimpArgs false
open Go.RowKit

set_option maxHeartbeats 4000000 in
set_option maxRecDepth 200000 in
theorem rplus_c (na nb : Bool) (ua va : Option Addr) (un uc vn vc X Y : Nat) (ea eb : Int) (w : World) (hne : (na == nb) = true) (hX : dlen (X + Y) ≤ 1000000) (hX1 : dlen X ≤ 1000000) (hX2 : dlen Y ≤ 1000000) (he1 : -4000000 ≤ ea) (he2 : ea ≤ 4000000) (he3 : -4000000 ≤ eb) (he4 : eb ≤ 4000000) (hn0 : ((un : Int) == 0) = false) (hn1 : ((vn : Int) == 0) = false)
    (ku : ∀ W i, Below w.heap.size w W → i = ea - min ea eb → Calls Tryz.prog 110 #[.slice ua un uc, .int .i64 i] W fun r w' => ∃ v, r = .returned v ∧ Ir w' v X ∧ Below W.heap.size W w')
    (kv : ∀ W i, Below w.heap.size w W → i = eb - min ea eb → Calls Tryz.prog 110 #[.slice va vn vc, .int .i64 i] W fun r w' => ∃ v, r = .returned v ∧ Ir w' v Y ∧ Below W.heap.size W w') :
    Calls Tryz.prog 149 #[.agg #[.bool na, .slice ua un uc, .int .i64 ea], .agg #[.bool nb, .slice va vn vc, .int .i64 eb]] w fun r w' => ∃ a, r = .returned a ∧ Nr w' w.heap.size a na (X + Y) (min ea eb) ∧ Below w.heap.size w w' := by
  obtain ⟨W, hW⟩ : ∃ W, W = ((w.alloc (.cells #[.bool na, .slice ua un uc, .int .i64 ea] 24)).alloc (.cells #[.bool nb, .slice va vn vc, .int .i64 eb] 24)).alloc (.cells #[.bool false, .slice none 0 0, .int .i64 0] 24) := ⟨_, rfl⟩
  obtain ⟨hA, hBb, hC, hsz, hBW⟩ := boxes3 _ _ _ hW
  have k1 := fun i hi => ku W i hBW hi
  have HKV : Hid (∀ W i, Below w.heap.size w W → i = eb - min ea eb → Calls Tryz.prog 110 #[.slice va vn vc, .int .i64 i] W fun r w' => ∃ v, r = .returned v ∧ Ir w' v Y ∧ Below W.heap.size W w') := kv
  have HH : Hid ((W.heap[w.heap.size]? = some (.cells #[.bool na, .slice ua un uc, .int .i64 ea] 24 (0, 0)) ∧ W.heap[w.heap.size + 1]? = some (.cells #[.bool nb, .slice va vn vc, .int .i64 eb] 24 (0, 0)) ∧ W.heap[w.heap.size + 1 + 1]? = some (.cells #[.bool false, .slice none 0 0, .int .i64 0] 24 (0, 0))) ∧ W.heap.size = w.heap.size + 1 + 1 + 1 ∧ Below w.heap.size w W) := ⟨⟨hA, hBb, hC⟩, hsz, hBW⟩
  clear hA hBb hC hsz hBW ku kv
  go_enter Tryz.func149, Tryz.ntmps149
  go_wp2_with fail
  rw [← hW]
  clear hW
  refine (k1 _ (by first | rfl | (rw [IntKind.wrap_i64]; omega) | omega)).mono ?_
  rintro r w4 ⟨p, rfl, hp, hB4⟩
  clear k1
  obtain ⟨⟨a0, a1, a2⟩, -⟩ := box_cells29 (box_later HH.out.1.1 hB4 (by have := HH.out.2.1; omega))
  obtain ⟨⟨b0, b1, b2⟩, -⟩ := box_cells29 (box_later HH.out.1.2.1 hB4 (by have := HH.out.2.1; omega))
  have HB4 : Hid (Below W.heap.size W w4) := hB4
  have HP4 : Hid (Ir w4 p X) := hp
  clear hB4 hp
  go_wp2_with fail
  refine (HKV.out w4 _ (HH.out.2.2.trans (HB4.out.mono HH.out.2.2.size)) (by first | rfl | (rw [IntKind.wrap_i64]; omega) | omega)).mono ?_
  rintro r w5 ⟨q, rfl, hq, hB5⟩
  have hB5' : Below W.heap.size W w5 := HB4.out.trans (hB5.mono HB4.out.size)
  have hp := HP4.out.later hB5
  clear a0 a1 a2 b0 b1 b2 hB5
  obtain ⟨⟨h1, h2, h3⟩, hs, hBW⟩ := HH.out
  obtain ⟨⟨a0, a1, a2⟩, -⟩ := box_cells29 (box_later h1 hB5' (by omega))
  obtain ⟨⟨b0, b1, b2⟩, -⟩ := box_cells29 (box_later h2 hB5' (by omega))
  have HC5 : Hid (w5.heap[w.heap.size + 1 + 1]? = some (.cells #[.bool false, .slice none 0 0, .int .i64 0] 24 (0, 0)) ∧ Below W.heap.size W w5) := ⟨box_later h3 hB5' (by omega), hB5'⟩
  have hp6 := hp
  have hq6 := hq
  have kS : ∀ W6, Below w5.heap.size w5 W6 → Calls Tryz.prog 109 #[p, q] W6 fun r w' => ∃ v, r = .returned v ∧ Ir w' v (X + Y) ∧ Below w5.heap.size w5 w' := fun W6 hb =>
    (rsum (w := W6) (hp6.later hb) (hq6.later hb) (by omega) (by omega)).mono fun r w' ⟨v, e1, o1, o2⟩ => ⟨v, e1, o1, hb.trans (o2.mono hb.size)⟩
  have hKeep : ∀ w', Below w5.heap.size w5 w' → w'.cell? ⟨w.heap.size, 0, none⟩ = some (.bool na) := fun w' hb => (hb.cell (World.block_lt_of_cell? _ _ a0)).trans a0
  have HK : Hid (∀ w', Below w5.heap.size w5 w' → w'.cell? ⟨w.heap.size, 0, none⟩ = some (.bool na)) := hKeep
  have HR5 : Hid (∀ dd, Below w5.heap.size w5 (w5.drewN dd).drew) := (fun dd => ⟨rfl, rfl, rfl, Nat.le_refl _, fun _ _ => rfl⟩ : ∀ dd, Below w5.heap.size w5 (w5.drewN dd).drew)
  have hR5 : Below w5.heap.size w5 w5.drew := (Below.refl _ _).drew
  have k56 : ∀ v7 w7, Ir w7 v7 (X + Y) → Below w5.heap.size w5 w7 → Calls Tryz.prog 132 #[.bool na, v7, .int .i64 (min ea eb)] w7 fun r w' => ∃ s ao n cap ex, r = .returned (.agg #[.bool s, .slice ao n cap, .int .i64 ex]) ∧
      Hid (Nr w' w7.heap.size (.agg #[.bool s, .slice ao n cap, .int .i64 ex]) na (X + Y) (min ea eb) ∧ w5.heap.size ≤ w7.heap.size) ∧ Below w5.heap.size w5 w' ∧ Hid (w'.heap[w.heap.size + 1 + 1]? = some (.cells #[.bool false, .slice none 0 0, .int .i64 0] 24 (0, 0))) ∧
      (w'.cell? ⟨w.heap.size + 1 + 1, 0, none⟩ = some (.bool false) ∧ w'.cell? ⟨w.heap.size + 1 + 1, 1, none⟩ = some (.slice none 0 0) ∧ w'.cell? ⟨w.heap.size + 1 + 1, 2, none⟩ = some (.int .i64 0)) ∧ (w'.frozen? ⟨w.heap.size + 1 + 1, 0, none⟩ = false ∧ w'.frozen? ⟨w.heap.size + 1 + 1, 1, none⟩ = false ∧ w'.frozen? ⟨w.heap.size + 1 + 1, 2, none⟩ = false) := by
    intro v7 w7 ho hb
    obtain ⟨ao0, cap0, rfl, hl0, hat0⟩ := ho
    refine (r34 hat0 (Nat.le_refl _) hl0 (by omega) (by omega)).mono ?_
    rintro r w8 ⟨a, rfl, hN, hb8⟩
    obtain ⟨s, ao, n, cap, ex, rfl⟩ := hN.shape
    have hb58 : Below w5.heap.size w5 w8 := hb.trans (hb8.mono hb.size)
    have hblk := box_later HC5.out.1 hb58 (by have := HC5.out.2.size; omega)
    obtain ⟨f1, f2⟩ := box_cells29 hblk
    exact ⟨s, ao, n, cap, ex, rfl, ⟨hN, hb.size⟩, hb58, hblk, f1, f2⟩
  clear h1 h2 h3 hp hq hp6 hq6 hB5' hs hBW hKeep hX hX1 hX2 HR5
  go_wp2
  go_region_held3 (fun w' => w'.cell? ⟨w.heap.size, 0, none⟩ = some (.bool na)) (first | (with_reducible assumption) | (refine HK.out _ ?_; with_reducible assumption) | (rw [World.cell?_setCell_other _ _ _ _ (by simp), World.cell?_setCell_other _ _ _ _ (by simp), World.cell?_setCell_other _ _ _ _ (by simp)]; refine HK.out _ ?_; with_reducible assumption) | go_keep)
    (first | (go_at_call 109; refine (kS _ (by first | (with_reducible assumption) | exact hR5)).mono ?_; rintro r w7 ⟨v7, rfl, ho7, hb7⟩) | (go_at_call 132; refine (k56 _ _ ho7 hb7).mono ?_; rintro r w8 ⟨s8, ao8, n8, cap8, ex8, rfl, hN8, hb8, hblk8, ⟨x1, x2, x3⟩, x4, x5, x6⟩))
  have HF : Hid (Below w5.heap.size w5 w8) := hb8
  clear ho7 hb7 hb8 k56 kS x1 x2 x3 x4 x5 x6 a0 a1 a2 b0 b1 b2 HK
  go_wp2
  refine bodyPost_ret (results_cell_row rfl _ _ (w.heap.size + 1 + 1) 24 #[.bool s8, .slice ao8 n8 cap8, .int .i64 ex8] (0, 0) _ rfl (store3_29 _ _ _ hblk8.out) Tryz.underlying24 rfl Tryz.info24) rfl ?_
  obtain ⟨-, hs, hBW⟩ := HH.out
  have hs4 := HC5.out.2.size
  have hs5 := hN8.out.2
  exact ⟨_, rfl, (hN8.out.1.store (by omega) _ _ _).mono (by omega), below_store3 (hBW.trans ((HC5.out.2.trans (HF.out.mono hs4)).mono hBW.size)) (by omega) _ _ _⟩
set_option maxHeartbeats 4000000 in
set_option maxRecDepth 200000 in
theorem rplus_d (na nb : Bool) (ua va : Option Addr) (un uc vn vc X Y : Nat) (ea eb : Int) (w : World) (hlt : X < Y) (hne : (na == nb) = false) (hX : dlen (Y - X) ≤ 1000000) (hX1 : dlen X ≤ 1000000) (hX2 : dlen Y ≤ 1000000) (he1 : -4000000 ≤ ea) (he2 : ea ≤ 4000000) (he3 : -4000000 ≤ eb) (he4 : eb ≤ 4000000) (hn0 : ((un : Int) == 0) = false) (hn1 : ((vn : Int) == 0) = false)
    (ku : ∀ W i, Below w.heap.size w W → i = ea - min ea eb → Calls Tryz.prog 110 #[.slice ua un uc, .int .i64 i] W fun r w' => ∃ v, r = .returned v ∧ Ir w' v X ∧ Below W.heap.size W w')
    (kv : ∀ W i, Below w.heap.size w W → i = eb - min ea eb → Calls Tryz.prog 110 #[.slice va vn vc, .int .i64 i] W fun r w' => ∃ v, r = .returned v ∧ Ir w' v Y ∧ Below W.heap.size W w') :
    Calls Tryz.prog 149 #[.agg #[.bool na, .slice ua un uc, .int .i64 ea], .agg #[.bool nb, .slice va vn vc, .int .i64 eb]] w fun r w' => ∃ a, r = .returned a ∧ Nr w' w.heap.size a nb (Y - X) (min ea eb) ∧ Below w.heap.size w w' := by
  obtain ⟨W, hW⟩ : ∃ W, W = ((w.alloc (.cells #[.bool na, .slice ua un uc, .int .i64 ea] 24)).alloc (.cells #[.bool nb, .slice va vn vc, .int .i64 eb] 24)).alloc (.cells #[.bool false, .slice none 0 0, .int .i64 0] 24) := ⟨_, rfl⟩
  obtain ⟨hA, hBb, hC, hsz, hBW⟩ := boxes3 _ _ _ hW
  have k1 := fun i hi => ku W i hBW hi
  have HKV : Hid (∀ W i, Below w.heap.size w W → i = eb - min ea eb → Calls Tryz.prog 110 #[.slice va vn vc, .int .i64 i] W fun r w' => ∃ v, r = .returned v ∧ Ir w' v Y ∧ Below W.heap.size W w') := kv
  have HH : Hid ((W.heap[w.heap.size]? = some (.cells #[.bool na, .slice ua un uc, .int .i64 ea] 24 (0, 0)) ∧ W.heap[w.heap.size + 1]? = some (.cells #[.bool nb, .slice va vn vc, .int .i64 eb] 24 (0, 0)) ∧ W.heap[w.heap.size + 1 + 1]? = some (.cells #[.bool false, .slice none 0 0, .int .i64 0] 24 (0, 0))) ∧ W.heap.size = w.heap.size + 1 + 1 + 1 ∧ Below w.heap.size w W) := ⟨⟨hA, hBb, hC⟩, hsz, hBW⟩
  clear hA hBb hC hsz hBW ku kv
  go_enter Tryz.func149, Tryz.ntmps149
  go_wp2_with fail
  rw [← hW]
  clear hW
  refine (k1 _ (by first | rfl | (rw [IntKind.wrap_i64]; omega) | omega)).mono ?_
  rintro r w4 ⟨p, rfl, hp, hB4⟩
  clear k1
  obtain ⟨⟨a0, a1, a2⟩, -⟩ := box_cells29 (box_later HH.out.1.1 hB4 (by have := HH.out.2.1; omega))
  obtain ⟨⟨b0, b1, b2⟩, -⟩ := box_cells29 (box_later HH.out.1.2.1 hB4 (by have := HH.out.2.1; omega))
  have HB4 : Hid (Below W.heap.size W w4) := hB4
  have HP4 : Hid (Ir w4 p X) := hp
  clear hB4 hp
  go_wp2_with fail
  refine (HKV.out w4 _ (HH.out.2.2.trans (HB4.out.mono HH.out.2.2.size)) (by first | rfl | (rw [IntKind.wrap_i64]; omega) | omega)).mono ?_
  rintro r w5 ⟨q, rfl, hq, hB5⟩
  have hB5' : Below W.heap.size W w5 := HB4.out.trans (hB5.mono HB4.out.size)
  have hp := HP4.out.later hB5
  clear a0 a1 a2 b0 b1 b2 hB5
  obtain ⟨⟨h1, h2, h3⟩, hs, hBW⟩ := HH.out
  obtain ⟨⟨a0, a1, a2⟩, -⟩ := box_cells29 (box_later h1 hB5' (by omega))
  obtain ⟨⟨b0, b1, b2⟩, -⟩ := box_cells29 (box_later h2 hB5' (by omega))
  have HC5 : Hid (w5.heap[w.heap.size + 1 + 1]? = some (.cells #[.bool false, .slice none 0 0, .int .i64 0] 24 (0, 0)) ∧ Below W.heap.size W w5) := ⟨box_later h3 hB5' (by omega), hB5'⟩
  have hp6 := hp
  have hq6 := hq
  have kS : ∀ W6, Below w5.heap.size w5 W6 → Calls Tryz.prog 185 #[q, p] W6 fun r w' => ∃ v, r = .returned v ∧ Ir w' v (Y - X) ∧ Below w5.heap.size w5 w' := fun W6 hb =>
    (rless (w := W6) (hq6.later hb) (hp6.later hb) (by omega) (by omega)).mono fun r w' ⟨v, e1, o1, o2⟩ => ⟨v, e1, o1, hb.trans (o2.mono hb.size)⟩
  have hKeep : ∀ w', Below w5.heap.size w5 w' → w'.cell? ⟨w.heap.size + 1, 0, none⟩ = some (.bool nb) := fun w' hb => (hb.cell (World.block_lt_of_cell? _ _ b0)).trans b0
  have HK : Hid (∀ w', Below w5.heap.size w5 w' → w'.cell? ⟨w.heap.size + 1, 0, none⟩ = some (.bool nb)) := hKeep
  have HR5 : Hid (∀ dd, Below w5.heap.size w5 (w5.drewN dd).drew) := (fun dd => ⟨rfl, rfl, rfl, Nat.le_refl _, fun _ _ => rfl⟩ : ∀ dd, Below w5.heap.size w5 (w5.drewN dd).drew)
  have hR5 : Below w5.heap.size w5 w5.drew := (Below.refl _ _).drew
  have k56 : ∀ v7 w7, Ir w7 v7 (Y - X) → Below w5.heap.size w5 w7 → Calls Tryz.prog 132 #[.bool nb, v7, .int .i64 (min ea eb)] w7 fun r w' => ∃ s ao n cap ex, r = .returned (.agg #[.bool s, .slice ao n cap, .int .i64 ex]) ∧
      Hid (Nr w' w7.heap.size (.agg #[.bool s, .slice ao n cap, .int .i64 ex]) nb (Y - X) (min ea eb) ∧ w5.heap.size ≤ w7.heap.size) ∧ Below w5.heap.size w5 w' ∧ Hid (w'.heap[w.heap.size + 1 + 1]? = some (.cells #[.bool false, .slice none 0 0, .int .i64 0] 24 (0, 0))) ∧
      (w'.cell? ⟨w.heap.size + 1 + 1, 0, none⟩ = some (.bool false) ∧ w'.cell? ⟨w.heap.size + 1 + 1, 1, none⟩ = some (.slice none 0 0) ∧ w'.cell? ⟨w.heap.size + 1 + 1, 2, none⟩ = some (.int .i64 0)) ∧ (w'.frozen? ⟨w.heap.size + 1 + 1, 0, none⟩ = false ∧ w'.frozen? ⟨w.heap.size + 1 + 1, 1, none⟩ = false ∧ w'.frozen? ⟨w.heap.size + 1 + 1, 2, none⟩ = false) := by
    intro v7 w7 ho hb
    obtain ⟨ao0, cap0, rfl, hl0, hat0⟩ := ho
    refine (r34 hat0 (Nat.le_refl _) hl0 (by omega) (by omega)).mono ?_
    rintro r w8 ⟨a, rfl, hN, hb8⟩
    obtain ⟨s, ao, n, cap, ex, rfl⟩ := hN.shape
    have hb58 : Below w5.heap.size w5 w8 := hb.trans (hb8.mono hb.size)
    have hblk := box_later HC5.out.1 hb58 (by have := HC5.out.2.size; omega)
    obtain ⟨f1, f2⟩ := box_cells29 hblk
    exact ⟨s, ao, n, cap, ex, rfl, ⟨hN, hb.size⟩, hb58, hblk, f1, f2⟩
  have k129 := rord hp hq (by omega) (by omega)
  have hcm : cmpI (X : Int) (Y : Int) < 0 := by unfold cmpI; rw [if_pos (by omega)]; omega
  generalize cmpI (X : Int) (Y : Int) = cv at *
  clear h1 h2 h3 hp hq hp6 hq6 hB5' hs hBW hKeep hX hX1 hX2 hlt
  go_wp2_with fail
  refine k129.mono ?_
  rintro r w7 ⟨rfl, dd, rfl⟩
  have hR5 := HR5.out dd
  clear k129
  have z0 : (w5.drewN dd).cell? ⟨w.heap.size + 1, 0, none⟩ = some (.bool nb) := b0
  go_wp2
  go_region_held3 (fun w' => w'.cell? ⟨w.heap.size + 1, 0, none⟩ = some (.bool nb)) (first | (with_reducible assumption) | (refine HK.out _ ?_; with_reducible assumption) | (rw [World.cell?_setCell_other _ _ _ _ (by simp), World.cell?_setCell_other _ _ _ _ (by simp), World.cell?_setCell_other _ _ _ _ (by simp)]; refine HK.out _ ?_; with_reducible assumption) | go_keep)
    (first | (go_at_call 185; refine (kS _ (by first | (with_reducible assumption) | exact hR5)).mono ?_; rintro r w7 ⟨v7, rfl, ho7, hb7⟩) | (go_at_call 132; refine (k56 _ _ ho7 hb7).mono ?_; rintro r w8 ⟨s8, ao8, n8, cap8, ex8, rfl, hN8, hb8, hblk8, ⟨x1, x2, x3⟩, x4, x5, x6⟩))
  have HF : Hid (Below w5.heap.size w5 w8) := hb8
  clear ho7 hb7 hb8 k56 kS x1 x2 x3 x4 x5 x6 a0 a1 a2 b0 b1 b2 HK
  go_wp2
  refine bodyPost_ret (results_cell_row rfl _ _ (w.heap.size + 1 + 1) 24 #[.bool s8, .slice ao8 n8 cap8, .int .i64 ex8] (0, 0) _ rfl (store3_29 _ _ _ hblk8.out) Tryz.underlying24 rfl Tryz.info24) rfl ?_
  obtain ⟨-, hs, hBW⟩ := HH.out
  have hs4 := HC5.out.2.size
  have hs5 := hN8.out.2
  exact ⟨_, rfl, (hN8.out.1.store (by omega) _ _ _).mono (by omega), below_store3 (hBW.trans ((HC5.out.2.trans (HF.out.mono hs4)).mono hBW.size)) (by omega) _ _ _⟩
set_option maxHeartbeats 4000000 in
set_option maxRecDepth 200000 in
theorem rplus_e (na nb : Bool) (ua va : Option Addr) (un uc vn vc X Y : Nat) (ea eb : Int) (w : World) (hlt : Y ≤ X) (hne : (na == nb) = false) (hX : dlen (X - Y) ≤ 1000000) (hX1 : dlen X ≤ 1000000) (hX2 : dlen Y ≤ 1000000) (he1 : -4000000 ≤ ea) (he2 : ea ≤ 4000000) (he3 : -4000000 ≤ eb) (he4 : eb ≤ 4000000) (hn0 : ((un : Int) == 0) = false) (hn1 : ((vn : Int) == 0) = false)
    (ku : ∀ W i, Below w.heap.size w W → i = ea - min ea eb → Calls Tryz.prog 110 #[.slice ua un uc, .int .i64 i] W fun r w' => ∃ v, r = .returned v ∧ Ir w' v X ∧ Below W.heap.size W w')
    (kv : ∀ W i, Below w.heap.size w W → i = eb - min ea eb → Calls Tryz.prog 110 #[.slice va vn vc, .int .i64 i] W fun r w' => ∃ v, r = .returned v ∧ Ir w' v Y ∧ Below W.heap.size W w') :
    Calls Tryz.prog 149 #[.agg #[.bool na, .slice ua un uc, .int .i64 ea], .agg #[.bool nb, .slice va vn vc, .int .i64 eb]] w fun r w' => ∃ a, r = .returned a ∧ Nr w' w.heap.size a na (X - Y) (min ea eb) ∧ Below w.heap.size w w' := by
  obtain ⟨W, hW⟩ : ∃ W, W = ((w.alloc (.cells #[.bool na, .slice ua un uc, .int .i64 ea] 24)).alloc (.cells #[.bool nb, .slice va vn vc, .int .i64 eb] 24)).alloc (.cells #[.bool false, .slice none 0 0, .int .i64 0] 24) := ⟨_, rfl⟩
  obtain ⟨hA, hBb, hC, hsz, hBW⟩ := boxes3 _ _ _ hW
  have k1 := fun i hi => ku W i hBW hi
  have HKV : Hid (∀ W i, Below w.heap.size w W → i = eb - min ea eb → Calls Tryz.prog 110 #[.slice va vn vc, .int .i64 i] W fun r w' => ∃ v, r = .returned v ∧ Ir w' v Y ∧ Below W.heap.size W w') := kv
  have HH : Hid ((W.heap[w.heap.size]? = some (.cells #[.bool na, .slice ua un uc, .int .i64 ea] 24 (0, 0)) ∧ W.heap[w.heap.size + 1]? = some (.cells #[.bool nb, .slice va vn vc, .int .i64 eb] 24 (0, 0)) ∧ W.heap[w.heap.size + 1 + 1]? = some (.cells #[.bool false, .slice none 0 0, .int .i64 0] 24 (0, 0))) ∧ W.heap.size = w.heap.size + 1 + 1 + 1 ∧ Below w.heap.size w W) := ⟨⟨hA, hBb, hC⟩, hsz, hBW⟩
  clear hA hBb hC hsz hBW ku kv
  go_enter Tryz.func149, Tryz.ntmps149
  go_wp2_with fail
  rw [← hW]
  clear hW
  refine (k1 _ (by first | rfl | (rw [IntKind.wrap_i64]; omega) | omega)).mono ?_
  rintro r w4 ⟨p, rfl, hp, hB4⟩
  clear k1
  obtain ⟨⟨a0, a1, a2⟩, -⟩ := box_cells29 (box_later HH.out.1.1 hB4 (by have := HH.out.2.1; omega))
  obtain ⟨⟨b0, b1, b2⟩, -⟩ := box_cells29 (box_later HH.out.1.2.1 hB4 (by have := HH.out.2.1; omega))
  have HB4 : Hid (Below W.heap.size W w4) := hB4
  have HP4 : Hid (Ir w4 p X) := hp
  clear hB4 hp
  go_wp2_with fail
  refine (HKV.out w4 _ (HH.out.2.2.trans (HB4.out.mono HH.out.2.2.size)) (by first | rfl | (rw [IntKind.wrap_i64]; omega) | omega)).mono ?_
  rintro r w5 ⟨q, rfl, hq, hB5⟩
  have hB5' : Below W.heap.size W w5 := HB4.out.trans (hB5.mono HB4.out.size)
  have hp := HP4.out.later hB5
  clear a0 a1 a2 b0 b1 b2 hB5
  obtain ⟨⟨h1, h2, h3⟩, hs, hBW⟩ := HH.out
  obtain ⟨⟨a0, a1, a2⟩, -⟩ := box_cells29 (box_later h1 hB5' (by omega))
  obtain ⟨⟨b0, b1, b2⟩, -⟩ := box_cells29 (box_later h2 hB5' (by omega))
  have HC5 : Hid (w5.heap[w.heap.size + 1 + 1]? = some (.cells #[.bool false, .slice none 0 0, .int .i64 0] 24 (0, 0)) ∧ Below W.heap.size W w5) := ⟨box_later h3 hB5' (by omega), hB5'⟩
  have hp6 := hp
  have hq6 := hq
  have kS : ∀ W6, Below w5.heap.size w5 W6 → Calls Tryz.prog 185 #[p, q] W6 fun r w' => ∃ v, r = .returned v ∧ Ir w' v (X - Y) ∧ Below w5.heap.size w5 w' := fun W6 hb =>
    (rless (w := W6) (hp6.later hb) (hq6.later hb) (by omega) (by omega)).mono fun r w' ⟨v, e1, o1, o2⟩ => ⟨v, e1, o1, hb.trans (o2.mono hb.size)⟩
  have hKeep : ∀ w', Below w5.heap.size w5 w' → w'.cell? ⟨w.heap.size, 0, none⟩ = some (.bool na) := fun w' hb => (hb.cell (World.block_lt_of_cell? _ _ a0)).trans a0
  have HK : Hid (∀ w', Below w5.heap.size w5 w' → w'.cell? ⟨w.heap.size, 0, none⟩ = some (.bool na)) := hKeep
  have HR5 : Hid (∀ dd, Below w5.heap.size w5 (w5.drewN dd).drew) := (fun dd => ⟨rfl, rfl, rfl, Nat.le_refl _, fun _ _ => rfl⟩ : ∀ dd, Below w5.heap.size w5 (w5.drewN dd).drew)
  have hR5 : Below w5.heap.size w5 w5.drew := (Below.refl _ _).drew
  have k56 : ∀ v7 w7, Ir w7 v7 (X - Y) → Below w5.heap.size w5 w7 → Calls Tryz.prog 132 #[.bool na, v7, .int .i64 (min ea eb)] w7 fun r w' => ∃ s ao n cap ex, r = .returned (.agg #[.bool s, .slice ao n cap, .int .i64 ex]) ∧
      Hid (Nr w' w7.heap.size (.agg #[.bool s, .slice ao n cap, .int .i64 ex]) na (X - Y) (min ea eb) ∧ w5.heap.size ≤ w7.heap.size) ∧ Below w5.heap.size w5 w' ∧ Hid (w'.heap[w.heap.size + 1 + 1]? = some (.cells #[.bool false, .slice none 0 0, .int .i64 0] 24 (0, 0))) ∧
      (w'.cell? ⟨w.heap.size + 1 + 1, 0, none⟩ = some (.bool false) ∧ w'.cell? ⟨w.heap.size + 1 + 1, 1, none⟩ = some (.slice none 0 0) ∧ w'.cell? ⟨w.heap.size + 1 + 1, 2, none⟩ = some (.int .i64 0)) ∧ (w'.frozen? ⟨w.heap.size + 1 + 1, 0, none⟩ = false ∧ w'.frozen? ⟨w.heap.size + 1 + 1, 1, none⟩ = false ∧ w'.frozen? ⟨w.heap.size + 1 + 1, 2, none⟩ = false) := by
    intro v7 w7 ho hb
    obtain ⟨ao0, cap0, rfl, hl0, hat0⟩ := ho
    refine (r34 hat0 (Nat.le_refl _) hl0 (by omega) (by omega)).mono ?_
    rintro r w8 ⟨a, rfl, hN, hb8⟩
    obtain ⟨s, ao, n, cap, ex, rfl⟩ := hN.shape
    have hb58 : Below w5.heap.size w5 w8 := hb.trans (hb8.mono hb.size)
    have hblk := box_later HC5.out.1 hb58 (by have := HC5.out.2.size; omega)
    obtain ⟨f1, f2⟩ := box_cells29 hblk
    exact ⟨s, ao, n, cap, ex, rfl, ⟨hN, hb.size⟩, hb58, hblk, f1, f2⟩
  have k129 := rord hp hq (by omega) (by omega)
  have hcm : ¬ cmpI (X : Int) (Y : Int) < 0 := by unfold cmpI; rw [if_neg (by omega)]; split <;> omega
  generalize cmpI (X : Int) (Y : Int) = cv at *
  clear h1 h2 h3 hp hq hp6 hq6 hB5' hs hBW hKeep hX hX1 hX2 hlt
  go_wp2_with fail
  refine k129.mono ?_
  rintro r w7 ⟨rfl, dd, rfl⟩
  have hR5 := HR5.out dd
  clear k129
  have z0 : (w5.drewN dd).cell? ⟨w.heap.size, 0, none⟩ = some (.bool na) := a0
  go_wp2
  go_region_held3 (fun w' => w'.cell? ⟨w.heap.size, 0, none⟩ = some (.bool na)) (first | (with_reducible assumption) | (refine HK.out _ ?_; with_reducible assumption) | (rw [World.cell?_setCell_other _ _ _ _ (by simp), World.cell?_setCell_other _ _ _ _ (by simp), World.cell?_setCell_other _ _ _ _ (by simp)]; refine HK.out _ ?_; with_reducible assumption) | go_keep)
    (first | (go_at_call 185; refine (kS _ (by first | (with_reducible assumption) | exact hR5)).mono ?_; rintro r w7 ⟨v7, rfl, ho7, hb7⟩) | (go_at_call 132; refine (k56 _ _ ho7 hb7).mono ?_; rintro r w8 ⟨s8, ao8, n8, cap8, ex8, rfl, hN8, hb8, hblk8, ⟨x1, x2, x3⟩, x4, x5, x6⟩))
  have HF : Hid (Below w5.heap.size w5 w8) := hb8
  clear ho7 hb7 hb8 k56 kS x1 x2 x3 x4 x5 x6 a0 a1 a2 b0 b1 b2 HK
  go_wp2
  refine bodyPost_ret (results_cell_row rfl _ _ (w.heap.size + 1 + 1) 24 #[.bool s8, .slice ao8 n8 cap8, .int .i64 ex8] (0, 0) _ rfl (store3_29 _ _ _ hblk8.out) Tryz.underlying24 rfl Tryz.info24) rfl ?_
  obtain ⟨-, hs, hBW⟩ := HH.out
  have hs4 := HC5.out.2.size
  have hs5 := hN8.out.2
  exact ⟨_, rfl, (hN8.out.1.store (by omega) _ _ _).mono (by omega), below_store3 (hBW.trans ((HC5.out.2.trans (HF.out.mono hs4)).mono hBW.size)) (by omega) _ _ _⟩
end Go.Proofs.YtmhpicccfaklcaaGreatDoor

/- Add and Up, refused. -/
namespace Go.Proofs.YtmhpicccfaklcaaGreatDoor
set_option linter.unusedVariables false
set_option linter.unusedSimpArgs false
open Go.RowKit

set_option maxRecDepth 200000 in
theorem c34_2 (na nb : Bool) (ua va : Option Addr) (un uc vn vc : Nat) (ea eb : Int) (w : World)
    (k67 : ∀ W g, Below w.heap.size w W → W.heap[g]? = some (.cells #[.bool na, .slice ua un uc, .int .i64 ea, .bool nb, .slice va vn vc, .int .i64 eb] 25 (0, 0)) → Calls Tryz.prog 47 #[.slice (some ⟨g, 0, none⟩) 2 2] W fun r w' => r = .returned (.bool false) ∧ Below W.heap.size W w') :
    Calls Tryz.prog 67 #[NumV na (.slice ua un uc) ea, NumV nb (.slice va vn vc) eb] w fun r w' => r = .returned (.tuple #[Nil, .int .i64 1]) ∧ Below w.heap.size w w' := by
  obtain ⟨W, hW⟩ : ∃ W, W = ((w.alloc (.cells #[.bool na, .slice ua un uc, .int .i64 ea] 25)).alloc (.cells #[.bool nb, .slice va vn vc, .int .i64 eb] 25)).alloc (.cells #[.bool false, .slice none 0 0, .int .i64 0] 25) := ⟨_, rfl⟩
  obtain ⟨hA, hBb, hC, hsz, hBW⟩ := boxes3 _ _ _ hW
  have hB4 : Below w.heap.size w (W.alloc (.cells #[.bool na, .slice ua un uc, .int .i64 ea, .bool nb, .slice va vn vc, .int .i64 eb] 25)) := hBW.alloc hBW.size _
  have k1 := k67 (W.alloc (.cells #[.bool na, .slice ua un uc, .int .i64 ea, .bool nb, .slice va vn vc, .int .i64 eb] 25)) (w.heap.size + 1 + 1 + 1) hB4 (by rw [← hsz]; exact heap_alloc_new _ _)
  have HH : Hid (W.heap[w.heap.size + 1 + 1]? = some (.cells #[.bool false, .slice none 0 0, .int .i64 0] 25 (0, 0)) ∧ W.heap.size = w.heap.size + 1 + 1 + 1 ∧ Below w.heap.size w W ∧ Below W.heap.size W (W.alloc (.cells #[.bool na, .slice ua un uc, .int .i64 ea, .bool nb, .slice va vn vc, .int .i64 eb] 25))) := ⟨hC, hsz, hBW, (Below.refl _ _).alloc (Nat.le_refl _) _⟩
  unfold NumV
  clear hA hBb hC hsz hBW hB4 k67
  go_enter Tryz.func67, Tryz.ntmps67
  go_wp2_with fail
  rw [← hW]
  clear hW
  refine k1.mono ?_
  rintro r w1 ⟨rfl, hB1⟩
  clear k1
  have hBW1 : Below W.heap.size W w1 := HH.out.2.2.2.trans (hB1.mono HH.out.2.2.2.size)
  have HC3 : Hid (w1.heap[w.heap.size + 1 + 1]? = some (.cells #[.bool false, .slice none 0 0, .int .i64 0] 25 (0, 0))) := box_later HH.out.1 hBW1 (by have := HH.out.2.1; omega)
  have HB1 : Hid (Below W.heap.size W w1) := hBW1
  obtain ⟨⟨x1, x2, x3⟩, x4, x5, x6⟩ := box_cells HC3.out
  clear hB1 hBW1
  go_wp2
  refine bodyPost_ret (results_cell_tmp_row rfl _ _ (w.heap.size + 1 + 1) 25 #[.bool false, .slice none 0 0, .int .i64 0] (0, 0) _ rfl (store3 _ _ _ HC3.out) Tryz.underlying25 rfl Tryz.info25) rfl ?_
  obtain ⟨b1, b2, b3, b4⟩ := HH.out
  exact ⟨rfl, below_store3 (b3.trans (HB1.out.mono b3.size)) (by omega) _ _ _⟩
end Go.Proofs.YtmhpicccfaklcaaGreatDoor

/- The document's Plus joined, Add. -/
namespace Go.Proofs.YtmhpicccfaklcaaGreatDoor
set_option linter.unusedVariables false
set_option linter.unusedSimpArgs false
open Go.RowKit

set_option maxHeartbeats 4000000 in
set_option maxRecDepth 200000 in
theorem rplus_a (na nb : Bool) (ua va : Option Addr) (uc vn vc : Nat) (ea eb : Int) (w : World) (z : Nat) (hAr : Arg w va vn vc z) :
    Calls Tryz.prog 149 #[.agg #[.bool na, .slice ua 0 uc, .int .i64 ea], .agg #[.bool nb, .slice va vn vc, .int .i64 eb]] w fun r w' => ∃ ao' cap', r = .returned (.agg #[.bool nb, .slice ao' vn cap', .int .i64 eb]) ∧ Dn w' w.heap.size (.slice ao' vn cap') vn z ∧ Below w.heap.size w w' := by
  obtain ⟨W, hW⟩ : ∃ W, W = ((w.alloc (.cells #[.bool na, .slice ua 0 uc, .int .i64 ea] 24)).alloc (.cells #[.bool nb, .slice va vn vc, .int .i64 eb] 24)).alloc (.cells #[.bool false, .slice none 0 0, .int .i64 0] 24) := ⟨_, rfl⟩
  obtain ⟨hA, hBb, hC, hsz, hBW⟩ := boxes3 _ _ _ hW
  have hn := hAr.small
  have k1 := rtwin (ng := nb) (e := eb) (hAr.later hBW)
  have HH : Hid (W.heap[w.heap.size + 1 + 1]? = some (.cells #[.bool false, .slice none 0 0, .int .i64 0] 24 (0, 0)) ∧ W.heap.size = w.heap.size + 1 + 1 + 1 ∧ Below w.heap.size w W) := ⟨hC, hsz, hBW⟩
  clear hA hBb hC hsz hBW hAr
  go_enter Tryz.func149, Tryz.ntmps149
  go_wp2_with fail
  rw [← hW]
  clear hW
  refine k1.mono ?_
  rintro r w4 ⟨ao4, cap4, rfl, hd, hB4⟩
  have HC4 : Hid (w4.heap[w.heap.size + 1 + 1]? = some (.cells #[.bool false, .slice none 0 0, .int .i64 0] 24 (0, 0))) := box_later HH.out.1 hB4 (by have := HH.out.2.1; omega)
  obtain ⟨⟨x1, x2, x3⟩, x4, x5, x6⟩ := box_cells29 HC4.out
  have HD4 : Hid (Dn w4 W.heap.size (.slice ao4 vn cap4) vn z ∧ Below W.heap.size W w4) := ⟨hd, hB4⟩
  clear hd hB4 k1
  go_wp2
  refine bodyPost_ret (results_cell_row rfl _ _ (w.heap.size + 1 + 1) 24 #[.bool nb, .slice ao4 vn cap4, .int .i64 eb] (0, 0) _ rfl (store3_29 _ _ _ HC4.out) Tryz.underlying24 rfl Tryz.info24) rfl ?_
  obtain ⟨-, hs, hBW⟩ := HH.out
  obtain ⟨hd, hb⟩ := HD4.out
  exact ⟨_, _, rfl, (((hd.store (by omega) _ _).store (by omega) _ _).store (by omega) _ _).mono (by omega), below_store3 (hBW.trans (hb.mono hBW.size)) (by omega) _ _ _⟩
set_option maxHeartbeats 4000000 in
set_option maxRecDepth 200000 in
theorem rplus_b (na nb : Bool) (ua va : Option Addr) (un uc vc : Nat) (ea eb : Int) (w : World) (z : Nat) (hAr : Arg w ua un uc z) (hn0 : ((un : Int) == 0) = false) :
    Calls Tryz.prog 149 #[.agg #[.bool na, .slice ua un uc, .int .i64 ea], .agg #[.bool nb, .slice va 0 vc, .int .i64 eb]] w fun r w' => ∃ ao' cap', r = .returned (.agg #[.bool na, .slice ao' un cap', .int .i64 ea]) ∧ Dn w' w.heap.size (.slice ao' un cap') un z ∧ Below w.heap.size w w' := by
  obtain ⟨W, hW⟩ : ∃ W, W = ((w.alloc (.cells #[.bool na, .slice ua un uc, .int .i64 ea] 24)).alloc (.cells #[.bool nb, .slice va 0 vc, .int .i64 eb] 24)).alloc (.cells #[.bool false, .slice none 0 0, .int .i64 0] 24) := ⟨_, rfl⟩
  obtain ⟨hA, hBb, hC, hsz, hBW⟩ := boxes3 _ _ _ hW
  have hn := hAr.small
  have k1 := rtwin (ng := na) (e := ea) (hAr.later hBW)
  have HH : Hid (W.heap[w.heap.size + 1 + 1]? = some (.cells #[.bool false, .slice none 0 0, .int .i64 0] 24 (0, 0)) ∧ W.heap.size = w.heap.size + 1 + 1 + 1 ∧ Below w.heap.size w W) := ⟨hC, hsz, hBW⟩
  clear hA hBb hC hsz hBW hAr
  go_enter Tryz.func149, Tryz.ntmps149
  go_wp2_with fail
  rw [← hW]
  clear hW
  refine k1.mono ?_
  rintro r w4 ⟨ao4, cap4, rfl, hd, hB4⟩
  have HC4 : Hid (w4.heap[w.heap.size + 1 + 1]? = some (.cells #[.bool false, .slice none 0 0, .int .i64 0] 24 (0, 0))) := box_later HH.out.1 hB4 (by have := HH.out.2.1; omega)
  obtain ⟨⟨x1, x2, x3⟩, x4, x5, x6⟩ := box_cells29 HC4.out
  have HD4 : Hid (Dn w4 W.heap.size (.slice ao4 un cap4) un z ∧ Below W.heap.size W w4) := ⟨hd, hB4⟩
  clear hd hB4 k1
  go_wp2
  refine bodyPost_ret (results_cell_row rfl _ _ (w.heap.size + 1 + 1) 24 #[.bool na, .slice ao4 un cap4, .int .i64 ea] (0, 0) _ rfl (store3_29 _ _ _ HC4.out) Tryz.underlying24 rfl Tryz.info24) rfl ?_
  obtain ⟨-, hs, hBW⟩ := HH.out
  obtain ⟨hd, hb⟩ := HD4.out
  exact ⟨_, _, rfl, (((hd.store (by omega) _ _).store (by omega) _ _).store (by omega) _ _).mono (by omega), below_store3 (hBW.trans (hb.mono hBW.size)) (by omega) _ _ _⟩

theorem Dn.rn {w : World} {base x cap : Nat} {s : Bool} {e : Int} {ao : Option Addr} (h : Dn w base (.slice ao (dlen x) cap) (dlen x) x) : RN w base (.agg #[.bool s, .slice ao (dlen x) cap, .int .i64 e]) (s, x, e) := by
  have hat := h.at_
  refine ⟨ao, cap, rfl, fun ad e hl => ?_, hat⟩
  rcases h with ⟨h1, -⟩ | ⟨g, cap', c, h1, h2, -⟩
  · simp only [Value.slice.injEq] at h1
    rw [h1.1] at e; cases e
  · simp only [Value.slice.injEq] at h1
    rw [h1.1] at e; cases e; exact h2
theorem RN.shape {w : World} {base : Nat} {A : Value} {t : Bool × Nat × Int} (h : RN w base A t) : ∃ s ao n cap e, A = .agg #[.bool s, .slice ao n cap, .int .i64 e] := by
  obtain ⟨ao, cap, h1, -⟩ := h
  exact ⟨_, _, _, _, _, h1⟩

theorem rplus {na nb : Bool} {ua va : Option Addr} {uc vc x y : Nat} {ea eb : Int} {w : World} (h1 : Arg w ua (dlen x) uc x) (h2 : Arg w va (dlen y) vc y) (ok1 : Ok (na, x, ea)) (ok2 : Ok (nb, y, eb)) :
    Calls Tryz.prog 149 #[.agg #[.bool na, .slice ua (dlen x) uc, .int .i64 ea], .agg #[.bool nb, .slice va (dlen y) vc, .int .i64 eb]] w fun r w' => ∃ a, r = .returned a ∧ RN w' w.heap.size a (cn (sumN na x ea nb y eb).1 (sumN na x ea nb y eb).2.1 (sumN na x ea nb y eb).2.2) ∧ Below w.heap.size w w' := by
  have f1 := ok1.facts
  have f2 := ok2.facts
  simp only at f1 f2
  unfold sumN
  by_cases x0 : x = 0
  · rw [if_pos x0]
    show Calls _ _ _ _ fun r w' => ∃ a, r = .returned a ∧ RN w' w.heap.size a (cn nb y eb) ∧ _
    rw [show cn nb y eb = (nb, y, eb) from cn_ok ok2]
    subst x0
    rw [dlen_zero]
    refine (rplus_a na nb ua va uc _ vc ea eb w y h2).mono ?_
    rintro r w' ⟨ao', cap', rfl, hd, hb⟩
    exact ⟨_, rfl, hd.rn, hb⟩
  · rw [if_neg x0]
    by_cases y0 : y = 0
    · rw [if_pos y0]
      show Calls _ _ _ _ fun r w' => ∃ a, r = .returned a ∧ RN w' w.heap.size a (cn na x ea) ∧ _
      rw [show cn na x ea = (na, x, ea) from cn_ok ok1]
      subst y0
      rw [dlen_zero]
      refine (rplus_b na nb ua va _ uc vc ea eb w x h1 (len_ne (n := 0) x0)).mono ?_
      rintro r w' ⟨ao', cap', rfl, hd, hb⟩
      exact ⟨_, rfl, hd.rn, hb⟩
    · rw [if_neg y0]
      have l1 : dlen (x * 2 ^ (ea - min ea eb).toNat) ≤ 760000 := by have := shl_len (x := x) (k := (ea - min ea eb).toNat) rfl; omega
      have l2 : dlen (y * 2 ^ (eb - min ea eb).toNat) ≤ 760000 := by have := shl_len (x := y) (k := (eb - min ea eb).toNat) rfl; omega
      have ku : ∀ W i, Below w.heap.size w W → i = ea - min ea eb → Calls Tryz.prog 110 #[.slice ua (dlen x) uc, .int .i64 i] W fun r w' => ∃ v, r = .returned v ∧ Ir w' v (x * 2 ^ (ea - min ea eb).toNat) ∧ Below W.heap.size W w' := by
        intro W i hW hi
        have hik : i = (((ea - min ea eb).toNat : Nat) : Int) := by omega
        rw [hik]
        exact rup ⟨ua, uc, rfl, h1.le, (h1.later hW).at_⟩ _ (by omega) (by omega)
      have kv : ∀ W i, Below w.heap.size w W → i = eb - min ea eb → Calls Tryz.prog 110 #[.slice va (dlen y) vc, .int .i64 i] W fun r w' => ∃ v, r = .returned v ∧ Ir w' v (y * 2 ^ (eb - min ea eb).toNat) ∧ Below W.heap.size W w' := by
        intro W i hW hi
        have hik : i = (((eb - min ea eb).toNat : Nat) : Int) := by omega
        rw [hik]
        exact rup ⟨va, vc, rfl, h2.le, (h2.later hW).at_⟩ _ (by omega) (by omega)
      by_cases hs : na = nb
      · rw [if_pos hs]
        have hne : (na == nb) = true := by simp [hs]
        refine (rplus_c na nb ua va _ uc _ vc _ _ ea eb w hne (by have := dlen_add_le (x * 2 ^ (ea - min ea eb).toNat) (y * 2 ^ (eb - min ea eb).toNat); omega) (by omega) (by omega) (by omega) (by omega) (by omega) (by omega) (len_ne (n := 0) x0) (len_ne (n := 0) y0) ku kv).mono ?_
        rintro r w' ⟨a, rfl, hn, hb⟩
        exact ⟨a, rfl, hn.rn, hb⟩
      · rw [if_neg hs]
        have hne : (na == nb) = false := by simp [hs]
        by_cases hlt : x * 2 ^ (ea - min ea eb).toNat < y * 2 ^ (eb - min ea eb).toNat
        · rw [if_pos hlt]
          refine (rplus_d na nb ua va _ uc _ vc _ _ ea eb w hlt hne (Nat.le_trans (dlen_mono (Nat.sub_le ..)) (by omega)) (by omega) (by omega) (by omega) (by omega) (by omega) (by omega) (len_ne (n := 0) x0) (len_ne (n := 0) y0) ku kv).mono ?_
          rintro r w' ⟨a, rfl, hn, hb⟩
          exact ⟨a, rfl, hn.rn, hb⟩
        · rw [if_neg hlt]
          refine (rplus_e na nb ua va _ uc _ vc _ _ ea eb w (by omega) hne (Nat.le_trans (dlen_mono (Nat.sub_le ..)) (by omega)) (by omega) (by omega) (by omega) (by omega) (by omega) (by omega) (len_ne (n := 0) x0) (len_ne (n := 0) y0) ku kv).mono ?_
          rintro r w' ⟨a, rfl, hn, hb⟩
          exact ⟨a, rfl, hn.rn, hb⟩

/-- the answer and its error: the value t where it may be -/
def Ans (V : Bool) (t : Bool × Nat × Int) : Bool × Nat × Int := if V then t else (false, 0, 0)

theorem okR_cn (s : Bool) (z : Nat) (e : Int) : okR s z e = okN (cn s z e).1 (dlen (cn s z e).2.1) (cn s z e).2.1 (cn s z e).2.2 := by
  unfold okR cn
  by_cases h0 : z = 0
  · rw [if_pos h0, if_pos h0, dlen_zero]; rfl
  · rw [if_neg h0, if_neg h0]

theorem kept_rn {base : Nat} {A : Value} {t : Bool × Nat × Int} {w : World} (h : RN w base A t) (hz : dlen t.2.1 ≤ 35184372088832) (V : Bool) (hV : okN t.1 (dlen t.2.1) t.2.1 t.2.2 = V) :
    Calls Tryz.prog 80 #[A] w fun r w' => (∃ s ao n cap e, r = .returned (.tuple #[.agg #[.bool s, .slice ao n cap, .int .i64 e], .int .i64 (if V then 0 else 2)]) ∧ Hid (RN w' base (.agg #[.bool s, .slice ao n cap, .int .i64 e]) (Ans V t))) ∧ Below w.heap.size w w' := by
  obtain ⟨ao, cap, rfl, hfr, ha⟩ := h
  refine (r41 t.1 ao (dlen t.2.1) cap t.2.2 V w (fun W hW => by
    have := rvalid_at (s := t.1) (cap := cap) (e := t.2.2) (ha.later hW) hz
    rw [hV] at this
    exact this)).mono ?_
  rintro r w' ⟨rfl, hb⟩
  refine ⟨?_, hb⟩
  cases V
  · exact ⟨_, _, _, _, _, rfl, rn_nil w' _⟩
  · exact ⟨_, _, _, _, _, rfl, ao, cap, rfl, hfr, ha.later hb⟩
end Go.Proofs.YtmhpicccfaklcaaGreatDoor

/- The document's Add; Add, Sub, Mul refused. -/
namespace Go.Proofs.YtmhpicccfaklcaaGreatDoor
set_option linter.unusedVariables false
set_option linter.unusedSimpArgs false
open Go.RowKit

theorem at_box {w : World} {ao : Option Addr} {n z g : Nat} {p q r : Value} (h : At w ao n z) (hz : dlen z = n) (hg : w.heap[g]? = some (.cells #[p, q, r] 24 (0, 0))) (hp : ∀ k, p ≠ .int .u32 k) (hq : ∀ k, q ≠ .int .u32 k) (hr : ∀ k, r ≠ .int .u32 k) (a b c : Value) : At (((w.setCell ⟨g, 0, none⟩ a).setCell ⟨g, 1, none⟩ b).setCell ⟨g, 2, none⟩ c) ao n z := by
  obtain ⟨bb, o, h1, h2⟩ := h
  refine ⟨bb, o, h1, fun i hi => ?_⟩
  by_cases hb : bb = g
  · subst hb
    have := h2 i hi
    simp only [World.cell?, hg] at this
    exfalso
    have hlt : o + i < 3 := by
      rcases Nat.lt_or_ge (o + i) 3 with h | h
      · exact h
      · rw [Array.getElem?_eq_none (by simpa using h)] at this; simp at this
    rcases (show o + i = 0 ∨ o + i = 1 ∨ o + i = 2 by omega) with h | h | h
    · rw [h] at this; simp at this; exact hp _ this
    · rw [h] at this; simp at this; exact hq _ this
    · rw [h] at this; simp at this; exact hr _ this
  · rw [World.cell?_setCell_other _ _ _ _ (by intro e; simp at e <;> omega), World.cell?_setCell_other _ _ _ _ (by intro e; simp at e <;> omega), World.cell?_setCell_other _ _ _ _ (by intro e; simp at e <;> omega)]
    exact h2 i hi
theorem rn_store {w : World} {base : Nat} {A : Value} {t : Bool × Nat × Int} {g : Nat} (h : RN w base A t) (hg : w.heap[g]? = some (.cells #[.bool false, .slice none 0 0, .int .i64 0] 24 (0, 0))) (a b c : Value) : RN (((w.setCell ⟨g, 0, none⟩ a).setCell ⟨g, 1, none⟩ b).setCell ⟨g, 2, none⟩ c) base A t := by
  obtain ⟨ao, cap, h1, h0, h2⟩ := h
  exact ⟨ao, cap, h1, h0, at_box h2 rfl hg (by simp) (by simp) (by simp) a b c⟩

/-- the answer of a call that answers a number and an error -/
def AnsR (w : World) (V : Bool) (t : Bool × Nat × Int) (r : Ending) (w' : World) : Prop := ∃ A, r = .returned (.tuple #[A, .int .i64 (if V then 0 else 2)]) ∧ RN w' w.heap.size A (Ans V t) ∧ Below w.heap.size w w'

end Go.Proofs.YtmhpicccfaklcaaGreatDoor

/- The document's Sub; far numbers; all of Add, Sub, Mul, Shift. -/
namespace Go.Proofs.YtmhpicccfaklcaaGreatDoor
set_option linter.unusedVariables false
set_option linter.unusedSimpArgs false
open Go.RowKit

end Go.Proofs.YtmhpicccfaklcaaGreatDoor

/- normal over a slice of any capacity. -/
namespace Go.Proofs.YtmhpicccfaklcaaGreatDoor
set_option linter.unusedVariables false
set_option linter.unusedSimpArgs false
open Go.RowKit

theorem c120_v (b o cap m whole part x k : Nat) (w : World) (hm0 : 0 < m) (hm : m ≤ 35184372088832) (hk : k ≤ 1099511627776) (hcap : whole + m ≤ cap) (hcap2 : cap ≤ 9223372036854775807) (hwh : k / 32 = whole) (hpa : k % 32 = part)
    (hn : dlen x = whole + m) (hcell : ∀ i, i < whole + m → w.cell? ⟨b, o + i, none⟩ = some (.int .u32 (dg x i : Nat))) :
    Calls Tryz.prog 130 #[.slice (some ⟨b, o, none⟩) (whole + m : Nat) cap, .int .i64 k] w fun e w' => ∃ v, e = .returned v ∧ Own w' w.heap.size v (x / 2 ^ k) ∧ Below w.heap.size w w' := by
  have hq : (k : Int).tdiv 32 = ((k / 32 : Nat) : Int) := by rw [Int.tdiv_eq_ediv_of_nonneg (by omega)]; rfl
  have hr : (k : Int).tmod 32 = ((k % 32 : Nat) : Int) := by rw [Int.tmod_eq_emod_of_nonneg (by omega)]; rfl
  have hwb : whole ≤ 1099511627776 := by omega
  have hpb : part < 32 := by omega
  rw [hwh] at hq
  rw [hpa] at hr
  have hmk := run_make_row' (P := Tryz.prog) 22 65 (.int .u32 0) 4 Tryz.underlying22 Tryz.info65 rfl .i64 .i64 m (by omega) (by omega)
  have HN : Hid (dlen x = whole + m) := hn
  have HW : Hid (k / 32 = whole) := hwh
  have HP : Hid (k % 32 = part) := hpa
  clear hn hwh hpa
  have hmi : (whole : Int) < ((whole + m : Nat) : Int) := by omega
  have hmi2 : ¬ whole = cap := by omega
  go_enter Tryz.func130, Tryz.ntmps130
  go_wp2
  clear hmk
  go_loopw [27] (fun i wr => ∃ j : Nat, j ≤ m ∧ i = .int .i64 j ∧ Mk w wr m (fun t => if t < j then dg (x / 2 ^ k) t else 0)) (fun i _ => m - (intOf i).toNat)
  case atStart => exact ⟨0, Nat.zero_le _, rfl, (Mk.start w _).congr fun i hi => by rw [if_neg (by omega)]⟩
  case round =>
    obtain ⟨j, hj, rfl, hM⟩ := hrel
    by_cases hjn : j + 1 < m
    · have g1 := hM.old (hcell (whole + j) (by omega))
      have g4 := hM.old (hcell (whole + (j + 1)) (by omega))
      rw [← Nat.add_assoc] at g1 g4
      have g2 := hM.cell (i := j) (by omega)
      have g3 := hM.frozen j
      rw [if_neg (by omega)] at g2
      have hji : (j : Int) + 1 < (m : Int) := by omega
      have HM : Hid (Mk w wr m (fun t => if t < j then dg (x / 2 ^ k) t else 0)) := hM
      generalize hd : dg x (whole + j) = d at *
      generalize hd1 : dg x (whole + (j + 1)) = d1 at *
      have HD : Hid (dg x (whole + j) = d) := hd
      have HD1 : Hid (dg x (whole + (j + 1)) = d1) := hd1
      have HL : Hid (d < B ∧ d1 < B) := ⟨hd ▸ dg_lt _ _, hd1 ▸ dg_lt _ _⟩
      clear hd hd1 hM hcell
      go_wp2
      exact shr_round HM.out (by rw [shr_word2 HL.out.1 HL.out.2, shr_digit HW.out HP.out, HD.out, HD1.out]) (by omega)
    · by_cases hjm : j < m
      · have g1 := hM.old (hcell (whole + j) (by omega))
        rw [← Nat.add_assoc] at g1
        have g2 := hM.cell (i := j) (by omega)
        have g3 := hM.frozen j
        rw [if_neg (by omega)] at g2
        have hji : ¬ (j : Int) + 1 < (m : Int) := by omega
        have hji2 : (j : Int) < (m : Int) := by omega
        have HM : Hid (Mk w wr m (fun t => if t < j then dg (x / 2 ^ k) t else 0)) := hM
        generalize hd : dg x (whole + j) = d at *
        have HD : Hid (dg x (whole + j) = d) := hd
        have HL : Hid (d < B) := hd ▸ dg_lt _ _
        have HZ : Hid (dg x (whole + (j + 1)) = 0) := dg_past (by rw [HN.out]; omega)
        clear hd hM hcell
        go_wp2
        exact shr_round HM.out (by rw [shr_word1 HL.out, shr_digit HW.out HP.out, HD.out, HZ.out, Nat.zero_mul, Nat.add_zero]) (by omega)
      · obtain rfl : j = m := by omega
        have hE : Mk w wr j (dg (x / 2 ^ k)) := hM.congr fun i hi => if_pos hi
        have hA := hE.at
        have hL := shr_len (k := k) (m := j) (by rw [HW.out]; exact HN.out)
        have HC : Hid (Mk w wr j (dg (x / 2 ^ k))) := hE
        clear hM hcell hE
        go_wp2_with (first | (go_at_call 105; refine (c62 _ _ _ (x / 2 ^ k) _ hL (Nat.le_refl _) (by omega) hA).mono ?_; rintro e w' ⟨rfl, rfl⟩))
        go_ret
        exact ⟨_, rfl, HC.out.own hL (by omega), HC.out.below⟩

theorem tz_in' {x : Nat} (hx0 : x ≠ 0) : tz x / 32 < dlen x := by
  have h1 := (tz_spec _ x (Nat.le_refl _) hx0)
  have h2 : 2 ^ tz x ≤ x := by
    have h3 : 1 ≤ x / 2 ^ tz x := Nat.pos_of_ne_zero fun e0 => by have := h1.2; rw [e0] at this; simp at this
    have := Nat.mul_le_mul_left (2 ^ tz x) h3
    omega
  have h4 := lt_bl x
  have h5 : tz x < bl x := Nat.lt_of_not_le fun h6 => by
    have := Nat.pow_le_pow_right (n := 2) (by omega) h6
    omega
  have hd0 : dlen x ≠ 0 := fun e => hx0 (dlen_eq_zero.1 e)
  have := bl_top hx0
  have := bl_le32 (dg_lt x (dlen x - 1))
  omega

set_option maxRecDepth 200000 in
theorem c56_v (neg : Bool) (b o n cap x : Nat) (e : Int) (w : World) (hcell : ∀ i, i < n → w.cell? ⟨b, o + i, none⟩ = some (.int .u32 (dg x i : Nat))) (hc1 : n ≤ cap) (hc2 : cap ≤ 9223372036854775807) (hn : dlen x = n) (hx : dlen x ≤ 1000000000) (hx0 : x ≠ 0) (hT : Tab32 w) (he : -4611686018427387904 ≤ e ∧ e ≤ 4611686018427387904) :
    Calls Tryz.prog 73 #[.bool neg, .slice (some ⟨b, o, none⟩) n cap, .int .i64 e] w fun r w' => ∃ v, r = .returned (.agg #[.bool neg, v, .int .i64 (e + tz x)]) ∧ Own w' w.heap.size v (x / 2 ^ tz x) ∧ Below w.heap.size w w' := by
  obtain ⟨w0, hw0⟩ : ∃ w0, w0 = w.alloc (.cells #[.bool false, .slice none 0 0, .int .i64 0] 25) := ⟨_, rfl⟩
  have hB0 : Below w.heap.size w w0 := by rw [hw0]; exact (Below.refl _ _).alloc (Nat.le_refl _) _
  have hcell0 : ∀ i, i < n → w0.cell? ⟨b, o + i, none⟩ = some (.int .u32 (dg x i : Nat)) := fun i hi => (hB0.cell (World.block_lt_of_cell? _ _ (hcell i hi))).trans (hcell i hi)
  have hT0 := hT.later hB0
  have k62 := c62 (some ⟨b, o, none⟩) n cap x w0 (by omega) hc1 (by omega) ⟨b, o, fun _ => rfl, hcell0⟩
  rw [hn] at k62
  have k119 := c119_1 b o n cap x w0 (by omega) hn hx0 hT0 hcell0
  have htz := tz_in' hx0
  have htb : tz x ≤ 40000000000 := by omega
  have k120 : Calls Tryz.prog 130 #[.slice (some ⟨b, o, none⟩) n cap, .int .i64 (tz x : Nat)] w0 fun e w' => ∃ v, e = .returned v ∧ Own w' w0.heap.size v (x / 2 ^ tz x) ∧ Below w0.heap.size w0 w' := by
    obtain ⟨m, hm⟩ : ∃ m, dlen x = tz x / 32 + m := ⟨dlen x - tz x / 32, by omega⟩
    rw [← hn, hm]
    exact c120_v b o cap m _ _ x (tz x) w0 (by omega) (by omega) (by omega) (by omega) hc2 rfl rfl hm (fun i hi => hcell0 i (by omega))
  have hn0 : ((n : Int) == 0) = false := by
    have : dlen x ≠ 0 := fun e => hx0 (dlen_eq_zero.1 e)
    simp; omega
  have HH : Hid (w0.heap[w.heap.size]? = some (.cells #[.bool false, .slice none 0 0, .int .i64 0] 25 (0, 0))) := (by rw [hw0]; exact heap_alloc_new _ _ : w0.heap[w.heap.size]? = some (.cells #[.bool false, .slice none 0 0, .int .i64 0] 25 (0, 0)))
  have HB0 : Hid (Below w.heap.size w w0) := hB0
  have HX : Hid (w0.heap.size = w.heap.size + 1) := (by rw [hw0]; simp : w0.heap.size = w.heap.size + 1)
  generalize htzx : tz x = t at *
  have HTZ : Hid (tz x = t) := htzx
  obtain ⟨he1, he2⟩ := he
  clear hcell hcell0 hT hT0 hn hx0 hx hB0 htzx htz
  go_enter Tryz.func73, Tryz.ntmps73
  go_wp2_with fail
  rw [← hw0]
  clear hw0
  refine k62.mono ?_
  rintro e w1 ⟨rfl, rfl⟩
  clear k62
  go_wp2_with fail
  refine k119.mono ?_
  rintro e w2 ⟨rfl, rfl⟩
  clear k119
  go_wp2_with fail
  refine k120.mono ?_
  rintro e w3 ⟨v, rfl, hO, hB⟩
  obtain ⟨va, vc, rfl, -, -, -⟩ := hO.is
  generalize dlen (x / 2 ^ t) = vl at *
  have HH3 : Hid (w3.heap[w.heap.size]? = some (.cells #[.bool false, .slice none 0 0, .int .i64 0] 25 (0, 0))) := box_later HH.out hB (by have := HX.out; omega)
  obtain ⟨⟨a1, a2, a3⟩, a4, a5, a6⟩ := box_cells HH3.out
  have HO : Hid (Own w3 w2.heap.size (.slice va vl vc) (x / 2 ^ t)) := hO
  have HB : Hid (Below w2.heap.size w2 w3) := hB
  clear k120 hO hB
  go_wp2
  refine bodyPost_ret (results_cell_row rfl _ _ w.heap.size 25 #[.bool neg, .slice va vl vc, .int .i64 (e + t)] (0, 0) _ rfl (store3 _ _ _ HH3.out) Tryz.underlying25 rfl Tryz.info25) rfl ?_
  have hx := HX.out
  exact ⟨_, rfl, (own_store3 HO.out (by omega) _ _ _).mono (by omega), below_store3 (HB0.out.trans (HB.out.mono (by omega))) (Nat.le_refl _) _ _ _⟩

end Go.Proofs.YtmhpicccfaklcaaGreatDoor

/- Make. -/
namespace Go.Proofs.YtmhpicccfaklcaaGreatDoor
set_option linter.unusedVariables false
set_option linter.unusedSimpArgs false
open Go.RowKit

/-- what Make answers -/
def Mk25 (w w' : World) (neg : Bool) (x : Nat) (e : Int) (r : Ending) : Prop :=
  (okR neg x e = true ∧ ∃ A, r = .returned (.tuple #[A, .int .i64 0]) ∧ Nrm w' w.heap.size A neg x e) ∨ (okR neg x e = false ∧ r = .returned (.tuple #[.agg #[.bool false, .slice none 0 0, .int .i64 0], .int .i64 2]))

theorem okR_bad {neg : Bool} {x : Nat} {e : Int} (hx : x ≠ 0) (h : e > 65536 ∨ e < -65536 - 32 * (dlen x : Int)) : okR neg x e = false := by
  have ht := tz_in' hx
  unfold okR okN
  rw [if_neg hx]
  have hy : dlen (x / 2 ^ tz x) ≠ 0 := by
    intro e0
    have := (tz_spec _ x (Nat.le_refl _) hx).2
    rw [dlen_eq_zero.1 e0] at this
    simp at this
  rw [if_neg hy]
  simp only [Bool.and_eq_false_iff, decide_eq_false_iff_not]
  rcases h with h | h
  · exact .inr (by omega)
  · exact .inl (.inr (by omega))

end Go.Proofs.YtmhpicccfaklcaaGreatDoor

/- DyadOf: the law's walk, and what it answers. -/
namespace Go.Proofs.YtmhpicccfaklcaaGreatDoor
set_option linter.unusedVariables false
set_option linter.unusedSimpArgs false
open Go.RowKit Go.Fl64

theorem same_ok {w : World} {A C : Value} {b c : Nat} {s s' : Bool} {m M : Nat} {e E : Int} (hA : Nrm w b A s m e) (hC : Nr w c C s' M E)
    (h : (m = 0 ∧ M = 0) ∨ (m ≠ 0 ∧ M ≠ 0 ∧ s = s' ∧ m / 2 ^ tz m = M / 2 ^ tz M ∧ e + (tz m : Int) = E + (tz M : Int))) (hl : dlen (m / 2 ^ tz m) ≤ 35184372088832) :
    Calls Tryz.prog 12 #[A, C] w fun r w' => r = .returned (.bool true) ∧ Below w.heap.size w w' := by
  rcases h with ⟨rfl, rfl⟩ | ⟨h1, h2, rfl, h3, h4⟩
  · obtain rfl := hA.nil
    rcases hC with ⟨-, rfl⟩ | ⟨h, -⟩
    · have i := is_nil w
      obtain ⟨ao, cap, e0, h1, h2, h3⟩ := i
      simp only [Value.slice.injEq] at e0
      obtain ⟨rfl, -, rfl⟩ := e0
      rw [dlen_zero] at h3
      exact same_1 false 0 none none 0 0 0 0 w h3 h3 (by omega)
    · exact absurd rfl h
  · rcases hA with ⟨h, -⟩ | ⟨-, v, rfl, ho⟩
    · exact absurd h h1
    · rcases hC with ⟨h, -⟩ | ⟨-, g, cap, rfl, -, ha⟩
      · exact absurd h h2
      · obtain ⟨ao, cap', rfl, -, -, hi⟩ := ho.is
        unfold NumV
        rw [h4]
        rw [← h3] at ha ⊢
        exact same_1 _ _ _ _ _ _ _ _ w hi ha hl

end Go.Proofs.YtmhpicccfaklcaaGreatDoor

/- DyadMakes: the law's walk, where there are digits. -/
namespace Go.Proofs.YtmhpicccfaklcaaGreatDoor
set_option linter.unusedVariables false
set_option linter.unusedSimpArgs false
open Go.RowKit Go.Fl64

end Go.Proofs.YtmhpicccfaklcaaGreatDoor

/- DyadOf answers true, whatever the float and the whole number are. -/
namespace Go.Proofs.YtmhpicccfaklcaaGreatDoor
set_option linter.unusedVariables false
set_option linter.unusedSimpArgs false
open Go.RowKit Go.Fl64

theorem short {m : Nat} (h : m < 18446744073709551616) : dlen (m / 2 ^ tz m) ≤ 35184372088832 := by
  have h1 : dlen m ≤ 2 := (dlen_le 2 m).2 (by unfold B; omega)
  have h2 : dlen (m / 2 ^ tz m) ≤ dlen m := dlen_mono (Nat.div_le_self ..)
  omega

/-- the float's odd digits and exponent are those of the document's number -/
theorem of_parts (a m : Nat) (ha : a < 18446744073709551616) (hf : mag a < 9218868437227405312) (hm : Ie.sM a = (m : Int)) :
    (m = 0 ∧ Ie.mant a = 0) ∨ (m ≠ 0 ∧ Ie.mant a ≠ 0 ∧ neg a = neg a ∧ m / 2 ^ tz m = Ie.mant a / 2 ^ tz (Ie.mant a) ∧ Ie.sE a + (tz m : Int) = Ie.lp a + (tz (Ie.mant a) : Int)) := by
  unfold Ie.sM at hm
  unfold Ie.sE
  rw [if_neg (by omega)] at hm ⊢
  by_cases h0 : mag a = 0
  · rw [if_pos h0] at hm
    exact .inl ⟨by omega, by unfold Ie.mant; rw [if_pos (by omega)]; exact h0⟩
  · rw [if_neg h0] at hm ⊢
    have hb := Ie.mant_bound a
    have hne := Ie.mant_ne h0
    have hct : Lib.ctz 64 (Ie.mant a) = tz (Ie.mant a) := tz_ctz hne (by omega)
    rw [hct] at hm ⊢
    have e1 : m = Ie.mant a / 2 ^ tz (Ie.mant a) := by
      have : ((Ie.mant a / 2 ^ tz (Ie.mant a) : Nat) : Int) = (m : Int) := by rw [← hm]; simp
      omega
    obtain ⟨h1, h2⟩ := tz_spec _ (Ie.mant a) (Nat.le_refl _) hne
    rw [← e1] at h2
    have e2 : tz m = 0 := tz_odd h2
    refine .inr ⟨by intro e; rw [e] at h2; simp at h2, hne, rfl, ?_, ?_⟩
    · rw [e2, ← e1]; simp
    · rw [e2]; simp

theorem nil_same {w : World} : Calls Tryz.prog 12 #[.agg #[.bool false, .slice none 0 0, .int .i64 0], .agg #[.bool false, .slice none 0 0, .int .i64 0]] w fun r w' => r = .returned (.bool true) ∧ Below w.heap.size w w' := by
  obtain ⟨ao, cap, e0, h1, h2, h3⟩ := is_nil w
  simp only [Value.slice.injEq] at e0
  obtain ⟨rfl, -, rfl⟩ := e0
  rw [dlen_zero] at h3
  exact same_1 false 0 none none 0 0 0 0 w h3 h3 (by omega)

end Go.Proofs.YtmhpicccfaklcaaGreatDoor

/- DyadMakes answers true: digits, and none. -/
namespace Go.Proofs.YtmhpicccfaklcaaGreatDoor
set_option linter.unusedVariables false
set_option linter.unusedSimpArgs false
open Go.RowKit Go.Fl64

theorem okR_val {neg : Bool} {x : Nat} {e : Int} (hx : x ≠ 0) : okR neg x e = (decide (dlen (x / 2 ^ tz x) ≤ 2048) && decide (-65536 ≤ e + (tz x : Int)) && decide (e + (tz x : Int) ≤ 65536)) := by
  have ho := (tz_spec _ x (Nat.le_refl _) hx).2
  have hy : x / 2 ^ tz x ≠ 0 := by intro e0; rw [e0] at ho; simp at ho
  have hd : dlen (x / 2 ^ tz x) ≠ 0 := fun e0 => hy (dlen_eq_zero.1 e0)
  unfold okR okN
  rw [if_neg hx, if_neg hd]
  have h1 : (dg (x / 2 ^ tz x) (dlen (x / 2 ^ tz x) - 1) != 0) = true := by simp; exact dg_top hy
  have h2 : (dg (x / 2 ^ tz x) 0 % 2 == 1) = true := by
    have : dg (x / 2 ^ tz x) 0 % 2 = 1 := by
      unfold dg
      simp only [Nat.pow_zero, Nat.div_one]
      unfold B
      omega
    simp [this]
  rw [h1, h2, Bool.and_true, Bool.and_true]

end Go.Proofs.YtmhpicccfaklcaaGreatDoor

/- The document's Add, Sub, Mul, Shift of numbers that may be, and of others. -/
namespace Go.Proofs.YtmhpicccfaklcaaGreatDoor
set_option linter.unusedVariables false
set_option linter.unusedSimpArgs false
open Go.RowKit

theorem two_B (n : Nat) : 2 ^ (32 * n) = B ^ n := by rw [Nat.pow_mul]; rfl
theorem far_half {x y K d n : Nat} (hx : x % 2 = 1) (hy : y % 2 = 1) (hK : 32 * n = K) (hly : dlen y ≤ n) (hd : 0 < d) (hb : K + 1 < bl x + d) :
    (x * 2 ^ d + y) % 2 = 1 ∧ n < dlen (x * 2 ^ d + y) ∧ y < x * 2 ^ d ∧ (x * 2 ^ d - y) % 2 = 1 ∧ n < dlen (x * 2 ^ d - y) := by
  have hx0 : x ≠ 0 := by omega
  have h1 := le_bl hx0
  have hP : 2 ^ K = B ^ n := by rw [← hK]; exact two_B n
  have h2 : y < 2 ^ K := by rw [hP]; exact (dlen_le n y).1 hly
  have h3 : 2 ^ (K + 1) ≤ x * 2 ^ d := by
    have e1 : 2 ^ (K + 1) ≤ 2 ^ (bl x - 1 + d) := Nat.pow_le_pow_right (by omega) (by omega)
    have e2 : 2 ^ (bl x - 1 + d) ≤ x * 2 ^ d := by rw [Nat.pow_add]; exact Nat.mul_le_mul_right _ h1
    omega
  rw [Nat.pow_succ] at h3
  have h4 : x * 2 ^ d % 2 = 0 := by
    obtain ⟨k, rfl⟩ : ∃ k, d = k + 1 := ⟨d - 1, by omega⟩
    rw [Nat.pow_succ, ← Nat.mul_assoc]; omega
  have h5 : ∀ z, 2 ^ K ≤ z → n < dlen z := fun z hz => by
    rcases Nat.lt_or_ge n (dlen z) with h | h
    · exact h
    · have := (dlen_le n z).1 h
      rw [hP] at hz
      exact absurd this (Nat.not_lt.2 hz)
  generalize x * 2 ^ d = X at *
  generalize 2 ^ K = P at *
  exact ⟨by omega, h5 _ (by omega), by omega, by omega, h5 _ (by omega)⟩

theorem okR_long {s : Bool} {z : Nat} {e : Int} (ho : z % 2 = 1) (hl : 2048 < dlen z) : okR s z e = false := by
  rw [okR_val (by omega), tz_odd ho, Nat.pow_zero, Nat.div_one, decide_eq_false (by omega)]
  simp

/-- numbers that are far apart have no sum -/
theorem far_no {na nb : Bool} {x y : Nat} {ea eb : Int} (ok1 : Ok (na, x, ea)) (ok2 : Ok (nb, y, eb)) (hx : x ≠ 0) (hy : y ≠ 0) (hf : 65600 < max (bl x + ea) (bl y + eb) - min ea eb) :
    okR (sumN na x ea nb y eb).1 (sumN na x ea nb y eb).2.1 (sumN na x ea nb y eb).2.2 = false := by
  have f1 := ok1.facts
  have f2 := ok2.facts
  simp only at f1 f2
  have o1 := f1.2.2.2.2 hx
  have o2 := f2.2.2.2.2 hy
  have b1 := bl_le_dlen x
  have b2 := bl_le_dlen y
  unfold sumN
  rw [if_neg hx, if_neg hy]
  obtain ⟨K, hK⟩ : ∃ K, 32 * 2048 = K := ⟨_, rfl⟩
  rcases Int.lt_trichotomy ea eb with h | h | h
  · have hm : min ea eb = ea := by omega
    rw [hm, show (ea - ea).toNat = 0 by omega, Nat.pow_zero, Nat.mul_one]
    obtain ⟨p1, p2, p3, p4, p5⟩ := far_half (x := y) (y := x) (d := (eb - ea).toNat) (n := 2048) o2 o1 hK f1.1 (by omega) (by omega)
    by_cases hs : na = nb
    · rw [if_pos hs]; rw [Nat.add_comm] at p1 p2; exact okR_long p1 p2
    · rw [if_neg hs, if_pos p3]; exact okR_long p4 p5
  · omega
  · have hm : min ea eb = eb := by omega
    rw [hm, show (eb - eb).toNat = 0 by omega, Nat.pow_zero, Nat.mul_one]
    obtain ⟨p1, p2, p3, p4, p5⟩ := far_half (x := x) (y := y) (d := (ea - eb).toNat) (n := 2048) o1 o2 hK f2.1 (by omega) (by omega)
    by_cases hs : na = nb
    · rw [if_pos hs]; exact okR_long p1 p2
    · rw [if_neg hs, if_neg (by omega)]; exact okR_long p4 p5

theorem sumN_len {na nb : Bool} {x y : Nat} {ea eb : Int} (ok1 : Ok (na, x, ea)) (ok2 : Ok (nb, y, eb)) : dlen (sumN na x ea nb y eb).2.1 ≤ 1000000 := by
  have f1 := ok1.facts
  have f2 := ok2.facts
  simp only at f1 f2
  have l1 : dlen (x * 2 ^ (ea - min ea eb).toNat) ≤ 760000 := by have := shl_len (x := x) (k := (ea - min ea eb).toNat) rfl; omega
  have l2 : dlen (y * 2 ^ (eb - min ea eb).toNat) ≤ 760000 := by have := shl_len (x := y) (k := (eb - min ea eb).toNat) rfl; omega
  unfold sumN
  split
  · show dlen y ≤ _; omega
  · split
    · show dlen x ≤ _; omega
    · split
      · have := dlen_add_le (x * 2 ^ (ea - min ea eb).toNat) (y * 2 ^ (eb - min ea eb).toNat)
        show dlen (_ + _) ≤ _; omega
      · split
        · exact Nat.le_trans (dlen_mono (Nat.sub_le ..)) (by omega)
        · exact Nat.le_trans (dlen_mono (Nat.sub_le ..)) (by omega)
theorem cn_len {s : Bool} {z : Nat} {e : Int} : dlen (cn s z e).2.1 ≤ dlen z := by
  unfold cn
  by_cases h0 : z = 0
  · rw [if_pos h0, h0]; exact Nat.le_refl _
  · rw [if_neg h0]; exact dlen_mono (Nat.div_le_self ..)

end Go.Proofs.YtmhpicccfaklcaaGreatDoor

/- Sub, Mul refused; Shift. -/
namespace Go.Proofs.YtmhpicccfaklcaaGreatDoor
set_option linter.unusedVariables false
set_option linter.unusedSimpArgs false
open Go.RowKit

end Go.Proofs.YtmhpicccfaklcaaGreatDoor

/- DyadSums: the law's walk. -/
namespace Go.Proofs.YtmhpicccfaklcaaGreatDoor
set_option linter.unusedVariables false
set_option linter.unusedSimpArgs false
open Go.RowKit

/-- an answer: a number that keeps P, and an error -/
def Out (W : World) (P : World → Value → Prop) (E : Int) (r : Ending) (w' : World) : Prop := ∃ s ao n cap e, r = .returned (.tuple #[.agg #[.bool s, .slice ao n cap, .int .i64 e], .int .i64 E]) ∧ P w' (.agg #[.bool s, .slice ao n cap, .int .i64 e]) ∧ Below W.heap.size W w'
/-- a box, and what it holds -/
def BB (ty : TypeId) (P : World → Value → Prop) (w : World) (g : Nat) (s : Bool) (ao : Option Addr) (n cap : Nat) (e : Int) : Prop :=
  w.heap[g]? = some (.cells #[.bool s, .slice ao n cap, .int .i64 e] ty (0, 0)) ∧ P w (.agg #[.bool s, .slice ao n cap, .int .i64 e])
def Lasts (P : World → Value → Prop) : Prop := ∀ W W' A, Below W.heap.size W W' → P W A → P W' A
theorem BB.later {ty : TypeId} {P : World → Value → Prop} (hP : Lasts P) {w w' : World} {g : Nat} {s : Bool} {ao : Option Addr} {n cap : Nat} {e : Int} (h : BB ty P w g s ao n cap e) (hb : Below w.heap.size w w') : BB ty P w' g s ao n cap e :=
  ⟨box_later h.1 hb (Array.getElem?_eq_some_iff.1 h.1).1, hP _ _ _ hb h.2⟩
theorem BB.new {ty : TypeId} {P : World → Value → Prop} (hP : Lasts P) {w : World} {s : Bool} {ao : Option Addr} {n cap : Nat} {e : Int} (h : P w (.agg #[.bool s, .slice ao n cap, .int .i64 e])) : BB ty P (w.alloc (.cells #[.bool s, .slice ao n cap, .int .i64 e] ty)) w.heap.size s ao n cap e :=
  ⟨heap_alloc_new _ _, hP _ _ _ ((Below.refl _ _).alloc (Nat.le_refl _) _) h⟩
def Any (w : World) (A : Value) : Prop := True
theorem Any.lasts : Lasts Any := fun _ _ _ _ h => h

end Go.Proofs.YtmhpicccfaklcaaGreatDoor
