/- Own work: contracts of the program's functions, part 12: RB4 RB5 RB6 RB7 RB8 RB9 W33 RC1. -/
import Derived.Test.YtejefbnfmglfeaaGreatDoorA11
import Derived.Test.YtejefbnfmglfeaaGreatDoorA9
import Derived.Test.YtejefbnfmglfeaaGreatDoorA8
import Derived.Test.YtejefbnfmglfeaaGreatDoorA5
import Derived.Laws.AppendOwnNone
import Derived.Test.YtejefbnfmglfeaaGreatDoorA3

/- The document's known, Minus, twin, Scaled, Times. -/
namespace Go.Proofs.YtejefbnfmglfeaaGreatDoor
set_option linter.unusedVariables false
set_option linter.unusedSimpArgs false
open Go.RowKit

set_option maxHeartbeats 4000000 in
set_option maxRecDepth 200000 in
theorem rknown (g k : Nat) (ng : Nat → Bool) (ao : Nat → Option Addr) (n cap z : Nat → Nat) (e : Nat → Int) (w : World) (hk : k ≤ 3)
    (h0 : ∀ i, i < k → w.cell? ⟨g, i * 3, none⟩ = some (.bool (ng i))) (h1 : ∀ i, i < k → w.cell? ⟨g, i * 3 + 1, none⟩ = some (.slice (ao i) (n i) (cap i))) (h2 : ∀ i, i < k → w.cell? ⟨g, i * 3 + 2, none⟩ = some (.int .i64 (e i)))
    (hA : ∀ i, i < k → Arg w (ao i) (n i) (cap i) (z i)) :
    Calls Tryz.prog 68 #[.slice (some ⟨g, 0, none⟩) k k] w fun r w' => r = .returned (.bool (decide (∀ i, i < k → okN (ng i) (n i) (z i) (e i) = true))) ∧ Below w.heap.size w w' := by
  generalize hans : decide (∀ i, i < k → okN (ng i) (n i) (z i) (e i) = true) = ans
  have HA : Hid (ans = decide (∀ i, i < k → okN (ng i) (n i) (z i) (e i) = true)) := hans.symm
  clear hans
  go_enter Tryz.func68, Tryz.ntmps68
  go_wp2
  go_loopw [3] (fun i wr => ∃ j : Nat, j ≤ k ∧ i = .int .i64 j ∧ Hid (Below w.heap.size w wr) ∧ Hid (∀ i, i < j → okN (ng i) (n i) (z i) (e i) = true)) (fun i _ => k - (intOf i).toNat)
  case atStart => exact ⟨0, Nat.zero_le _, rfl, Below.refl _ _, (fun i hi => absurd hi (Nat.not_lt_zero _) : ∀ i, i < 0 → okN (ng i) (n i) (z i) (e i) = true)⟩
  case round =>
    obtain ⟨j, hj, rfl, hB, hok⟩ := hrel
    by_cases hjk : j < k
    · have a0 : wr.cell? ⟨g, j * 3, none⟩ = some (.bool (ng j)) := (hB.out.cell (World.block_lt_of_cell? _ _ (h0 j hjk))).trans (h0 j hjk)
      have a1 : wr.cell? ⟨g, j * 3 + 1, none⟩ = some (.slice (ao j) (n j) (cap j)) := (hB.out.cell (World.block_lt_of_cell? _ _ (h1 j hjk))).trans (h1 j hjk)
      have a2 : wr.cell? ⟨g, j * 3 + 2, none⟩ = some (.int .i64 (e j)) := (hB.out.cell (World.block_lt_of_cell? _ _ (h2 j hjk))).trans (h2 j hjk)
      have hji : (j : Int) < (k : Int) := by omega
      have kv := rvalid (s := ng j) (e := e j) ((hA j hjk).later hB.out)
      clear h0 h1 h2 hA
      generalize hokj : okN (ng j) (n j) (z j) (e j) = okj at *
      have HOK : Hid (okN (ng j) (n j) (z j) (e j) = okj) := hokj
      clear hokj
      go_wp2_with fail
      refine kv.mono ?_
      rintro r w1 ⟨rfl, hb1⟩
      have HB1 : Hid (Below w.heap.size w w1) := hB.out.trans (hb1.mono hB.out.size)
      clear kv hb1
      cases okj
      · go_wp2
        go_ret
        refine ⟨congrArg Ending.returned (congrArg Value.bool ?_), HB1.out⟩
        rw [HA.out, decide_eq_false]
        intro h
        have := h j hjk
        rw [HOK.out] at this
        exact absurd this (by decide)
      · go_wp2
        exact ⟨⟨j + 1, by omega, by simp, HB1, (fun i hi => by
          by_cases e1 : i = j
          · subst e1; exact HOK.out
          · exact hok.out i (by omega) : ∀ i, i < j + 1 → okN (ng i) (n i) (z i) (e i) = true)⟩, by simp [intOf]; omega⟩
    · obtain rfl : j = k := by omega
      clear h0 h1 h2 hA
      go_wp2
      go_ret
      refine ⟨congrArg Ending.returned (congrArg Value.bool ?_), hB.out⟩
      rw [HA.out, decide_eq_true hok.out]

/-- known of two -/
theorem rknown2 {na nb : Bool} {ua va : Option Addr} {un uc vn vc x y g : Nat} {ea eb : Int} {W : World} (hg : W.heap[g]? = some (.cells #[.bool na, .slice ua un uc, .int .i64 ea, .bool nb, .slice va vn vc, .int .i64 eb] 24 (0, 0)))
    (h1 : Arg W ua un uc x) (h2 : Arg W va vn vc y) :
    Calls Tryz.prog 68 #[.slice (some ⟨g, 0, none⟩) 2 2] W fun r w' => r = .returned (.bool (okN na un x ea && okN nb vn y eb)) ∧ Below W.heap.size W w' := by
  have k := rknown g 2 (fun i => if i = 0 then na else nb) (fun i => if i = 0 then ua else va) (fun i => if i = 0 then un else vn) (fun i => if i = 0 then uc else vc) (fun i => if i = 0 then x else y) (fun i => if i = 0 then ea else eb) W (by omega)
    (fun i hi => by rcases (show i = 0 ∨ i = 1 by omega) with rfl | rfl <;> simp [World.cell?, hg])
    (fun i hi => by rcases (show i = 0 ∨ i = 1 by omega) with rfl | rfl <;> simp [World.cell?, hg])
    (fun i hi => by rcases (show i = 0 ∨ i = 1 by omega) with rfl | rfl <;> simp [World.cell?, hg])
    (fun i hi => by rcases (show i = 0 ∨ i = 1 by omega) with rfl | rfl <;> simp <;> assumption)
  refine k.mono ?_
  rintro r w' ⟨rfl, hb⟩
  refine ⟨congrArg Ending.returned (congrArg Value.bool ?_), hb⟩
  rw [Bool.eq_iff_iff]
  simp only [decide_eq_true_eq, Bool.and_eq_true]
  constructor
  · intro h
    have h0 := h 0 (by omega)
    have h1 := h 1 (by omega)
    simp at h0 h1
    exact ⟨h0, h1⟩
  · rintro ⟨h0, h1⟩ i hi
    rcases (show i = 0 ∨ i = 1 by omega) with rfl | rfl
    · simpa using h0
    · simpa using h1

set_option maxHeartbeats 4000000 in
set_option maxRecDepth 200000 in
theorem rminus_1 (na : Bool) (ua : Option Addr) (un uc : Nat) (ea : Int) (w : World) (hn : un ≤ 35184372088832) (hn0 : ((un : Int) == 0) = false) :
    Calls Tryz.prog 45 #[.agg #[.bool na, .slice ua un uc, .int .i64 ea]] w fun r w' => r = .returned (.agg #[.bool (!na), .slice ua un uc, .int .i64 ea]) ∧ Below w.heap.size w w' := by
  obtain ⟨W, hW⟩ : ∃ W, W = (w.alloc (.cells #[.bool na, .slice ua un uc, .int .i64 ea] 24)).alloc (.cells #[.bool false, .slice none 0 0, .int .i64 0] 24) := ⟨_, rfl⟩
  obtain ⟨hA, hB, hsz, hBW⟩ := two29 _ _ hW
  obtain ⟨⟨a0, a1, a2⟩, -⟩ := box_cells29 hA
  obtain ⟨⟨b0, b1, b2⟩, b3, b4, b5⟩ := box_cells29 hB
  have HX : Hid (Below w.heap.size w W ∧ W.heap[w.heap.size + 1]? = some (.cells #[.bool false, .slice none 0 0, .int .i64 0] 24 (0, 0))) := ⟨hBW, hB⟩
  clear hA hB hsz hBW
  have HE : Hid (W = (w.alloc (.cells #[.bool na, .slice ua un uc, .int .i64 ea] 24)).alloc (.cells #[.bool false, .slice none 0 0, .int .i64 0] 24)) := hW
  rw [hW] at a0 a1 a2 b0 b1 b2 b3 b4 b5
  clear hW
  go_enter Tryz.func45, Tryz.ntmps45
  go_wp2
  refine bodyPost_ret (results_cell_row rfl _ _ (w.heap.size + 1) 24 #[.bool (!na), .slice ua un uc, .int .i64 ea] (0, 0) _ rfl (two29 _ _ rfl).2.1 Tryz.underlying24 rfl Tryz.info24) rfl ?_
  exact ⟨rfl, (two29 _ _ rfl).2.2.2⟩
set_option maxHeartbeats 4000000 in
set_option maxRecDepth 200000 in
theorem rminus_0 (na : Bool) (ua : Option Addr) (uc : Nat) (ea : Int) (w : World) :
    Calls Tryz.prog 45 #[.agg #[.bool na, .slice ua 0 uc, .int .i64 ea]] w fun r w' => r = .returned (.agg #[.bool false, .slice none 0 0, .int .i64 0]) ∧ Below w.heap.size w w' := by
  obtain ⟨W, hW⟩ : ∃ W, W = (w.alloc (.cells #[.bool na, .slice ua 0 uc, .int .i64 ea] 24)).alloc (.cells #[.bool false, .slice none 0 0, .int .i64 0] 24) := ⟨_, rfl⟩
  obtain ⟨hA, hB, hsz, hBW⟩ := two29 _ _ hW
  obtain ⟨⟨a0, a1, a2⟩, -⟩ := box_cells29 hA
  obtain ⟨⟨b0, b1, b2⟩, b3, b4, b5⟩ := box_cells29 hB
  have HX : Hid (Below w.heap.size w W ∧ W.heap[w.heap.size + 1]? = some (.cells #[.bool false, .slice none 0 0, .int .i64 0] 24 (0, 0))) := ⟨hBW, hB⟩
  clear hA hB hsz hBW
  have HE : Hid (W = (w.alloc (.cells #[.bool na, .slice ua 0 uc, .int .i64 ea] 24)).alloc (.cells #[.bool false, .slice none 0 0, .int .i64 0] 24)) := hW
  rw [hW] at a0 a1 a2 b0 b1 b2 b3 b4 b5
  clear hW
  go_enter Tryz.func45, Tryz.ntmps45
  go_wp2
  refine bodyPost_ret (results_cell_row rfl _ _ (w.heap.size + 1) 24 #[.bool false, .slice none 0 0, .int .i64 0] (0, 0) _ rfl (two29 _ _ rfl).2.1 Tryz.underlying24 rfl Tryz.info24) rfl ?_
  exact ⟨rfl, (two29 _ _ rfl).2.2.2⟩
set_option maxHeartbeats 4000000 in
set_option maxRecDepth 200000 in
theorem rscaled_1 (na : Bool) (ua : Option Addr) (un uc : Nat) (ea k : Int) (w : World) (hn : un ≤ 35184372088832) (hn0 : ((un : Int) == 0) = false) (he : -65536 ≤ ea ∧ ea ≤ 65536) (hk : -131072 ≤ k ∧ k ≤ 131072) :
    Calls Tryz.prog 74 #[.agg #[.bool na, .slice ua un uc, .int .i64 ea], .int .i64 k] w fun r w' => r = .returned (.agg #[.bool na, .slice ua un uc, .int .i64 (ea + k)]) ∧ Below w.heap.size w w' := by
  obtain ⟨W, hW⟩ : ∃ W, W = (w.alloc (.cells #[.bool na, .slice ua un uc, .int .i64 ea] 24)).alloc (.cells #[.bool false, .slice none 0 0, .int .i64 0] 24) := ⟨_, rfl⟩
  obtain ⟨hA, hB, hsz, hBW⟩ := two29 _ _ hW
  obtain ⟨⟨a0, a1, a2⟩, -⟩ := box_cells29 hA
  obtain ⟨⟨b0, b1, b2⟩, b3, b4, b5⟩ := box_cells29 hB
  have HX : Hid (Below w.heap.size w W ∧ W.heap[w.heap.size + 1]? = some (.cells #[.bool false, .slice none 0 0, .int .i64 0] 24 (0, 0))) := ⟨hBW, hB⟩
  obtain ⟨he1, he2⟩ := he
  obtain ⟨hk1, hk2⟩ := hk
  clear hA hB hsz hBW
  have HE : Hid (W = (w.alloc (.cells #[.bool na, .slice ua un uc, .int .i64 ea] 24)).alloc (.cells #[.bool false, .slice none 0 0, .int .i64 0] 24)) := hW
  rw [hW] at a0 a1 a2 b0 b1 b2 b3 b4 b5
  clear hW
  go_enter Tryz.func74, Tryz.ntmps74
  go_wp2
  refine bodyPost_ret (results_cell_row rfl _ _ (w.heap.size + 1) 24 #[.bool na, .slice ua un uc, .int .i64 (ea + k)] (0, 0) _ rfl (two29 _ _ rfl).2.1 Tryz.underlying24 rfl Tryz.info24) rfl ?_
  exact ⟨rfl, (two29 _ _ rfl).2.2.2⟩
end Go.Proofs.YtejefbnfmglfeaaGreatDoor

/- The document's Times, kept, Mul. -/
namespace Go.Proofs.YtejefbnfmglfeaaGreatDoor
set_option linter.unusedVariables false
set_option linter.unusedSimpArgs false
open Go.RowKit

theorem kept_nr {s : Bool} {z : Nat} {e : Int} {A : Value} {w : World} {base : Nat} (h : Nr w base A s z e) (hz : dlen z ≤ 35184372088832) :
    Calls Tryz.prog 70 #[A] w fun r w' => r = .returned (.tuple #[if okR s z e then A else Nil, .int .i64 (if okR s z e then 0 else 2)]) ∧ Below w.heap.size w w' := by
  unfold okR
  rcases h with ⟨rfl, rfl⟩ | ⟨h0, g, cap, rfl, hg, ha⟩
  · have := r41 false none 0 0 0 true w (fun W hW => by
      have := rvalid_at (s := false) (ao := none) (n := 0) (cap := 0) (z := 0) (e := 0) (w := W) ⟨0, 0, fun h => by omega, fun i hi => by omega⟩ (by omega)
      exact this)
    simpa [NumV] using this
  · rw [if_neg h0]
    have hl : dlen (z / 2 ^ tz z) ≤ dlen z := dlen_mono (Nat.div_le_self ..)
    exact r41 s _ _ cap _ _ w (fun W hW => rvalid_at (ha.later hW) (by omega))

def HeldR (w : World) (s : Bool) (z : Nat) (e : Int) (r : Ending) (w' : World) : Prop :=
  ∃ A, r = .returned (.tuple #[if okR s z e then A else Nil, .int .i64 (if okR s z e then 0 else 2)]) ∧ Nr w' w.heap.size A s z e ∧ Below w.heap.size w w'

set_option maxHeartbeats 4000000 in
set_option maxRecDepth 200000 in
theorem rtimes_1 (na nb sg : Bool) (ua va : Option Addr) (un uc vn vc x y : Nat) (ea eb : Int) (w : World) (h1 : Ir w (.slice ua un uc) x) (h2 : Ir w (.slice va vn vc) y) (hx : dlen x ≤ 400000) (hy : dlen y ≤ 400000) (he1 : -4000000 ≤ ea) (he2 : ea ≤ 4000000) (he3 : -4000000 ≤ eb) (he4 : eb ≤ 4000000) (hsg : (!(na == nb)) = sg) :
    Calls Tryz.prog 73 #[.agg #[.bool na, .slice ua un uc, .int .i64 ea], .agg #[.bool nb, .slice va vn vc, .int .i64 eb]] w fun r w' => ∃ a, r = .returned a ∧ Nr w' w.heap.size a sg (x * y) (ea + eb) ∧ Below w.heap.size w w' := by
  obtain ⟨W, hW⟩ : ∃ W, W = ((w.alloc (.cells #[.bool na, .slice ua un uc, .int .i64 ea] 24)).alloc (.cells #[.bool nb, .slice va vn vc, .int .i64 eb] 24)).alloc (.cells #[.bool false, .slice none 0 0, .int .i64 0] 24) := ⟨_, rfl⟩
  obtain ⟨hA, hBb, hC, hsz, hBW⟩ := boxes3 _ _ _ hW
  have hxy : dlen (x * y) ≤ 1000000 := by
    have l1 := (dlen_le (dlen x) x).1 (Nat.le_refl _)
    have l2 := (dlen_le (dlen y) y).1 (Nat.le_refl _)
    have : dlen (x * y) ≤ dlen x + dlen y := (dlen_le _ _).2 (by
      rw [Nat.pow_add]
      rcases Nat.eq_zero_or_pos x with h | h
      · rw [h, Nat.zero_mul]; exact Nat.mul_pos (Bpow_pos _) (Bpow_pos _)
      · exact Nat.mul_lt_mul_of_lt_of_le l1 (Nat.le_of_lt l2) (Bpow_pos _))
    omega
  have HH : Hid (W.heap[w.heap.size + 1 + 1]? = some (.cells #[.bool false, .slice none 0 0, .int .i64 0] 24 (0, 0)) ∧ W.heap.size = w.heap.size + 1 + 1 + 1 ∧ Below w.heap.size w W) := ⟨hC, hsz, hBW⟩
  have k78 : ∀ w4, Below W.heap.size W w4 → Calls Tryz.prog 110 #[.slice ua un uc, .slice va vn vc] w4 fun r w' => ∃ v, r = .returned v ∧ Own w' W.heap.size v (x * y) ∧ Below W.heap.size W w' := fun w4 hb =>
    (rprod ((h1.later hBW).later hb) ((h2.later hBW).later hb) (by omega) (by omega)).mono fun r w' ⟨v, e1, o1, o2⟩ => ⟨v, e1, o1.mono hb.size, hb.trans (o2.mono hb.size)⟩
  have k31 : ∀ v5 w5, Own w5 W.heap.size v5 (x * y) → Below W.heap.size W w5 → Calls Tryz.prog 105 #[.bool sg, v5, .int .i64 (ea + eb)] w5 fun r w' => ∃ s ao n cap ex, r = .returned (.agg #[.bool s, .slice ao n cap, .int .i64 ex]) ∧
      Hid (Nr w' w5.heap.size (.agg #[.bool s, .slice ao n cap, .int .i64 ex]) sg (x * y) (ea + eb) ∧ W.heap.size ≤ w5.heap.size) ∧ Below W.heap.size W w' ∧ Hid (w'.heap[w.heap.size + 1 + 1]? = some (.cells #[.bool false, .slice none 0 0, .int .i64 0] 24 (0, 0))) ∧
      (w'.cell? ⟨w.heap.size + 1 + 1, 0, none⟩ = some (.bool false) ∧ w'.cell? ⟨w.heap.size + 1 + 1, 1, none⟩ = some (.slice none 0 0) ∧ w'.cell? ⟨w.heap.size + 1 + 1, 2, none⟩ = some (.int .i64 0)) ∧ (w'.frozen? ⟨w.heap.size + 1 + 1, 0, none⟩ = false ∧ w'.frozen? ⟨w.heap.size + 1 + 1, 1, none⟩ = false ∧ w'.frozen? ⟨w.heap.size + 1 + 1, 2, none⟩ = false) := by
    intro v5 w5 ho hb
    obtain ⟨ao0, cap0, rfl, hl0, -, hat0⟩ := ho.is
    refine (r34 hat0 (Nat.le_refl _) hl0 (by omega) (by omega)).mono ?_
    rintro r w6 ⟨a, rfl, hN, hb6⟩
    obtain ⟨s, ao, n, cap, ex, rfl⟩ := hN.shape
    have hb46 : Below W.heap.size W w6 := hb.trans (hb6.mono hb.size)
    have hblk := box_later HH.out.1 hb46 (by have := HH.out.2.1; omega)
    obtain ⟨f1, f2⟩ := box_cells29 hblk
    exact ⟨s, ao, n, cap, ex, rfl, ⟨hN, hb.size⟩, hb46, hblk, f1, f2⟩
  obtain ⟨⟨a0, a1, a2⟩, -⟩ := box_cells29 hA
  obtain ⟨⟨b0, b1, b2⟩, -⟩ := box_cells29 hBb
  have HK : Hid (∀ w', Below W.heap.size W w' → ((w'.cell? ⟨w.heap.size, 0, none⟩ = some (.bool na) ∧ w'.cell? ⟨w.heap.size, 1, none⟩ = some (.slice ua un uc) ∧ w'.cell? ⟨w.heap.size, 2, none⟩ = some (.int .i64 ea)) ∧ (w'.cell? ⟨w.heap.size + 1, 0, none⟩ = some (.bool nb) ∧ w'.cell? ⟨w.heap.size + 1, 1, none⟩ = some (.slice va vn vc) ∧ w'.cell? ⟨w.heap.size + 1, 2, none⟩ = some (.int .i64 eb)))) := fun w' hb => ⟨(box_cells29 (box_later hA hb (by omega))).1, (box_cells29 (box_later hBb hb (by omega))).1⟩
  have HK2 : Hid (∀ w', Below (w.heap.size + 1 + 1) W w' → ((w'.cell? ⟨w.heap.size, 0, none⟩ = some (.bool na) ∧ w'.cell? ⟨w.heap.size, 1, none⟩ = some (.slice ua un uc) ∧ w'.cell? ⟨w.heap.size, 2, none⟩ = some (.int .i64 ea)) ∧ (w'.cell? ⟨w.heap.size + 1, 0, none⟩ = some (.bool nb) ∧ w'.cell? ⟨w.heap.size + 1, 1, none⟩ = some (.slice va vn vc) ∧ w'.cell? ⟨w.heap.size + 1, 2, none⟩ = some (.int .i64 eb)))) := fun w' hb => ⟨(box_cells29 (box_later hA hb (by omega))).1, (box_cells29 (box_later hBb hb (by omega))).1⟩
  have HS2 : Hid (w.heap.size + 1 + 1 ≤ W.heap.size) := (by omega : w.heap.size + 1 + 1 ≤ W.heap.size)
  have hBR : Below W.heap.size W W.drew := (Below.refl _ _).drew
  have wz : IntKind.i64.wrap (ea + eb) = ea + eb := by rw [IntKind.wrap_i64]; omega
  clear hA hBb hC hsz hBW h1 h2 hx hy hxy
  go_enter Tryz.func73, Tryz.ntmps73
  go_upto_region 1 with fail
  rw [← hW]
  clear hW
  go_region_held3 (fun w' => ((w'.cell? ⟨w.heap.size, 0, none⟩ = some (.bool na) ∧ w'.cell? ⟨w.heap.size, 1, none⟩ = some (.slice ua un uc) ∧ w'.cell? ⟨w.heap.size, 2, none⟩ = some (.int .i64 ea)) ∧ (w'.cell? ⟨w.heap.size + 1, 0, none⟩ = some (.bool nb) ∧ w'.cell? ⟨w.heap.size + 1, 1, none⟩ = some (.slice va vn vc) ∧ w'.cell? ⟨w.heap.size + 1, 2, none⟩ = some (.int .i64 eb)))) (first | (with_reducible assumption) | exact ⟨⟨a0, a1, a2⟩, b0, b1, b2⟩ | (refine HK.out _ ?_; with_reducible assumption) | (refine HK2.out _ (below_store3 (Below.mono hb6 HS2.out) (Nat.le_refl _) _ _ _)) | go_keep)
    (first | (go_at_call 110; refine (k78 _ (by first | (with_reducible assumption) | exact hBR)).mono ?_; rintro r w5 ⟨v5, rfl, ho5, hb5⟩) | (go_at_call 105; (try simp only [hsg, wz]); refine (k31 _ _ ho5 hb5).mono ?_; rintro r w6 ⟨s6, ao6, n6, cap6, ex6, rfl, hN6, hb6, hblk6, ⟨x1, x2, x3⟩, x4, x5, x6⟩))
  have HF : Hid (Below W.heap.size W w6) := hb6
  clear ho5 hb5 hb6 k31 k78 x1 x2 x3 x4 x5 x6 a0 a1 a2 b0 b1 b2 HK HK2
  go_wp2
  refine bodyPost_ret (results_cell_row rfl _ _ (w.heap.size + 1 + 1) 24 #[.bool s6, .slice ao6 n6 cap6, .int .i64 ex6] (0, 0) _ rfl (store3_29 _ _ _ hblk6.out) Tryz.underlying24 rfl Tryz.info24) rfl ?_
  obtain ⟨-, hs, hBW⟩ := HH.out
  have hs5 := hN6.out.2
  exact ⟨_, rfl, (hN6.out.1.store (by omega) _ _ _).mono (by omega), below_store3 (hBW.trans (HF.out.mono hBW.size)) (by omega) _ _ _⟩

set_option maxRecDepth 200000 in
theorem rmul_1 (na nb : Bool) (ua va : Option Addr) (un uc vn vc x y z : Nat) (ea eb e : Int) (s : Bool) (w : World) (hz : dlen z ≤ 35184372088832)
    (k67 : ∀ W g, Below w.heap.size w W → W.heap[g]? = some (.cells #[.bool na, .slice ua un uc, .int .i64 ea, .bool nb, .slice va vn vc, .int .i64 eb] 24 (0, 0)) → Calls Tryz.prog 68 #[.slice (some ⟨g, 0, none⟩) 2 2] W fun r w' => r = .returned (.bool true) ∧ Below W.heap.size W w')
    (k87 : ∀ W, Below w.heap.size w W → Calls Tryz.prog 73 #[.agg #[.bool na, .slice ua un uc, .int .i64 ea], .agg #[.bool nb, .slice va vn vc, .int .i64 eb]] W fun r w' => ∃ a, r = .returned a ∧ Nr w' W.heap.size a s z e ∧ Below W.heap.size W w') :
    Calls Tryz.prog 33 #[NumV na (.slice ua un uc) ea, NumV nb (.slice va vn vc) eb] w fun r w' => HeldR w s z e r w' := by
  obtain ⟨W, hW⟩ : ∃ W, W = ((w.alloc (.cells #[.bool na, .slice ua un uc, .int .i64 ea] 24)).alloc (.cells #[.bool nb, .slice va vn vc, .int .i64 eb] 24)).alloc (.cells #[.bool false, .slice none 0 0, .int .i64 0] 24) := ⟨_, rfl⟩
  obtain ⟨hA, hBb, hC, hsz, hBW⟩ := boxes3 _ _ _ hW
  have hB4 : Below w.heap.size w (W.alloc (.cells #[.bool na, .slice ua un uc, .int .i64 ea, .bool nb, .slice va vn vc, .int .i64 eb] 24)) := hBW.alloc hBW.size _
  have k1 := k67 (W.alloc (.cells #[.bool na, .slice ua un uc, .int .i64 ea, .bool nb, .slice va vn vc, .int .i64 eb] 24)) (w.heap.size + 1 + 1 + 1) hB4 (by rw [← hsz]; exact heap_alloc_new _ _)
  have HH : Hid ((W.heap[w.heap.size]? = some (.cells #[.bool na, .slice ua un uc, .int .i64 ea] 24 (0, 0)) ∧ W.heap[w.heap.size + 1]? = some (.cells #[.bool nb, .slice va vn vc, .int .i64 eb] 24 (0, 0)) ∧ W.heap[w.heap.size + 1 + 1]? = some (.cells #[.bool false, .slice none 0 0, .int .i64 0] 24 (0, 0))) ∧ W.heap.size = w.heap.size + 1 + 1 + 1 ∧ Below w.heap.size w W ∧ Below W.heap.size W (W.alloc (.cells #[.bool na, .slice ua un uc, .int .i64 ea, .bool nb, .slice va vn vc, .int .i64 eb] 24))) := ⟨⟨hA, hBb, hC⟩, hsz, hBW, (Below.refl _ _).alloc (Nat.le_refl _) _⟩
  have HZ : Hid (dlen z ≤ 35184372088832) := hz
  have HK87 : Hid (∀ W, Below w.heap.size w W → Calls Tryz.prog 73 #[.agg #[.bool na, .slice ua un uc, .int .i64 ea], .agg #[.bool nb, .slice va vn vc, .int .i64 eb]] W fun r w' => ∃ a, r = .returned a ∧ Nr w' W.heap.size a s z e ∧ Below W.heap.size W w') := k87
  unfold NumV
  clear hA hBb hC hsz hBW hB4 k67 k87 hz
  go_enter Tryz.func33, Tryz.ntmps33
  go_wp2_with fail
  rw [← hW]
  clear hW
  refine k1.mono ?_
  rintro r w1 ⟨rfl, hB1⟩
  clear k1
  have hBW1 : Below W.heap.size W w1 := HH.out.2.2.2.trans (hB1.mono HH.out.2.2.2.size)
  obtain ⟨⟨a0, a1, a2⟩, -⟩ := box_cells29 (box_later HH.out.1.1 hBW1 (by have := HH.out.2.1; omega))
  obtain ⟨⟨b0, b1, b2⟩, -⟩ := box_cells29 (box_later HH.out.1.2.1 hBW1 (by have := HH.out.2.1; omega))
  have HB1 : Hid (Below W.heap.size W w1) := hBW1
  clear hB1 hBW1
  go_wp2_with fail
  refine (HK87.out w1 (HH.out.2.2.1.trans (HB1.out.mono HH.out.2.2.1.size))).mono ?_
  rintro r w2 ⟨A, rfl, hN, hB2⟩
  have HB2 : Hid (Below W.heap.size W w2) := HB1.out.trans (hB2.mono HB1.out.size)
  have HN : Hid (Nr w2 W.heap.size A s z e) := hN.mono HB1.out.size
  clear hN hB2 a0 a1 a2 b0 b1 b2
  go_wp2_with fail
  refine (kept_nr HN.out HZ.out).mono ?_
  rintro r w3 ⟨rfl, hB3⟩
  have HB3 : Hid (Below W.heap.size W w3) := HB2.out.trans (hB3.mono HB2.out.size)
  have HN3 : Hid (Nr w3 W.heap.size A s z e) := HN.out.later hB3
  have HC3 : Hid (w3.heap[w.heap.size + 1 + 1]? = some (.cells #[.bool false, .slice none 0 0, .int .i64 0] 24 (0, 0))) := box_later HH.out.1.2.2 HB3.out (by have := HH.out.2.1; omega)
  obtain ⟨⟨x1, x2, x3⟩, x4, x5, x6⟩ := box_cells29 HC3.out
  obtain ⟨s', ao, n, cap, ex, hsh⟩ := HN3.out.shape
  have HSH : Hid (A = .agg #[.bool s', .slice ao n cap, .int .i64 ex]) := hsh
  clear hB3
  cases hok : okR s z e
  · clear hsh
    have hNil : Nil = .agg #[.bool false, .slice none 0 0, .int .i64 0] := rfl
    go_wp2
    refine bodyPost_ret (results_cell_tmp_row rfl _ _ (w.heap.size + 1 + 1) 24 #[.bool false, .slice none 0 0, .int .i64 0] (0, 0) _ rfl (store3_29 _ _ _ HC3.out) Tryz.underlying24 rfl Tryz.info24) rfl ?_
    obtain ⟨-, hs, hBW, -⟩ := HH.out
    exact ⟨A, by rw [hok]; rfl, (HN3.out.store (by omega) _ _ _).mono (by omega), below_store3 (hBW.trans (HB3.out.mono hBW.size)) (by omega) _ _ _⟩
  · subst hsh
    go_wp2
    refine bodyPost_ret (results_cell_tmp_row rfl _ _ (w.heap.size + 1 + 1) 24 #[.bool s', .slice ao n cap, .int .i64 ex] (0, 0) _ rfl (store3_29 _ _ _ HC3.out) Tryz.underlying24 rfl Tryz.info24) rfl ?_
    obtain ⟨-, hs, hBW, -⟩ := HH.out
    exact ⟨_, by rw [hok]; rfl, (HN3.out.store (by omega) _ _ _).mono (by omega), below_store3 (hBW.trans (HB3.out.mono hBW.size)) (by omega) _ _ _⟩


theorem rmul_ok {na nb : Bool} {ua va : Option Addr} {uc vc x y : Nat} {ea eb : Int} {w : World} (h1 : Arg w ua (dlen x) uc x) (h2 : Arg w va (dlen y) vc y) (hx : dlen x ≤ 400000) (hy : dlen y ≤ 400000) (ha : -4000000 ≤ ea ∧ ea ≤ 4000000) (hb : -4000000 ≤ eb ∧ eb ≤ 4000000)
    (hoka : okN na (dlen x) x ea = true) (hokb : okN nb (dlen y) y eb = true) :
    Calls Tryz.prog 33 #[.agg #[.bool na, .slice ua (dlen x) uc, .int .i64 ea], .agg #[.bool nb, .slice va (dlen y) vc, .int .i64 eb]] w fun r w' => HeldR w (!(na == nb)) (x * y) (ea + eb) r w' := by
  have hxy : dlen (x * y) ≤ 1000000 := by
    have l1 := (dlen_le (dlen x) x).1 (Nat.le_refl _)
    have l2 := (dlen_le (dlen y) y).1 (Nat.le_refl _)
    have : dlen (x * y) ≤ dlen x + dlen y := (dlen_le _ _).2 (by
      rw [Nat.pow_add]
      rcases Nat.eq_zero_or_pos x with h | h
      · rw [h, Nat.zero_mul]; exact Nat.mul_pos (Bpow_pos _) (Bpow_pos _)
      · exact Nat.mul_lt_mul_of_lt_of_le l1 (Nat.le_of_lt l2) (Bpow_pos _))
    omega
  exact rmul_1 na nb ua va _ uc _ vc x y (x * y) ea eb (ea + eb) (!(na == nb)) w (by omega) (fun W g hW hg => by
    have := rknown2 hg (h1.later hW) (h2.later hW)
    rw [hoka, hokb] at this
    exact this) (fun W hW => rtimes_1 na nb _ ua va _ uc _ vc x y ea eb W ⟨ua, uc, rfl, h1.le, (h1.later hW).at_⟩ ⟨va, vc, rfl, h2.le, (h2.later hW).at_⟩ hx hy ha.1 ha.2 hb.1 hb.2 rfl)
end Go.Proofs.YtejefbnfmglfeaaGreatDoor

/- The document's twin. -/
namespace Go.Proofs.YtejefbnfmglfeaaGreatDoor
set_option linter.unusedVariables false
set_option linter.unusedSimpArgs false
open Go.RowKit

theorem dn_of_row {w : World} {base n z : Nat} {v : Value} (h : w.ownsRow base 55 1 v n (cells z n)) (hn0 : 0 < n) : Dn w base v n z := by
  obtain ⟨g2, cap2, cur2, rfl, hg2, hc2, hc3, hc4, hc5, hc6⟩ := (h.2.resolve_left fun h => by omega)
  refine .inr ⟨g2, cap2, cur2, rfl, hg2, ⟨hc3, by unfold maxLen at hc4; omega⟩, hc2, by omega, fun i hi => ?_⟩
  have h7 : (cells z n)[i]? = cur2[i]? := by
    rw [← hc6, Nat.mul_one, List.getElem?_take, if_pos hi, Array.getElem?_toList]
  rw [← h7, cells_get hi]

set_option maxRecDepth 200000 in
/-- append(nil, m...): a copy -/
theorem wpList_append_copy {w : World} {ops : Array Oper} {rest : List Oper} {o : Oper} {a : Act} {Q : Exit → Act → World → Prop} (hgd : o.guard = none) (s x : Operand)
    (ho : o.op = .call { callee := .builtin .append, args := #[s, x], argTypes := #[22, 22] }) (hs : a.eval s = .slice none 0 0) {ao : Option Addr} {n cap z : Nat} (hx : a.eval x = .slice ao n cap) (hA : Arg w ao n cap z)
    (h : ∀ ao' cap' w', Dn w' w.heap.size (.slice ao' n cap') n z → Below w.heap.size w w' → wpList Tryz.prog ops Q rest (a.put o.dst (.slice ao' n cap')) w') : wpList Tryz.prog ops Q (o :: rest) a w := by
  obtain ⟨i0, hi0, hz0, hz1, hz2⟩ := info_parts Tryz.info55
  by_cases h0 : n = 0
  · subst h0
    rcases hA.nil rfl with ⟨ad, rfl⟩ | ⟨rfl, rfl⟩
    · refine wpList_append_own _ hgd s x 22 ho w.heap.size 55 i0 (.int .u32 0) 1 4 Tryz.underlying22 hi0 hz0 hz1 hz2 rfl (by decide) (.slice none 0 0) 0 [] hs (World.ownsRow_nil w _ _ _) ad 0 cap [] hx (by simp) (by intro j u hj; simp at hj) (by intro u hu; simp at hu) (by unfold maxLen; omega) (by omega) (Nat.le_refl _) ?_
      intro v' w' _ r2 r3
      obtain rfl : v' = .slice none 0 0 := r3.2 ⟨rfl, rfl⟩
      exact h none 0 w' (.inl ⟨rfl, rfl⟩) (Below.grown (Below.refl _ _) r2 (Nat.le_refl _) (fun k hk => by simp [Value.ownBlock] at hk))
    · exact wpList_append_own_none hgd s x 22 ho w.heap.size 55 i0 1 Tryz.underlying22 hi0 (.slice none 0 0) 0 [] hs (World.ownsRow_nil w _ _ _) hx (h none 0 w (.inl ⟨rfl, rfl⟩) (Below.refl _ _))
  · obtain ⟨b, o', h1, h2⟩ := hA.at_
    obtain rfl := h1 (by omega)
    have hsm := hA.small
    refine wpList_append_own _ hgd s x 22 ho w.heap.size 55 i0 (.int .u32 0) 1 4 Tryz.underlying22 hi0 hz0 hz1 hz2 rfl (by decide) (.slice none 0 0) 0 [] hs (World.ownsRow_nil w _ _ _) ⟨b, o', none⟩ n cap (cells z n) hx (by rw [cells_length, Nat.mul_one]) (fun j u hj => by
      have hjl : j < n := by
        have := (List.getElem?_eq_some_iff.1 hj).1
        rwa [cells_length] at this
      rw [cells_get hjl] at hj
      rw [show (⟨b, o', none⟩ : Addr).add j = ⟨b, o' + j, none⟩ by simp [Addr.add], ← hj]
      exact h2 j hjl) (by intro u hu; simp [cells] at hu; obtain ⟨j, -, rfl⟩ := hu; rfl) (by unfold maxLen; omega) (by omega) (Nat.le_refl _) ?_
    intro v' w' r1 r2 _
    rw [Nat.zero_add, List.nil_append] at r1
    have hd := dn_of_row r1 (by omega)
    have hb : Below w.heap.size w w' := Below.grown (Below.refl _ _) r2 (Nat.le_refl _) (fun k hk => by simp [Value.ownBlock] at hk)
    rcases hd with ⟨-, h⟩ | ⟨g, cap', c, rfl, h3⟩
    · omega
    · exact h _ _ w' (.inr ⟨g, cap', c, rfl, h3⟩) hb

theorem Dn.store {w : World} {base n z : Nat} {v : Value} (h : Dn w base v n z) {g : Nat} (hg : g < base) (i : Nat) (u : Value) : Dn (w.setCell ⟨g, i, none⟩ u) base v n z := by
  rcases h with h | ⟨g2, cap2, c, rfl, h1, h2, h3, h4⟩
  · exact .inl h
  · exact .inr ⟨g2, cap2, c, rfl, h1, h2, by rw [setCell_block _ _ (by omega)]; exact h3, h4⟩

set_option maxHeartbeats 4000000 in
set_option maxRecDepth 200000 in
theorem rtwin {ng : Bool} {ao : Option Addr} {n cap z : Nat} {e : Int} {w : World} (h : Arg w ao n cap z) :
    Calls Tryz.prog 44 #[.agg #[.bool ng, .slice ao n cap, .int .i64 e]] w fun r w' => ∃ ao' cap', r = .returned (.agg #[.bool ng, .slice ao' n cap', .int .i64 e]) ∧ Dn w' w.heap.size (.slice ao' n cap') n z ∧ Below w.heap.size w w' := by
  obtain ⟨W, hW⟩ : ∃ W, W = (w.alloc (.cells #[.bool ng, .slice ao n cap, .int .i64 e] 24)).alloc (.cells #[.bool false, .slice none 0 0, .int .i64 0] 24) := ⟨_, rfl⟩
  obtain ⟨hA, hB, hsz, hBW⟩ := two29 _ _ hW
  obtain ⟨⟨a0, a1, a2⟩, -⟩ := box_cells29 hA
  have HX : Hid (Below w.heap.size w W ∧ W.heap.size = w.heap.size + 1 + 1 ∧ W.heap[w.heap.size]? = some (.cells #[.bool ng, .slice ao n cap, .int .i64 e] 24 (0, 0)) ∧ W.heap[w.heap.size + 1]? = some (.cells #[.bool false, .slice none 0 0, .int .i64 0] 24 (0, 0))) := ⟨hBW, hsz, hA, hB⟩
  have hAr := h.later hBW
  rw [hW] at a0 a1 a2
  have HW : Hid (W = (w.alloc (.cells #[.bool ng, .slice ao n cap, .int .i64 e] 24)).alloc (.cells #[.bool false, .slice none 0 0, .int .i64 0] 24)) := hW
  clear hA hB hsz hBW h hW
  go_enter Tryz.func44, Tryz.ntmps44
  go_wp2_with (at_builtin; rw [← HW.out]; refine wpList_append_copy rfl _ _ rfl rfl rfl hAr ?_)
  intro ao2 cap2 w2 hd hb
  have hb1 := box_later HX.out.2.2.1 hb (by have := HX.out.2.1; omega)
  have hb2 := box_later HX.out.2.2.2 hb (by have := HX.out.2.1; omega)
  obtain ⟨⟨x1, x2, x3⟩, x4, x5, x6⟩ := box_cells29 hb1
  obtain ⟨⟨y1, y2, y3⟩, y4, y5, y6⟩ := box_cells29 hb2
  have HR : Hid (Dn w2 W.heap.size (.slice ao2 n cap2) n z ∧ Below W.heap.size W w2 ∧ w2.heap[w.heap.size + 1]? = some (.cells #[.bool false, .slice none 0 0, .int .i64 0] 24 (0, 0))) := ⟨hd, hb, hb2⟩
  clear hd hb hb1 hb2 a0 a1 a2 hAr
  go_wp2
  have HQ : (w2.setCell ⟨w.heap.size, 1, none⟩ (.slice ao2 n cap2)).heap[w.heap.size + 1]? = some (.cells #[.bool false, .slice none 0 0, .int .i64 0] 24 (0, 0)) := by
    rw [setCell_block _ _ (by omega)]; exact HR.out.2.2
  refine bodyPost_ret (results_cell_row rfl _ _ (w.heap.size + 1) 24 #[.bool ng, .slice ao2 n cap2, .int .i64 e] (0, 0) _ rfl (store3_29 _ _ _ HQ) Tryz.underlying24 rfl Tryz.info24) rfl ?_
  obtain ⟨q1, q2, -, -⟩ := HX.out
  obtain ⟨r1, r2, -⟩ := HR.out
  exact ⟨_, _, rfl, ((((r1.store (by omega) _ _).store (by omega) _ _).store (by omega) _ _).store (by omega) _ _).mono (by omega), below_store3 ((q1.trans (r2.mono q1.size)).setCell (Nat.le_refl _) _) (by omega) _ _ _⟩

/-- a number of the document, of the value t -/
def RN (w : World) (base : Nat) (A : Value) (t : Bool × Nat × Int) : Prop := ∃ ao cap, A = .agg #[.bool t.1, .slice ao (dlen t.2.1) cap, .int .i64 t.2.2] ∧ (∀ ad : Addr, ao = some ad → 0 < dlen t.2.1 → base ≤ ad.block) ∧ At w ao (dlen t.2.1) t.2.1
theorem RN.later {w w' : World} {base : Nat} {A : Value} {t : Bool × Nat × Int} (h : RN w base A t) (hb : Below w.heap.size w w') : RN w' base A t := by
  obtain ⟨ao, cap, h1, h2, h3⟩ := h
  exact ⟨ao, cap, h1, h2, h3.later hb⟩
theorem RN.mono {w : World} {base base' : Nat} {A : Value} {t : Bool × Nat × Int} (h : RN w base A t) (hb : base' ≤ base) : RN w base' A t := by
  obtain ⟨ao, cap, h1, h2, h3⟩ := h
  exact ⟨ao, cap, h1, fun ad e hl => Nat.le_trans hb (h2 ad e hl), h3⟩
theorem Nr.rn {w : World} {base : Nat} {A : Value} {s : Bool} {z : Nat} {e : Int} (h : Nr w base A s z e) : RN w base A (cn s z e) := by
  unfold cn
  rcases h with ⟨rfl, rfl⟩ | ⟨h0, g, cap, rfl, hg, ha⟩
  · rw [if_pos rfl]
    exact ⟨none, 0, by rw [dlen_zero]; rfl, (fun ad e => by cases e), 0, 0, fun h => by rw [dlen_zero] at h; omega, fun i hi => by rw [dlen_zero] at hi; omega⟩
  · rw [if_neg h0]
    exact ⟨_, cap, rfl, (fun ad e _ => by cases e; exact hg), ha⟩
theorem rn_nil (w : World) (base : Nat) : RN w base (.agg #[.bool false, .slice none 0 0, .int .i64 0]) (false, 0, 0) :=
  ⟨none, 0, by rw [dlen_zero], (fun ad e => by cases e), 0, 0, fun h => by rw [dlen_zero] at h; omega, fun i hi => by rw [dlen_zero] at hi; omega⟩
theorem Dn.at_ {w : World} {base n z cap : Nat} {ao : Option Addr} (h : Dn w base (.slice ao n cap) n z) : At w ao n z := by
  rcases h with ⟨h1, rfl⟩ | ⟨g, cap', c, h1, h2, h3, h4, h5, h6⟩
  · exact ⟨0, 0, fun h => by omega, fun i hi => by omega⟩
  · simp only [Value.slice.injEq] at h1
    obtain ⟨rfl, -, rfl⟩ := h1
    exact ⟨g, 0, fun _ => rfl, fun i hi => by simp [World.cell?, h4, h6 i hi]⟩
end Go.Proofs.YtejefbnfmglfeaaGreatDoor

/- The document's Shift. -/
namespace Go.Proofs.YtejefbnfmglfeaaGreatDoor
set_option linter.unusedVariables false
set_option linter.unusedSimpArgs false
open Go.RowKit

def ShP (w : World) (na : Bool) (un z : Nat) (e : Int) (VK : Bool) (r : Ending) (w' : World) : Prop := ∃ ao' cap', r = .returned (.tuple #[if VK then .agg #[.bool na, .slice ao' un cap', .int .i64 e] else .agg #[.bool false, .slice none 0 0, .int .i64 0], .int .i64 (if VK then 0 else 2)]) ∧ Dn w' w.heap.size (.slice ao' un cap') un z ∧ Below w.heap.size w w'

set_option maxHeartbeats 4000000 in
set_option maxRecDepth 200000 in
theorem rshift_0 (na : Bool) (ua : Option Addr) (un uc : Nat) (ea k0 : Int) (w : World) (kV : ∀ W, Below w.heap.size w W → Calls Tryz.prog 11 #[.agg #[.bool na, .slice ua un uc, .int .i64 ea]] W fun r w' => r = .returned (.bool false) ∧ Below W.heap.size W w') :
    Calls Tryz.prog 35 #[.agg #[.bool na, .slice ua un uc, .int .i64 ea], .int .i64 k0] w fun r w' => r = .returned (.tuple #[.agg #[.bool false, .slice none 0 0, .int .i64 0], .int .i64 1]) ∧ Below w.heap.size w w' := by
  obtain ⟨W, hW⟩ : ∃ W, W = (w.alloc (.cells #[.bool na, .slice ua un uc, .int .i64 ea] 24)).alloc (.cells #[.bool false, .slice none 0 0, .int .i64 0] 24) := ⟨_, rfl⟩
  obtain ⟨hA, hB, hsz, hBW⟩ := two29 _ _ hW
  have k := kV W hBW
  obtain ⟨⟨a0, a1, a2⟩, -⟩ := box_cells29 hA
  rw [hW] at a0 a1 a2
  have HX : Hid (Below w.heap.size w W ∧ W.heap.size = w.heap.size + 1 + 1 ∧ W.heap[w.heap.size]? = some (.cells #[.bool na, .slice ua un uc, .int .i64 ea] 24 (0, 0)) ∧ W.heap[w.heap.size + 1]? = some (.cells #[.bool false, .slice none 0 0, .int .i64 0] 24 (0, 0))) := ⟨hBW, hsz, hA, hB⟩
  clear kV hA hB hsz hBW
  go_enter Tryz.func35, Tryz.ntmps35
  go_wp2_with fail
  rw [← hW]
  clear hW a0 a1 a2
  refine k.mono ?_
  rintro r w1 ⟨rfl, hb1⟩
  have HA : Hid (w1.heap[w.heap.size]? = some (.cells #[.bool na, .slice ua un uc, .int .i64 ea] 24 (0, 0))) := box_later HX.out.2.2.1 hb1 (by have := HX.out.2.1; omega)
  have HBx : Hid (w1.heap[w.heap.size + 1]? = some (.cells #[.bool false, .slice none 0 0, .int .i64 0] 24 (0, 0))) := box_later HX.out.2.2.2 hb1 (by have := HX.out.2.1; omega)
  have HB1 : Hid (Below W.heap.size W w1) := hb1
  obtain ⟨⟨a0, a1, a2⟩, -⟩ := box_cells29 HA.out
  obtain ⟨⟨b0, b1, b2⟩, b3, b4, b5⟩ := box_cells29 HBx.out
  clear k hb1
  go_wp2
  refine bodyPost_ret (results_cell_tmp_row rfl _ _ (w.heap.size + 1) 24 #[.bool false, .slice none 0 0, .int .i64 0] (0, 0) _ rfl (store3_29 _ _ _ HBx.out) Tryz.underlying24 rfl Tryz.info24) rfl ?_
  have hq := HX.out
  exact ⟨rfl, below_store3 (hq.1.trans (HB1.out.mono hq.1.size)) (by omega) _ _ _⟩

set_option maxHeartbeats 4000000 in
set_option maxRecDepth 200000 in
theorem rshift_1 (na : Bool) (ua : Option Addr) (un uc : Nat) (ea k0 : Int) (w : World) (kV : ∀ W, Below w.heap.size w W → Calls Tryz.prog 11 #[.agg #[.bool na, .slice ua 0 uc, .int .i64 ea]] W fun r w' => r = .returned (.bool true) ∧ Below W.heap.size W w') :
    Calls Tryz.prog 35 #[.agg #[.bool na, .slice ua 0 uc, .int .i64 ea], .int .i64 k0] w fun r w' => r = .returned (.tuple #[.agg #[.bool na, .slice ua 0 uc, .int .i64 ea], .int .i64 0]) ∧ Below w.heap.size w w' := by
  obtain ⟨W, hW⟩ : ∃ W, W = (w.alloc (.cells #[.bool na, .slice ua 0 uc, .int .i64 ea] 24)).alloc (.cells #[.bool false, .slice none 0 0, .int .i64 0] 24) := ⟨_, rfl⟩
  obtain ⟨hA, hB, hsz, hBW⟩ := two29 _ _ hW
  have k := kV W hBW
  obtain ⟨⟨a0, a1, a2⟩, -⟩ := box_cells29 hA
  rw [hW] at a0 a1 a2
  have HX : Hid (Below w.heap.size w W ∧ W.heap.size = w.heap.size + 1 + 1 ∧ W.heap[w.heap.size]? = some (.cells #[.bool na, .slice ua 0 uc, .int .i64 ea] 24 (0, 0)) ∧ W.heap[w.heap.size + 1]? = some (.cells #[.bool false, .slice none 0 0, .int .i64 0] 24 (0, 0))) := ⟨hBW, hsz, hA, hB⟩
  clear kV hA hB hsz hBW
  go_enter Tryz.func35, Tryz.ntmps35
  go_wp2_with fail
  rw [← hW]
  clear hW a0 a1 a2
  refine k.mono ?_
  rintro r w1 ⟨rfl, hb1⟩
  have HA : Hid (w1.heap[w.heap.size]? = some (.cells #[.bool na, .slice ua 0 uc, .int .i64 ea] 24 (0, 0))) := box_later HX.out.2.2.1 hb1 (by have := HX.out.2.1; omega)
  have HBx : Hid (w1.heap[w.heap.size + 1]? = some (.cells #[.bool false, .slice none 0 0, .int .i64 0] 24 (0, 0))) := box_later HX.out.2.2.2 hb1 (by have := HX.out.2.1; omega)
  have HB1 : Hid (Below W.heap.size W w1) := hb1
  obtain ⟨⟨a0, a1, a2⟩, -⟩ := box_cells29 HA.out
  obtain ⟨⟨b0, b1, b2⟩, b3, b4, b5⟩ := box_cells29 HBx.out
  clear k hb1
  go_wp2
  refine bodyPost_ret (results_cell_tmp_row rfl _ _ (w.heap.size + 1) 24 #[.bool na, .slice ua 0 uc, .int .i64 ea] (0, 0) _ rfl (store3_29 _ _ _ HBx.out) Tryz.underlying24 rfl Tryz.info24) rfl ?_
  have hq := HX.out
  exact ⟨rfl, below_store3 (hq.1.trans (HB1.out.mono hq.1.size)) (by omega) _ _ _⟩

set_option maxHeartbeats 4000000 in
set_option maxRecDepth 200000 in
theorem rshift_2 (na : Bool) (ua : Option Addr) (un uc : Nat) (ea k0 : Int) (w : World) (hn : un ≤ 35184372088832) (hn0 : ((un : Int) == 0) = false) (hk : k0 < -131072 ∨ 131072 < k0) (kV : ∀ W, Below w.heap.size w W → Calls Tryz.prog 11 #[.agg #[.bool na, .slice ua un uc, .int .i64 ea]] W fun r w' => r = .returned (.bool true) ∧ Below W.heap.size W w') :
    Calls Tryz.prog 35 #[.agg #[.bool na, .slice ua un uc, .int .i64 ea], .int .i64 k0] w fun r w' => r = .returned (.tuple #[.agg #[.bool false, .slice none 0 0, .int .i64 0], .int .i64 2]) ∧ Below w.heap.size w w' := by
  obtain ⟨W, hW⟩ : ∃ W, W = (w.alloc (.cells #[.bool na, .slice ua un uc, .int .i64 ea] 24)).alloc (.cells #[.bool false, .slice none 0 0, .int .i64 0] 24) := ⟨_, rfl⟩
  obtain ⟨hA, hB, hsz, hBW⟩ := two29 _ _ hW
  have k := kV W hBW
  obtain ⟨⟨a0, a1, a2⟩, -⟩ := box_cells29 hA
  rw [hW] at a0 a1 a2
  have HX : Hid (Below w.heap.size w W ∧ W.heap.size = w.heap.size + 1 + 1 ∧ W.heap[w.heap.size]? = some (.cells #[.bool na, .slice ua un uc, .int .i64 ea] 24 (0, 0)) ∧ W.heap[w.heap.size + 1]? = some (.cells #[.bool false, .slice none 0 0, .int .i64 0] 24 (0, 0))) := ⟨hBW, hsz, hA, hB⟩
  clear kV hA hB hsz hBW
  go_enter Tryz.func35, Tryz.ntmps35
  go_wp2_with fail
  rw [← hW]
  clear hW a0 a1 a2
  refine k.mono ?_
  rintro r w1 ⟨rfl, hb1⟩
  have HA : Hid (w1.heap[w.heap.size]? = some (.cells #[.bool na, .slice ua un uc, .int .i64 ea] 24 (0, 0))) := box_later HX.out.2.2.1 hb1 (by have := HX.out.2.1; omega)
  have HBx : Hid (w1.heap[w.heap.size + 1]? = some (.cells #[.bool false, .slice none 0 0, .int .i64 0] 24 (0, 0))) := box_later HX.out.2.2.2 hb1 (by have := HX.out.2.1; omega)
  have HB1 : Hid (Below W.heap.size W w1) := hb1
  obtain ⟨⟨a0, a1, a2⟩, -⟩ := box_cells29 HA.out
  obtain ⟨⟨b0, b1, b2⟩, b3, b4, b5⟩ := box_cells29 HBx.out
  clear k hb1
  by_cases hk1 : k0 < -131072
  · clear hk
    go_wp2
    refine bodyPost_ret (results_cell_tmp_row rfl _ _ (w.heap.size + 1) 24 #[.bool false, .slice none 0 0, .int .i64 0] (0, 0) _ rfl (store3_29 _ _ _ HBx.out) Tryz.underlying24 rfl Tryz.info24) rfl ?_
    have hq := HX.out
    exact ⟨rfl, below_store3 (hq.1.trans (HB1.out.mono hq.1.size)) (by omega) _ _ _⟩
  · have hk2 : 131072 < k0 := by omega
    clear hk
    go_wp2
    refine bodyPost_ret (results_cell_tmp_row rfl _ _ (w.heap.size + 1) 24 #[.bool false, .slice none 0 0, .int .i64 0] (0, 0) _ rfl (store3_29 _ _ _ HBx.out) Tryz.underlying24 rfl Tryz.info24) rfl ?_
    have hq := HX.out
    exact ⟨rfl, below_store3 (hq.1.trans (HB1.out.mono hq.1.size)) (by omega) _ _ _⟩

set_option maxHeartbeats 4000000 in
set_option maxRecDepth 200000 in
theorem rshift_3 (na : Bool) (ua : Option Addr) (un uc : Nat) (ea k0 : Int) (w : World) (z : Nat) (hAr : Arg w ua un uc z) (hn0 : ((un : Int) == 0) = false) (he : -65536 ≤ ea ∧ ea ≤ 65536) (hk1 : -131072 ≤ k0) (hk2 : k0 ≤ 131072) (kV : ∀ W, Below w.heap.size w W → Calls Tryz.prog 11 #[.agg #[.bool na, .slice ua un uc, .int .i64 ea]] W fun r w' => r = .returned (.bool true) ∧ Below W.heap.size W w') (VK : Bool) (hVK : okN na un z (ea + k0) = VK) :
    Calls Tryz.prog 35 #[.agg #[.bool na, .slice ua un uc, .int .i64 ea], .int .i64 k0] w fun r w' => ShP w na un z (ea + k0) VK r w' := by
  have hn := hAr.small
  have HAr : Hid (Arg w ua un uc z ∧ okN na un z (ea + k0) = VK ∧ (-65536 ≤ ea ∧ ea ≤ 65536)) := ⟨hAr, hVK, he⟩
  clear hAr he hVK
  obtain ⟨W, hW⟩ : ∃ W, W = (w.alloc (.cells #[.bool na, .slice ua un uc, .int .i64 ea] 24)).alloc (.cells #[.bool false, .slice none 0 0, .int .i64 0] 24) := ⟨_, rfl⟩
  obtain ⟨hA, hB, hsz, hBW⟩ := two29 _ _ hW
  have k := kV W hBW
  obtain ⟨⟨a0, a1, a2⟩, -⟩ := box_cells29 hA
  rw [hW] at a0 a1 a2
  have HX : Hid (Below w.heap.size w W ∧ W.heap.size = w.heap.size + 1 + 1 ∧ W.heap[w.heap.size]? = some (.cells #[.bool na, .slice ua un uc, .int .i64 ea] 24 (0, 0)) ∧ W.heap[w.heap.size + 1]? = some (.cells #[.bool false, .slice none 0 0, .int .i64 0] 24 (0, 0))) := ⟨hBW, hsz, hA, hB⟩
  clear kV hA hB hsz hBW
  go_enter Tryz.func35, Tryz.ntmps35
  go_wp2_with fail
  rw [← hW]
  clear hW a0 a1 a2
  refine k.mono ?_
  rintro r w1 ⟨rfl, hb1⟩
  have HA : Hid (w1.heap[w.heap.size]? = some (.cells #[.bool na, .slice ua un uc, .int .i64 ea] 24 (0, 0))) := box_later HX.out.2.2.1 hb1 (by have := HX.out.2.1; omega)
  have HBx : Hid (w1.heap[w.heap.size + 1]? = some (.cells #[.bool false, .slice none 0 0, .int .i64 0] 24 (0, 0))) := box_later HX.out.2.2.2 hb1 (by have := HX.out.2.1; omega)
  have HB1 : Hid (Below W.heap.size W w1) := hb1
  obtain ⟨⟨a0, a1, a2⟩, -⟩ := box_cells29 HA.out
  obtain ⟨⟨b0, b1, b2⟩, b3, b4, b5⟩ := box_cells29 HBx.out
  clear k hb1
  go_wp2_with fail
  refine (rscaled_1 na ua un uc ea k0 w1 hn hn0 HAr.out.2.2 ⟨hk1, hk2⟩).mono ?_
  rintro r w2 ⟨rfl, hb2⟩
  have HB2 : Hid (Below W.heap.size W w2) := HB1.out.trans (hb2.mono HB1.out.size)
  clear hb2 a0 a1 a2 b0 b1 b2 b3 b4 b5
  go_wp2_with fail
  refine (rtwin ((HAr.out.1.later HX.out.1).later HB2.out)).mono ?_
  rintro r w3 ⟨ao3, cap3, rfl, hd3, hb3⟩
  have HB3 : Hid (Below W.heap.size W w3) := HB2.out.trans (hb3.mono HB2.out.size)
  have HD3 : Hid (Dn w3 w2.heap.size (.slice ao3 un cap3) un z) := hd3
  clear hb3 hd3
  go_wp2_with fail
  refine (r41 na ao3 un cap3 (ea + k0) VK w3 (fun W4 hW4 => by
    have := rvalid_at (s := na) (cap := cap3) (e := ea + k0) (HD3.out.at_.later hW4) hn
    rw [HAr.out.2.1] at this
    exact this)).mono ?_
  rintro r w4 ⟨rfl, hb4⟩
  have HB4 : Hid (Below W.heap.size W w4) := HB3.out.trans (hb4.mono HB3.out.size)
  have HD4 : Hid (Dn w4 w2.heap.size (.slice ao3 un cap3) un z) := HD3.out.later hb4
  have HC4 : Hid (w4.heap[w.heap.size + 1]? = some (.cells #[.bool false, .slice none 0 0, .int .i64 0] 24 (0, 0))) := box_later HX.out.2.2.2 HB4.out (by have := HX.out.2.1; omega)
  obtain ⟨⟨x1, x2, x3⟩, x4, x5, x6⟩ := box_cells29 HC4.out
  clear hb4
  have hq := HX.out.2.1
  cases VK
  · go_wp2
    refine bodyPost_ret (results_cell_tmp_row rfl _ _ (w.heap.size + 1) 24 #[.bool false, .slice none 0 0, .int .i64 0] (0, 0) _ rfl (store3_29 _ _ _ HC4.out) Tryz.underlying24 rfl Tryz.info24) rfl ?_
    exact ⟨ao3, cap3, rfl, (((HD4.out.store (by have := HB2.out.size; omega) _ _).store (by have := HB2.out.size; omega) _ _).store (by have := HB2.out.size; omega) _ _).mono (by have := HB2.out.size; omega), below_store3 (HX.out.1.trans (HB4.out.mono HX.out.1.size)) (by omega) _ _ _⟩
  · go_wp2
    refine bodyPost_ret (results_cell_tmp_row rfl _ _ (w.heap.size + 1) 24 #[.bool na, .slice ao3 un cap3, .int .i64 (ea + k0)] (0, 0) _ rfl (store3_29 _ _ _ HC4.out) Tryz.underlying24 rfl Tryz.info24) rfl ?_
    exact ⟨ao3, cap3, rfl, (((HD4.out.store (by have := HB2.out.size; omega) _ _).store (by have := HB2.out.size; omega) _ _).store (by have := HB2.out.size; omega) _ _).mono (by have := HB2.out.size; omega), below_store3 (HX.out.1.trans (HB4.out.mono HX.out.1.size)) (by omega) _ _ _⟩
end Go.Proofs.YtejefbnfmglfeaaGreatDoor

/- The document's High, far. -/
namespace Go.Proofs.YtejefbnfmglfeaaGreatDoor
set_option linter.unusedVariables false
set_option linter.unusedSimpArgs false
open Go.RowKit

set_option maxHeartbeats 4000000 in
set_option maxRecDepth 200000 in
theorem rhigh_1 (neg : Bool) (ao : Option Addr) (n cap b : Nat) (e : Int) (w : World) (hn0 : ((n : Int) == 0) = false) (hb : b ≤ 64000000000) (he1 : -4000000 ≤ e) (he2 : e ≤ 4000000)
    (k74 : ∀ W, Below w.heap.size w W → Calls Tryz.prog 41 #[.slice ao n cap] W fun r w' => r = .returned (.int .i64 b) ∧ w' = W) :
    Calls Tryz.prog 51 #[.agg #[.bool neg, .slice ao n cap, .int .i64 e]] w fun r w' => r = .returned (.int .i64 (b + e)) ∧ Below w.heap.size w w' := by
  obtain ⟨W, hW⟩ : ∃ W, W = w.alloc (.cells #[.bool neg, .slice ao n cap, .int .i64 e] 24) := ⟨_, rfl⟩
  have hBW : Below w.heap.size w W := by rw [hW]; exact (Below.refl _ _).alloc (Nat.le_refl _) _
  have hbA : W.heap[w.heap.size]? = some (.cells #[.bool neg, .slice ao n cap, .int .i64 e] 24 (0, 0)) := by rw [hW]; exact heap_alloc_new _ _
  obtain ⟨⟨a0, a1, a2⟩, -⟩ := box_cells29 hbA
  have k := fun d => k74 (W.drewN d) (hBW.trans ⟨rfl, rfl, rfl, Nat.le_refl _, fun _ _ => rfl⟩)
  have HB : Hid (Below w.heap.size w W) := hBW
  clear k74 hBW hbA
  go_enter Tryz.func51, Tryz.ntmps51
  go_upto_region 3 with fail
  rw [← hW]
  clear hW
  go_quiet ((go_at_call 41; exact Calls.quiet_of_same (k _)))
  go_wp2
  go_ret
  refine ⟨congrArg Ending.returned (congrArg (Value.int IntKind.i64) ?_), HB.out.trans ⟨rfl, rfl, rfl, Nat.le_refl _, fun _ _ => rfl⟩⟩
  first | rfl | omega | (rw [IntKind.wrap_i64]; omega) | (unfold wrap64; omega)

theorem rhigh {neg : Bool} {ao : Option Addr} {cap x : Nat} {e : Int} {w : World} (h : At w ao (dlen x) x) (h0 : x ≠ 0) (hx : dlen x ≤ 1000000000) (he : -4000000 ≤ e ∧ e ≤ 4000000) :
    Calls Tryz.prog 51 #[.agg #[.bool neg, .slice ao (dlen x) cap, .int .i64 e]] w fun r w' => r = .returned (.int .i64 (bl x + e)) ∧ Below w.heap.size w w' := by
  have hl : 0 < dlen x := Nat.pos_of_ne_zero fun e => h0 (dlen_eq_zero.1 e)
  refine rhigh_1 neg ao (dlen x) cap (bl x) e w (len_ne (n := 0) h0) ?_ he.1 he.2 (fun W hW => ?_)
  · have := bl_le_dlen x
    omega
  · obtain ⟨b, o, h1, h2⟩ := h.later hW
    obtain rfl := h1 hl
    exact r42 b o (dlen x) cap x W hl hx rfl h2

set_option maxHeartbeats 4000000 in
set_option maxRecDepth 200000 in
theorem rfar_1 (na nb : Bool) (ua va : Option Addr) (un uc vn vc : Nat) (ea eb ha hb : Int) (w : World) (hn1 : ((un : Int) == 0) = false) (hn2 : ((vn : Int) == 0) = false)
    (he1 : -4000000 ≤ ea) (he2 : ea ≤ 4000000) (he3 : -4000000 ≤ eb) (he4 : eb ≤ 4000000) (hh1 : -64000000000 ≤ ha) (hh2 : ha ≤ 64000000000) (hh3 : -64000000000 ≤ hb) (hh4 : hb ≤ 64000000000)
    (kA : ∀ W, Below w.heap.size w W → Calls Tryz.prog 51 #[.agg #[.bool na, .slice ua un uc, .int .i64 ea]] W fun r w' => r = .returned (.int .i64 ha) ∧ Below W.heap.size W w')
    (kB : ∀ W, Below w.heap.size w W → Calls Tryz.prog 51 #[.agg #[.bool nb, .slice va vn vc, .int .i64 eb]] W fun r w' => r = .returned (.int .i64 hb) ∧ Below W.heap.size W w') :
    Calls Tryz.prog 69 #[.agg #[.bool na, .slice ua un uc, .int .i64 ea], .agg #[.bool nb, .slice va vn vc, .int .i64 eb]] w fun r w' => r = .returned (.bool (decide (65600 < max ha hb - min ea eb))) ∧ Below w.heap.size w w' := by
  obtain ⟨W, hW⟩ : ∃ W, W = (w.alloc (.cells #[.bool na, .slice ua un uc, .int .i64 ea] 24)).alloc (.cells #[.bool nb, .slice va vn vc, .int .i64 eb] 24) := ⟨_, rfl⟩
  obtain ⟨hA, hBb, hsz, hBW⟩ := two29 _ _ hW
  have HX : Hid (Below w.heap.size w W) := hBW
  have kA' : ∀ w4, Below W.heap.size W w4 → Calls Tryz.prog 51 #[.agg #[.bool na, .slice ua un uc, .int .i64 ea]] w4 fun r w' => r = .returned (.int .i64 ha) ∧ Below W.heap.size W w' := fun w4 h4 => (kA w4 (hBW.trans (h4.mono hBW.size))).mono fun r w' ⟨e1, o2⟩ => ⟨e1, h4.trans (o2.mono h4.size)⟩
  have kB' : ∀ w4, Below W.heap.size W w4 → Calls Tryz.prog 51 #[.agg #[.bool nb, .slice va vn vc, .int .i64 eb]] w4 fun r w' => r = .returned (.int .i64 hb) ∧ Below W.heap.size W w' := fun w4 h4 => (kB w4 (hBW.trans (h4.mono hBW.size))).mono fun r w' ⟨e1, o2⟩ => ⟨e1, h4.trans (o2.mono h4.size)⟩
  obtain ⟨⟨a0, a1, a2⟩, -⟩ := box_cells29 hA
  obtain ⟨⟨b0, b1, b2⟩, -⟩ := box_cells29 hBb
  have HK : Hid (∀ w', Below W.heap.size W w' → ((w'.cell? ⟨w.heap.size, 0, none⟩ = some (.bool na) ∧ w'.cell? ⟨w.heap.size, 1, none⟩ = some (.slice ua un uc) ∧ w'.cell? ⟨w.heap.size, 2, none⟩ = some (.int .i64 ea)) ∧ (w'.cell? ⟨w.heap.size + 1, 0, none⟩ = some (.bool nb) ∧ w'.cell? ⟨w.heap.size + 1, 1, none⟩ = some (.slice va vn vc) ∧ w'.cell? ⟨w.heap.size + 1, 2, none⟩ = some (.int .i64 eb)))) := fun w' hb => ⟨(box_cells29 (box_later hA hb (by omega))).1, (box_cells29 (box_later hBb hb (by omega))).1⟩
  have hBR : Below W.heap.size W W.drew := (Below.refl _ _).drew
  have HZ : Hid (IntKind.i64.wrap (max ha hb - min ea eb) = max ha hb - min ea eb) := (by rw [IntKind.wrap_i64]; omega : IntKind.i64.wrap (max ha hb - min ea eb) = max ha hb - min ea eb)
  clear kA kB hA hBb hsz hBW
  go_enter Tryz.func69, Tryz.ntmps69
  go_upto_region 3 with fail
  rw [← hW]
  clear hW
  go_region_held3 (fun w' => ((w'.cell? ⟨w.heap.size, 0, none⟩ = some (.bool na) ∧ w'.cell? ⟨w.heap.size, 1, none⟩ = some (.slice ua un uc) ∧ w'.cell? ⟨w.heap.size, 2, none⟩ = some (.int .i64 ea)) ∧ (w'.cell? ⟨w.heap.size + 1, 0, none⟩ = some (.bool nb) ∧ w'.cell? ⟨w.heap.size + 1, 1, none⟩ = some (.slice va vn vc) ∧ w'.cell? ⟨w.heap.size + 1, 2, none⟩ = some (.int .i64 eb)))) (first | (with_reducible assumption) | exact ⟨⟨a0, a1, a2⟩, b0, b1, b2⟩ | (refine HK.out _ ?_; with_reducible assumption) | go_keep)
    (first | (go_at_call 51; first | (with_reducible refine (kA' _ (by first | (with_reducible assumption) | exact hBR)).mono ?_; rintro r w5 ⟨rfl, hb5⟩) | (with_reducible refine (kB' _ (by first | (with_reducible assumption) | exact hBR)).mono ?_; rintro r w6 ⟨rfl, hb6⟩)))
  all_goals (have HL5 : Hid (Below W.heap.size W w5) := hb5; have HL6 : Hid (Below W.heap.size W w6) := hb6; clear kA' kB' HK a0 a1 a2 b0 b1 b2 hBR; go_wp2; go_ret; first | exact ⟨by rw [HZ.out]; rfl, HX.out.trans (HL6.out.mono HX.out.size)⟩ | exact ⟨by rw [HZ.out]; rfl, HX.out.trans (HL5.out.mono HX.out.size)⟩)

set_option maxHeartbeats 4000000 in
set_option maxRecDepth 200000 in
theorem rfar_0 (na nb : Bool) (ua va : Option Addr) (un uc vn vc : Nat) (ea eb : Int) (w : World) (h0 : un = 0 ∨ vn = 0) (hn1 : un ≤ 35184372088832) (hn2 : vn ≤ 35184372088832) :
    Calls Tryz.prog 69 #[.agg #[.bool na, .slice ua un uc, .int .i64 ea], .agg #[.bool nb, .slice va vn vc, .int .i64 eb]] w fun r w' => r = .returned (.bool false) ∧ Below w.heap.size w w' := by
  obtain ⟨W, hW⟩ : ∃ W, W = (w.alloc (.cells #[.bool na, .slice ua un uc, .int .i64 ea] 24)).alloc (.cells #[.bool nb, .slice va vn vc, .int .i64 eb] 24) := ⟨_, rfl⟩
  obtain ⟨hA, hBb, hsz, hBW⟩ := two29 _ _ hW
  have HX : Hid (Below w.heap.size w W) := hBW
  obtain ⟨⟨a0, a1, a2⟩, -⟩ := box_cells29 hA
  obtain ⟨⟨b0, b1, b2⟩, -⟩ := box_cells29 hBb
  rw [hW] at a0 a1 a2 b0 b1 b2
  clear hA hBb hsz hBW
  by_cases hu : un = 0
  · subst hu
    clear h0
    go_enter Tryz.func69, Tryz.ntmps69
    go_wp2
    go_ret
    exact ⟨rfl, hW ▸ HX.out⟩
  · obtain rfl : vn = 0 := by omega
    have hu1 : ((un : Int) == 0) = false := by simp; omega
    clear h0 hu
    go_enter Tryz.func69, Tryz.ntmps69
    go_wp2
    go_ret
    exact ⟨rfl, hW ▸ HX.out⟩

/-- far, of numbers that may be -/
theorem rfar {na nb : Bool} {ua va : Option Addr} {uc vc x y : Nat} {ea eb : Int} {w : World} (h1 : At w ua (dlen x) x) (h2 : At w va (dlen y) y) (hx : dlen x ≤ 400000) (hy : dlen y ≤ 400000) (ha : -4000000 ≤ ea ∧ ea ≤ 4000000) (hb : -4000000 ≤ eb ∧ eb ≤ 4000000) :
    Calls Tryz.prog 69 #[.agg #[.bool na, .slice ua (dlen x) uc, .int .i64 ea], .agg #[.bool nb, .slice va (dlen y) vc, .int .i64 eb]] w fun r w' => r = .returned (.bool (decide (x ≠ 0 ∧ y ≠ 0 ∧ 65600 < max (bl x + ea) (bl y + eb) - min ea eb))) ∧ Below w.heap.size w w' := by
  by_cases h0 : x = 0 ∨ y = 0
  · rw [decide_eq_false (by omega)]
    exact rfar_0 na nb ua va _ uc _ vc ea eb w (h0.imp (fun h => by rw [h, dlen_zero]) (fun h => by rw [h, dlen_zero])) (by omega) (by omega)
  · have hx0 : x ≠ 0 := fun e => h0 (.inl e)
    have hy0 : y ≠ 0 := fun e => h0 (.inr e)
    have b1 := bl_le_dlen x
    have b2 := bl_le_dlen y
    have := rfar_1 na nb ua va _ uc _ vc ea eb (bl x + ea) (bl y + eb) w (len_ne (n := 0) hx0) (len_ne (n := 0) hy0) ha.1 ha.2 hb.1 hb.2 (by omega) (by omega) (by omega) (by omega)
      (fun W hW => rhigh (h1.later hW) hx0 (by omega) ha) (fun W hW => rhigh (h2.later hW) hy0 (by omega) hb)
    simpa [hx0, hy0] using this
end Go.Proofs.YtejefbnfmglfeaaGreatDoor

/- The document's Plus. -/
namespace Go.Proofs.YtejefbnfmglfeaaGreatDoor
set_option linter.unusedVariables false
set_option linter.unusedSimpArgs false
open Go.RowKit

set_option maxHeartbeats 4000000 in
set_option maxRecDepth 200000 in
theorem rplus_c (na nb : Bool) (ua va : Option Addr) (un uc vn vc X Y : Nat) (ea eb : Int) (w : World) (hne : (na == nb) = true) (hX : dlen (X + Y) ≤ 1000000) (hX1 : dlen X ≤ 1000000) (hX2 : dlen Y ≤ 1000000) (he1 : -4000000 ≤ ea) (he2 : ea ≤ 4000000) (he3 : -4000000 ≤ eb) (he4 : eb ≤ 4000000) (hn0 : ((un : Int) == 0) = false) (hn1 : ((vn : Int) == 0) = false)
    (ku : ∀ W i, Below w.heap.size w W → i = ea - min ea eb → Calls Tryz.prog 104 #[.slice ua un uc, .int .i64 i] W fun r w' => ∃ v, r = .returned v ∧ Ir w' v X ∧ Below W.heap.size W w')
    (kv : ∀ W i, Below w.heap.size w W → i = eb - min ea eb → Calls Tryz.prog 104 #[.slice va vn vc, .int .i64 i] W fun r w' => ∃ v, r = .returned v ∧ Ir w' v Y ∧ Below W.heap.size W w') :
    Calls Tryz.prog 71 #[.agg #[.bool na, .slice ua un uc, .int .i64 ea], .agg #[.bool nb, .slice va vn vc, .int .i64 eb]] w fun r w' => ∃ a, r = .returned a ∧ Nr w' w.heap.size a na (X + Y) (min ea eb) ∧ Below w.heap.size w w' := by
  obtain ⟨W, hW⟩ : ∃ W, W = ((w.alloc (.cells #[.bool na, .slice ua un uc, .int .i64 ea] 24)).alloc (.cells #[.bool nb, .slice va vn vc, .int .i64 eb] 24)).alloc (.cells #[.bool false, .slice none 0 0, .int .i64 0] 24) := ⟨_, rfl⟩
  obtain ⟨hA, hBb, hC, hsz, hBW⟩ := boxes3 _ _ _ hW
  have k1 := fun i hi => ku W i hBW hi
  have HKV : Hid (∀ W i, Below w.heap.size w W → i = eb - min ea eb → Calls Tryz.prog 104 #[.slice va vn vc, .int .i64 i] W fun r w' => ∃ v, r = .returned v ∧ Ir w' v Y ∧ Below W.heap.size W w') := kv
  have HH : Hid ((W.heap[w.heap.size]? = some (.cells #[.bool na, .slice ua un uc, .int .i64 ea] 24 (0, 0)) ∧ W.heap[w.heap.size + 1]? = some (.cells #[.bool nb, .slice va vn vc, .int .i64 eb] 24 (0, 0)) ∧ W.heap[w.heap.size + 1 + 1]? = some (.cells #[.bool false, .slice none 0 0, .int .i64 0] 24 (0, 0))) ∧ W.heap.size = w.heap.size + 1 + 1 + 1 ∧ Below w.heap.size w W) := ⟨⟨hA, hBb, hC⟩, hsz, hBW⟩
  clear hA hBb hC hsz hBW ku kv
  go_enter Tryz.func71, Tryz.ntmps71
  go_wp2_with fail
  rw [← hW]
  clear hW
  refine (k1 _ (by first | rfl | (rw [IntKind.wrap_i64]; omega) | omega)).mono ?_
  rintro r w4 ⟨p, rfl, hp, hB4⟩
  clear k1
  obtain ⟨⟨a0, a1, a2⟩, -⟩ := box_cells29 (box_later HH.out.1.1 hB4 (by have := HH.out.2.1; omega))
  obtain ⟨⟨b0, b1, b2⟩, -⟩ := box_cells29 (box_later HH.out.1.2.1 hB4 (by have := HH.out.2.1; omega))
  have HB4 : Hid (Below W.heap.size W w4) := hB4
  have HP4 : Hid (Ir w4 p X) := hp
  clear hB4 hp
  go_wp2_with fail
  refine (HKV.out w4 _ (HH.out.2.2.trans (HB4.out.mono HH.out.2.2.size)) (by first | rfl | (rw [IntKind.wrap_i64]; omega) | omega)).mono ?_
  rintro r w5 ⟨q, rfl, hq, hB5⟩
  have hB5' : Below W.heap.size W w5 := HB4.out.trans (hB5.mono HB4.out.size)
  have hp := HP4.out.later hB5
  clear a0 a1 a2 b0 b1 b2 hB5
  obtain ⟨⟨h1, h2, h3⟩, hs, hBW⟩ := HH.out
  obtain ⟨⟨a0, a1, a2⟩, -⟩ := box_cells29 (box_later h1 hB5' (by omega))
  obtain ⟨⟨b0, b1, b2⟩, -⟩ := box_cells29 (box_later h2 hB5' (by omega))
  have HC5 : Hid (w5.heap[w.heap.size + 1 + 1]? = some (.cells #[.bool false, .slice none 0 0, .int .i64 0] 24 (0, 0)) ∧ Below W.heap.size W w5) := ⟨box_later h3 hB5' (by omega), hB5'⟩
  have hp6 := hp
  have hq6 := hq
  have kS : ∀ W6, Below w5.heap.size w5 W6 → Calls Tryz.prog 106 #[p, q] W6 fun r w' => ∃ v, r = .returned v ∧ Ir w' v (X + Y) ∧ Below w5.heap.size w5 w' := fun W6 hb =>
    (rsum (w := W6) (hp6.later hb) (hq6.later hb) (by omega) (by omega)).mono fun r w' ⟨v, e1, o1, o2⟩ => ⟨v, e1, o1, hb.trans (o2.mono hb.size)⟩
  have hKeep : ∀ w', Below w5.heap.size w5 w' → w'.cell? ⟨w.heap.size, 0, none⟩ = some (.bool na) := fun w' hb => (hb.cell (World.block_lt_of_cell? _ _ a0)).trans a0
  have HK : Hid (∀ w', Below w5.heap.size w5 w' → w'.cell? ⟨w.heap.size, 0, none⟩ = some (.bool na)) := hKeep
  have HR5 : Hid (∀ dd, Below w5.heap.size w5 (w5.drewN dd).drew) := (fun dd => ⟨rfl, rfl, rfl, Nat.le_refl _, fun _ _ => rfl⟩ : ∀ dd, Below w5.heap.size w5 (w5.drewN dd).drew)
  have hR5 : Below w5.heap.size w5 w5.drew := (Below.refl _ _).drew
  have k56 : ∀ v7 w7, Ir w7 v7 (X + Y) → Below w5.heap.size w5 w7 → Calls Tryz.prog 105 #[.bool na, v7, .int .i64 (min ea eb)] w7 fun r w' => ∃ s ao n cap ex, r = .returned (.agg #[.bool s, .slice ao n cap, .int .i64 ex]) ∧
      Hid (Nr w' w7.heap.size (.agg #[.bool s, .slice ao n cap, .int .i64 ex]) na (X + Y) (min ea eb) ∧ w5.heap.size ≤ w7.heap.size) ∧ Below w5.heap.size w5 w' ∧ Hid (w'.heap[w.heap.size + 1 + 1]? = some (.cells #[.bool false, .slice none 0 0, .int .i64 0] 24 (0, 0))) ∧
      (w'.cell? ⟨w.heap.size + 1 + 1, 0, none⟩ = some (.bool false) ∧ w'.cell? ⟨w.heap.size + 1 + 1, 1, none⟩ = some (.slice none 0 0) ∧ w'.cell? ⟨w.heap.size + 1 + 1, 2, none⟩ = some (.int .i64 0)) ∧ (w'.frozen? ⟨w.heap.size + 1 + 1, 0, none⟩ = false ∧ w'.frozen? ⟨w.heap.size + 1 + 1, 1, none⟩ = false ∧ w'.frozen? ⟨w.heap.size + 1 + 1, 2, none⟩ = false) := by
    intro v7 w7 ho hb
    obtain ⟨ao0, cap0, rfl, hl0, hat0⟩ := ho
    refine (r34 hat0 (Nat.le_refl _) hl0 (by omega) (by omega)).mono ?_
    rintro r w8 ⟨a, rfl, hN, hb8⟩
    obtain ⟨s, ao, n, cap, ex, rfl⟩ := hN.shape
    have hb58 : Below w5.heap.size w5 w8 := hb.trans (hb8.mono hb.size)
    have hblk := box_later HC5.out.1 hb58 (by have := HC5.out.2.size; omega)
    obtain ⟨f1, f2⟩ := box_cells29 hblk
    exact ⟨s, ao, n, cap, ex, rfl, ⟨hN, hb.size⟩, hb58, hblk, f1, f2⟩
  clear h1 h2 h3 hp hq hp6 hq6 hB5' hs hBW hKeep hX hX1 hX2 HR5
  go_wp2
  go_region_held3 (fun w' => w'.cell? ⟨w.heap.size, 0, none⟩ = some (.bool na)) (first | (with_reducible assumption) | (refine HK.out _ ?_; with_reducible assumption) | (rw [World.cell?_setCell_other _ _ _ _ (by simp), World.cell?_setCell_other _ _ _ _ (by simp), World.cell?_setCell_other _ _ _ _ (by simp)]; refine HK.out _ ?_; with_reducible assumption) | go_keep)
    (first | (go_at_call 106; refine (kS _ (by first | (with_reducible assumption) | exact hR5)).mono ?_; rintro r w7 ⟨v7, rfl, ho7, hb7⟩) | (go_at_call 105; refine (k56 _ _ ho7 hb7).mono ?_; rintro r w8 ⟨s8, ao8, n8, cap8, ex8, rfl, hN8, hb8, hblk8, ⟨x1, x2, x3⟩, x4, x5, x6⟩))
  have HF : Hid (Below w5.heap.size w5 w8) := hb8
  clear ho7 hb7 hb8 k56 kS x1 x2 x3 x4 x5 x6 a0 a1 a2 b0 b1 b2 HK
  go_wp2
  refine bodyPost_ret (results_cell_row rfl _ _ (w.heap.size + 1 + 1) 24 #[.bool s8, .slice ao8 n8 cap8, .int .i64 ex8] (0, 0) _ rfl (store3_29 _ _ _ hblk8.out) Tryz.underlying24 rfl Tryz.info24) rfl ?_
  obtain ⟨-, hs, hBW⟩ := HH.out
  have hs4 := HC5.out.2.size
  have hs5 := hN8.out.2
  exact ⟨_, rfl, (hN8.out.1.store (by omega) _ _ _).mono (by omega), below_store3 (hBW.trans ((HC5.out.2.trans (HF.out.mono hs4)).mono hBW.size)) (by omega) _ _ _⟩
set_option maxHeartbeats 4000000 in
set_option maxRecDepth 200000 in
theorem rplus_d (na nb : Bool) (ua va : Option Addr) (un uc vn vc X Y : Nat) (ea eb : Int) (w : World) (hlt : X < Y) (hne : (na == nb) = false) (hX : dlen (Y - X) ≤ 1000000) (hX1 : dlen X ≤ 1000000) (hX2 : dlen Y ≤ 1000000) (he1 : -4000000 ≤ ea) (he2 : ea ≤ 4000000) (he3 : -4000000 ≤ eb) (he4 : eb ≤ 4000000) (hn0 : ((un : Int) == 0) = false) (hn1 : ((vn : Int) == 0) = false)
    (ku : ∀ W i, Below w.heap.size w W → i = ea - min ea eb → Calls Tryz.prog 104 #[.slice ua un uc, .int .i64 i] W fun r w' => ∃ v, r = .returned v ∧ Ir w' v X ∧ Below W.heap.size W w')
    (kv : ∀ W i, Below w.heap.size w W → i = eb - min ea eb → Calls Tryz.prog 104 #[.slice va vn vc, .int .i64 i] W fun r w' => ∃ v, r = .returned v ∧ Ir w' v Y ∧ Below W.heap.size W w') :
    Calls Tryz.prog 71 #[.agg #[.bool na, .slice ua un uc, .int .i64 ea], .agg #[.bool nb, .slice va vn vc, .int .i64 eb]] w fun r w' => ∃ a, r = .returned a ∧ Nr w' w.heap.size a nb (Y - X) (min ea eb) ∧ Below w.heap.size w w' := by
  obtain ⟨W, hW⟩ : ∃ W, W = ((w.alloc (.cells #[.bool na, .slice ua un uc, .int .i64 ea] 24)).alloc (.cells #[.bool nb, .slice va vn vc, .int .i64 eb] 24)).alloc (.cells #[.bool false, .slice none 0 0, .int .i64 0] 24) := ⟨_, rfl⟩
  obtain ⟨hA, hBb, hC, hsz, hBW⟩ := boxes3 _ _ _ hW
  have k1 := fun i hi => ku W i hBW hi
  have HKV : Hid (∀ W i, Below w.heap.size w W → i = eb - min ea eb → Calls Tryz.prog 104 #[.slice va vn vc, .int .i64 i] W fun r w' => ∃ v, r = .returned v ∧ Ir w' v Y ∧ Below W.heap.size W w') := kv
  have HH : Hid ((W.heap[w.heap.size]? = some (.cells #[.bool na, .slice ua un uc, .int .i64 ea] 24 (0, 0)) ∧ W.heap[w.heap.size + 1]? = some (.cells #[.bool nb, .slice va vn vc, .int .i64 eb] 24 (0, 0)) ∧ W.heap[w.heap.size + 1 + 1]? = some (.cells #[.bool false, .slice none 0 0, .int .i64 0] 24 (0, 0))) ∧ W.heap.size = w.heap.size + 1 + 1 + 1 ∧ Below w.heap.size w W) := ⟨⟨hA, hBb, hC⟩, hsz, hBW⟩
  clear hA hBb hC hsz hBW ku kv
  go_enter Tryz.func71, Tryz.ntmps71
  go_wp2_with fail
  rw [← hW]
  clear hW
  refine (k1 _ (by first | rfl | (rw [IntKind.wrap_i64]; omega) | omega)).mono ?_
  rintro r w4 ⟨p, rfl, hp, hB4⟩
  clear k1
  obtain ⟨⟨a0, a1, a2⟩, -⟩ := box_cells29 (box_later HH.out.1.1 hB4 (by have := HH.out.2.1; omega))
  obtain ⟨⟨b0, b1, b2⟩, -⟩ := box_cells29 (box_later HH.out.1.2.1 hB4 (by have := HH.out.2.1; omega))
  have HB4 : Hid (Below W.heap.size W w4) := hB4
  have HP4 : Hid (Ir w4 p X) := hp
  clear hB4 hp
  go_wp2_with fail
  refine (HKV.out w4 _ (HH.out.2.2.trans (HB4.out.mono HH.out.2.2.size)) (by first | rfl | (rw [IntKind.wrap_i64]; omega) | omega)).mono ?_
  rintro r w5 ⟨q, rfl, hq, hB5⟩
  have hB5' : Below W.heap.size W w5 := HB4.out.trans (hB5.mono HB4.out.size)
  have hp := HP4.out.later hB5
  clear a0 a1 a2 b0 b1 b2 hB5
  obtain ⟨⟨h1, h2, h3⟩, hs, hBW⟩ := HH.out
  obtain ⟨⟨a0, a1, a2⟩, -⟩ := box_cells29 (box_later h1 hB5' (by omega))
  obtain ⟨⟨b0, b1, b2⟩, -⟩ := box_cells29 (box_later h2 hB5' (by omega))
  have HC5 : Hid (w5.heap[w.heap.size + 1 + 1]? = some (.cells #[.bool false, .slice none 0 0, .int .i64 0] 24 (0, 0)) ∧ Below W.heap.size W w5) := ⟨box_later h3 hB5' (by omega), hB5'⟩
  have hp6 := hp
  have hq6 := hq
  have kS : ∀ W6, Below w5.heap.size w5 W6 → Calls Tryz.prog 108 #[q, p] W6 fun r w' => ∃ v, r = .returned v ∧ Ir w' v (Y - X) ∧ Below w5.heap.size w5 w' := fun W6 hb =>
    (rless (w := W6) (hq6.later hb) (hp6.later hb) (by omega) (by omega)).mono fun r w' ⟨v, e1, o1, o2⟩ => ⟨v, e1, o1, hb.trans (o2.mono hb.size)⟩
  have hKeep : ∀ w', Below w5.heap.size w5 w' → w'.cell? ⟨w.heap.size + 1, 0, none⟩ = some (.bool nb) := fun w' hb => (hb.cell (World.block_lt_of_cell? _ _ b0)).trans b0
  have HK : Hid (∀ w', Below w5.heap.size w5 w' → w'.cell? ⟨w.heap.size + 1, 0, none⟩ = some (.bool nb)) := hKeep
  have HR5 : Hid (∀ dd, Below w5.heap.size w5 (w5.drewN dd).drew) := (fun dd => ⟨rfl, rfl, rfl, Nat.le_refl _, fun _ _ => rfl⟩ : ∀ dd, Below w5.heap.size w5 (w5.drewN dd).drew)
  have hR5 : Below w5.heap.size w5 w5.drew := (Below.refl _ _).drew
  have k56 : ∀ v7 w7, Ir w7 v7 (Y - X) → Below w5.heap.size w5 w7 → Calls Tryz.prog 105 #[.bool nb, v7, .int .i64 (min ea eb)] w7 fun r w' => ∃ s ao n cap ex, r = .returned (.agg #[.bool s, .slice ao n cap, .int .i64 ex]) ∧
      Hid (Nr w' w7.heap.size (.agg #[.bool s, .slice ao n cap, .int .i64 ex]) nb (Y - X) (min ea eb) ∧ w5.heap.size ≤ w7.heap.size) ∧ Below w5.heap.size w5 w' ∧ Hid (w'.heap[w.heap.size + 1 + 1]? = some (.cells #[.bool false, .slice none 0 0, .int .i64 0] 24 (0, 0))) ∧
      (w'.cell? ⟨w.heap.size + 1 + 1, 0, none⟩ = some (.bool false) ∧ w'.cell? ⟨w.heap.size + 1 + 1, 1, none⟩ = some (.slice none 0 0) ∧ w'.cell? ⟨w.heap.size + 1 + 1, 2, none⟩ = some (.int .i64 0)) ∧ (w'.frozen? ⟨w.heap.size + 1 + 1, 0, none⟩ = false ∧ w'.frozen? ⟨w.heap.size + 1 + 1, 1, none⟩ = false ∧ w'.frozen? ⟨w.heap.size + 1 + 1, 2, none⟩ = false) := by
    intro v7 w7 ho hb
    obtain ⟨ao0, cap0, rfl, hl0, hat0⟩ := ho
    refine (r34 hat0 (Nat.le_refl _) hl0 (by omega) (by omega)).mono ?_
    rintro r w8 ⟨a, rfl, hN, hb8⟩
    obtain ⟨s, ao, n, cap, ex, rfl⟩ := hN.shape
    have hb58 : Below w5.heap.size w5 w8 := hb.trans (hb8.mono hb.size)
    have hblk := box_later HC5.out.1 hb58 (by have := HC5.out.2.size; omega)
    obtain ⟨f1, f2⟩ := box_cells29 hblk
    exact ⟨s, ao, n, cap, ex, rfl, ⟨hN, hb.size⟩, hb58, hblk, f1, f2⟩
  have k129 := rord hp hq (by omega) (by omega)
  have hcm : cmpI (X : Int) (Y : Int) < 0 := by unfold cmpI; rw [if_pos (by omega)]; omega
  generalize cmpI (X : Int) (Y : Int) = cv at *
  clear h1 h2 h3 hp hq hp6 hq6 hB5' hs hBW hKeep hX hX1 hX2 hlt
  go_wp2_with fail
  refine k129.mono ?_
  rintro r w7 ⟨rfl, dd, rfl⟩
  have hR5 := HR5.out dd
  clear k129
  have z0 : (w5.drewN dd).cell? ⟨w.heap.size + 1, 0, none⟩ = some (.bool nb) := b0
  go_wp2
  go_region_held3 (fun w' => w'.cell? ⟨w.heap.size + 1, 0, none⟩ = some (.bool nb)) (first | (with_reducible assumption) | (refine HK.out _ ?_; with_reducible assumption) | (rw [World.cell?_setCell_other _ _ _ _ (by simp), World.cell?_setCell_other _ _ _ _ (by simp), World.cell?_setCell_other _ _ _ _ (by simp)]; refine HK.out _ ?_; with_reducible assumption) | go_keep)
    (first | (go_at_call 108; refine (kS _ (by first | (with_reducible assumption) | exact hR5)).mono ?_; rintro r w7 ⟨v7, rfl, ho7, hb7⟩) | (go_at_call 105; refine (k56 _ _ ho7 hb7).mono ?_; rintro r w8 ⟨s8, ao8, n8, cap8, ex8, rfl, hN8, hb8, hblk8, ⟨x1, x2, x3⟩, x4, x5, x6⟩))
  have HF : Hid (Below w5.heap.size w5 w8) := hb8
  clear ho7 hb7 hb8 k56 kS x1 x2 x3 x4 x5 x6 a0 a1 a2 b0 b1 b2 HK
  go_wp2
  refine bodyPost_ret (results_cell_row rfl _ _ (w.heap.size + 1 + 1) 24 #[.bool s8, .slice ao8 n8 cap8, .int .i64 ex8] (0, 0) _ rfl (store3_29 _ _ _ hblk8.out) Tryz.underlying24 rfl Tryz.info24) rfl ?_
  obtain ⟨-, hs, hBW⟩ := HH.out
  have hs4 := HC5.out.2.size
  have hs5 := hN8.out.2
  exact ⟨_, rfl, (hN8.out.1.store (by omega) _ _ _).mono (by omega), below_store3 (hBW.trans ((HC5.out.2.trans (HF.out.mono hs4)).mono hBW.size)) (by omega) _ _ _⟩
set_option maxHeartbeats 4000000 in
set_option maxRecDepth 200000 in
theorem rplus_e (na nb : Bool) (ua va : Option Addr) (un uc vn vc X Y : Nat) (ea eb : Int) (w : World) (hlt : Y ≤ X) (hne : (na == nb) = false) (hX : dlen (X - Y) ≤ 1000000) (hX1 : dlen X ≤ 1000000) (hX2 : dlen Y ≤ 1000000) (he1 : -4000000 ≤ ea) (he2 : ea ≤ 4000000) (he3 : -4000000 ≤ eb) (he4 : eb ≤ 4000000) (hn0 : ((un : Int) == 0) = false) (hn1 : ((vn : Int) == 0) = false)
    (ku : ∀ W i, Below w.heap.size w W → i = ea - min ea eb → Calls Tryz.prog 104 #[.slice ua un uc, .int .i64 i] W fun r w' => ∃ v, r = .returned v ∧ Ir w' v X ∧ Below W.heap.size W w')
    (kv : ∀ W i, Below w.heap.size w W → i = eb - min ea eb → Calls Tryz.prog 104 #[.slice va vn vc, .int .i64 i] W fun r w' => ∃ v, r = .returned v ∧ Ir w' v Y ∧ Below W.heap.size W w') :
    Calls Tryz.prog 71 #[.agg #[.bool na, .slice ua un uc, .int .i64 ea], .agg #[.bool nb, .slice va vn vc, .int .i64 eb]] w fun r w' => ∃ a, r = .returned a ∧ Nr w' w.heap.size a na (X - Y) (min ea eb) ∧ Below w.heap.size w w' := by
  obtain ⟨W, hW⟩ : ∃ W, W = ((w.alloc (.cells #[.bool na, .slice ua un uc, .int .i64 ea] 24)).alloc (.cells #[.bool nb, .slice va vn vc, .int .i64 eb] 24)).alloc (.cells #[.bool false, .slice none 0 0, .int .i64 0] 24) := ⟨_, rfl⟩
  obtain ⟨hA, hBb, hC, hsz, hBW⟩ := boxes3 _ _ _ hW
  have k1 := fun i hi => ku W i hBW hi
  have HKV : Hid (∀ W i, Below w.heap.size w W → i = eb - min ea eb → Calls Tryz.prog 104 #[.slice va vn vc, .int .i64 i] W fun r w' => ∃ v, r = .returned v ∧ Ir w' v Y ∧ Below W.heap.size W w') := kv
  have HH : Hid ((W.heap[w.heap.size]? = some (.cells #[.bool na, .slice ua un uc, .int .i64 ea] 24 (0, 0)) ∧ W.heap[w.heap.size + 1]? = some (.cells #[.bool nb, .slice va vn vc, .int .i64 eb] 24 (0, 0)) ∧ W.heap[w.heap.size + 1 + 1]? = some (.cells #[.bool false, .slice none 0 0, .int .i64 0] 24 (0, 0))) ∧ W.heap.size = w.heap.size + 1 + 1 + 1 ∧ Below w.heap.size w W) := ⟨⟨hA, hBb, hC⟩, hsz, hBW⟩
  clear hA hBb hC hsz hBW ku kv
  go_enter Tryz.func71, Tryz.ntmps71
  go_wp2_with fail
  rw [← hW]
  clear hW
  refine (k1 _ (by first | rfl | (rw [IntKind.wrap_i64]; omega) | omega)).mono ?_
  rintro r w4 ⟨p, rfl, hp, hB4⟩
  clear k1
  obtain ⟨⟨a0, a1, a2⟩, -⟩ := box_cells29 (box_later HH.out.1.1 hB4 (by have := HH.out.2.1; omega))
  obtain ⟨⟨b0, b1, b2⟩, -⟩ := box_cells29 (box_later HH.out.1.2.1 hB4 (by have := HH.out.2.1; omega))
  have HB4 : Hid (Below W.heap.size W w4) := hB4
  have HP4 : Hid (Ir w4 p X) := hp
  clear hB4 hp
  go_wp2_with fail
  refine (HKV.out w4 _ (HH.out.2.2.trans (HB4.out.mono HH.out.2.2.size)) (by first | rfl | (rw [IntKind.wrap_i64]; omega) | omega)).mono ?_
  rintro r w5 ⟨q, rfl, hq, hB5⟩
  have hB5' : Below W.heap.size W w5 := HB4.out.trans (hB5.mono HB4.out.size)
  have hp := HP4.out.later hB5
  clear a0 a1 a2 b0 b1 b2 hB5
  obtain ⟨⟨h1, h2, h3⟩, hs, hBW⟩ := HH.out
  obtain ⟨⟨a0, a1, a2⟩, -⟩ := box_cells29 (box_later h1 hB5' (by omega))
  obtain ⟨⟨b0, b1, b2⟩, -⟩ := box_cells29 (box_later h2 hB5' (by omega))
  have HC5 : Hid (w5.heap[w.heap.size + 1 + 1]? = some (.cells #[.bool false, .slice none 0 0, .int .i64 0] 24 (0, 0)) ∧ Below W.heap.size W w5) := ⟨box_later h3 hB5' (by omega), hB5'⟩
  have hp6 := hp
  have hq6 := hq
  have kS : ∀ W6, Below w5.heap.size w5 W6 → Calls Tryz.prog 108 #[p, q] W6 fun r w' => ∃ v, r = .returned v ∧ Ir w' v (X - Y) ∧ Below w5.heap.size w5 w' := fun W6 hb =>
    (rless (w := W6) (hp6.later hb) (hq6.later hb) (by omega) (by omega)).mono fun r w' ⟨v, e1, o1, o2⟩ => ⟨v, e1, o1, hb.trans (o2.mono hb.size)⟩
  have hKeep : ∀ w', Below w5.heap.size w5 w' → w'.cell? ⟨w.heap.size, 0, none⟩ = some (.bool na) := fun w' hb => (hb.cell (World.block_lt_of_cell? _ _ a0)).trans a0
  have HK : Hid (∀ w', Below w5.heap.size w5 w' → w'.cell? ⟨w.heap.size, 0, none⟩ = some (.bool na)) := hKeep
  have HR5 : Hid (∀ dd, Below w5.heap.size w5 (w5.drewN dd).drew) := (fun dd => ⟨rfl, rfl, rfl, Nat.le_refl _, fun _ _ => rfl⟩ : ∀ dd, Below w5.heap.size w5 (w5.drewN dd).drew)
  have hR5 : Below w5.heap.size w5 w5.drew := (Below.refl _ _).drew
  have k56 : ∀ v7 w7, Ir w7 v7 (X - Y) → Below w5.heap.size w5 w7 → Calls Tryz.prog 105 #[.bool na, v7, .int .i64 (min ea eb)] w7 fun r w' => ∃ s ao n cap ex, r = .returned (.agg #[.bool s, .slice ao n cap, .int .i64 ex]) ∧
      Hid (Nr w' w7.heap.size (.agg #[.bool s, .slice ao n cap, .int .i64 ex]) na (X - Y) (min ea eb) ∧ w5.heap.size ≤ w7.heap.size) ∧ Below w5.heap.size w5 w' ∧ Hid (w'.heap[w.heap.size + 1 + 1]? = some (.cells #[.bool false, .slice none 0 0, .int .i64 0] 24 (0, 0))) ∧
      (w'.cell? ⟨w.heap.size + 1 + 1, 0, none⟩ = some (.bool false) ∧ w'.cell? ⟨w.heap.size + 1 + 1, 1, none⟩ = some (.slice none 0 0) ∧ w'.cell? ⟨w.heap.size + 1 + 1, 2, none⟩ = some (.int .i64 0)) ∧ (w'.frozen? ⟨w.heap.size + 1 + 1, 0, none⟩ = false ∧ w'.frozen? ⟨w.heap.size + 1 + 1, 1, none⟩ = false ∧ w'.frozen? ⟨w.heap.size + 1 + 1, 2, none⟩ = false) := by
    intro v7 w7 ho hb
    obtain ⟨ao0, cap0, rfl, hl0, hat0⟩ := ho
    refine (r34 hat0 (Nat.le_refl _) hl0 (by omega) (by omega)).mono ?_
    rintro r w8 ⟨a, rfl, hN, hb8⟩
    obtain ⟨s, ao, n, cap, ex, rfl⟩ := hN.shape
    have hb58 : Below w5.heap.size w5 w8 := hb.trans (hb8.mono hb.size)
    have hblk := box_later HC5.out.1 hb58 (by have := HC5.out.2.size; omega)
    obtain ⟨f1, f2⟩ := box_cells29 hblk
    exact ⟨s, ao, n, cap, ex, rfl, ⟨hN, hb.size⟩, hb58, hblk, f1, f2⟩
  have k129 := rord hp hq (by omega) (by omega)
  have hcm : ¬ cmpI (X : Int) (Y : Int) < 0 := by unfold cmpI; rw [if_neg (by omega)]; split <;> omega
  generalize cmpI (X : Int) (Y : Int) = cv at *
  clear h1 h2 h3 hp hq hp6 hq6 hB5' hs hBW hKeep hX hX1 hX2 hlt
  go_wp2_with fail
  refine k129.mono ?_
  rintro r w7 ⟨rfl, dd, rfl⟩
  have hR5 := HR5.out dd
  clear k129
  have z0 : (w5.drewN dd).cell? ⟨w.heap.size, 0, none⟩ = some (.bool na) := a0
  go_wp2
  go_region_held3 (fun w' => w'.cell? ⟨w.heap.size, 0, none⟩ = some (.bool na)) (first | (with_reducible assumption) | (refine HK.out _ ?_; with_reducible assumption) | (rw [World.cell?_setCell_other _ _ _ _ (by simp), World.cell?_setCell_other _ _ _ _ (by simp), World.cell?_setCell_other _ _ _ _ (by simp)]; refine HK.out _ ?_; with_reducible assumption) | go_keep)
    (first | (go_at_call 108; refine (kS _ (by first | (with_reducible assumption) | exact hR5)).mono ?_; rintro r w7 ⟨v7, rfl, ho7, hb7⟩) | (go_at_call 105; refine (k56 _ _ ho7 hb7).mono ?_; rintro r w8 ⟨s8, ao8, n8, cap8, ex8, rfl, hN8, hb8, hblk8, ⟨x1, x2, x3⟩, x4, x5, x6⟩))
  have HF : Hid (Below w5.heap.size w5 w8) := hb8
  clear ho7 hb7 hb8 k56 kS x1 x2 x3 x4 x5 x6 a0 a1 a2 b0 b1 b2 HK
  go_wp2
  refine bodyPost_ret (results_cell_row rfl _ _ (w.heap.size + 1 + 1) 24 #[.bool s8, .slice ao8 n8 cap8, .int .i64 ex8] (0, 0) _ rfl (store3_29 _ _ _ hblk8.out) Tryz.underlying24 rfl Tryz.info24) rfl ?_
  obtain ⟨-, hs, hBW⟩ := HH.out
  have hs4 := HC5.out.2.size
  have hs5 := hN8.out.2
  exact ⟨_, rfl, (hN8.out.1.store (by omega) _ _ _).mono (by omega), below_store3 (hBW.trans ((HC5.out.2.trans (HF.out.mono hs4)).mono hBW.size)) (by omega) _ _ _⟩
end Go.Proofs.YtejefbnfmglfeaaGreatDoor

/- Add and Up, refused. -/
namespace Go.Proofs.YtejefbnfmglfeaaGreatDoor
set_option linter.unusedVariables false
set_option linter.unusedSimpArgs false
open Go.RowKit

set_option maxRecDepth 200000 in
theorem c34_2 (na nb : Bool) (ua va : Option Addr) (un uc vn vc : Nat) (ea eb : Int) (w : World)
    (k67 : ∀ W g, Below w.heap.size w W → W.heap[g]? = some (.cells #[.bool na, .slice ua un uc, .int .i64 ea, .bool nb, .slice va vn vc, .int .i64 eb] 25 (0, 0)) → Calls Tryz.prog 42 #[.slice (some ⟨g, 0, none⟩) 2 2] W fun r w' => r = .returned (.bool false) ∧ Below W.heap.size W w') :
    Calls Tryz.prog 28 #[NumV na (.slice ua un uc) ea, NumV nb (.slice va vn vc) eb] w fun r w' => r = .returned (.tuple #[Nil, .int .i64 1]) ∧ Below w.heap.size w w' := by
  obtain ⟨W, hW⟩ : ∃ W, W = ((w.alloc (.cells #[.bool na, .slice ua un uc, .int .i64 ea] 25)).alloc (.cells #[.bool nb, .slice va vn vc, .int .i64 eb] 25)).alloc (.cells #[.bool false, .slice none 0 0, .int .i64 0] 25) := ⟨_, rfl⟩
  obtain ⟨hA, hBb, hC, hsz, hBW⟩ := boxes3 _ _ _ hW
  have hB4 : Below w.heap.size w (W.alloc (.cells #[.bool na, .slice ua un uc, .int .i64 ea, .bool nb, .slice va vn vc, .int .i64 eb] 25)) := hBW.alloc hBW.size _
  have k1 := k67 (W.alloc (.cells #[.bool na, .slice ua un uc, .int .i64 ea, .bool nb, .slice va vn vc, .int .i64 eb] 25)) (w.heap.size + 1 + 1 + 1) hB4 (by rw [← hsz]; exact heap_alloc_new _ _)
  have HH : Hid (W.heap[w.heap.size + 1 + 1]? = some (.cells #[.bool false, .slice none 0 0, .int .i64 0] 25 (0, 0)) ∧ W.heap.size = w.heap.size + 1 + 1 + 1 ∧ Below w.heap.size w W ∧ Below W.heap.size W (W.alloc (.cells #[.bool na, .slice ua un uc, .int .i64 ea, .bool nb, .slice va vn vc, .int .i64 eb] 25))) := ⟨hC, hsz, hBW, (Below.refl _ _).alloc (Nat.le_refl _) _⟩
  unfold NumV
  clear hA hBb hC hsz hBW hB4 k67
  go_enter Tryz.func28, Tryz.ntmps28
  go_wp2_with fail
  rw [← hW]
  clear hW
  refine k1.mono ?_
  rintro r w1 ⟨rfl, hB1⟩
  clear k1
  have hBW1 : Below W.heap.size W w1 := HH.out.2.2.2.trans (hB1.mono HH.out.2.2.2.size)
  have HC3 : Hid (w1.heap[w.heap.size + 1 + 1]? = some (.cells #[.bool false, .slice none 0 0, .int .i64 0] 25 (0, 0))) := box_later HH.out.1 hBW1 (by have := HH.out.2.1; omega)
  have HB1 : Hid (Below W.heap.size W w1) := hBW1
  obtain ⟨⟨x1, x2, x3⟩, x4, x5, x6⟩ := box_cells HC3.out
  clear hB1 hBW1
  go_wp2
  refine bodyPost_ret (results_cell_tmp_row rfl _ _ (w.heap.size + 1 + 1) 25 #[.bool false, .slice none 0 0, .int .i64 0] (0, 0) _ rfl (store3 _ _ _ HC3.out) Tryz.underlying25 rfl Tryz.info25) rfl ?_
  obtain ⟨b1, b2, b3, b4⟩ := HH.out
  exact ⟨rfl, below_store3 (b3.trans (HB1.out.mono b3.size)) (by omega) _ _ _⟩
end Go.Proofs.YtejefbnfmglfeaaGreatDoor

/- The document's Plus joined, Add. -/
namespace Go.Proofs.YtejefbnfmglfeaaGreatDoor
set_option linter.unusedVariables false
set_option linter.unusedSimpArgs false
open Go.RowKit

set_option maxHeartbeats 4000000 in
set_option maxRecDepth 200000 in
theorem rplus_a (na nb : Bool) (ua va : Option Addr) (uc vn vc : Nat) (ea eb : Int) (w : World) (z : Nat) (hAr : Arg w va vn vc z) :
    Calls Tryz.prog 71 #[.agg #[.bool na, .slice ua 0 uc, .int .i64 ea], .agg #[.bool nb, .slice va vn vc, .int .i64 eb]] w fun r w' => ∃ ao' cap', r = .returned (.agg #[.bool nb, .slice ao' vn cap', .int .i64 eb]) ∧ Dn w' w.heap.size (.slice ao' vn cap') vn z ∧ Below w.heap.size w w' := by
  obtain ⟨W, hW⟩ : ∃ W, W = ((w.alloc (.cells #[.bool na, .slice ua 0 uc, .int .i64 ea] 24)).alloc (.cells #[.bool nb, .slice va vn vc, .int .i64 eb] 24)).alloc (.cells #[.bool false, .slice none 0 0, .int .i64 0] 24) := ⟨_, rfl⟩
  obtain ⟨hA, hBb, hC, hsz, hBW⟩ := boxes3 _ _ _ hW
  have hn := hAr.small
  have k1 := rtwin (ng := nb) (e := eb) (hAr.later hBW)
  have HH : Hid (W.heap[w.heap.size + 1 + 1]? = some (.cells #[.bool false, .slice none 0 0, .int .i64 0] 24 (0, 0)) ∧ W.heap.size = w.heap.size + 1 + 1 + 1 ∧ Below w.heap.size w W) := ⟨hC, hsz, hBW⟩
  clear hA hBb hC hsz hBW hAr
  go_enter Tryz.func71, Tryz.ntmps71
  go_wp2_with fail
  rw [← hW]
  clear hW
  refine k1.mono ?_
  rintro r w4 ⟨ao4, cap4, rfl, hd, hB4⟩
  have HC4 : Hid (w4.heap[w.heap.size + 1 + 1]? = some (.cells #[.bool false, .slice none 0 0, .int .i64 0] 24 (0, 0))) := box_later HH.out.1 hB4 (by have := HH.out.2.1; omega)
  obtain ⟨⟨x1, x2, x3⟩, x4, x5, x6⟩ := box_cells29 HC4.out
  have HD4 : Hid (Dn w4 W.heap.size (.slice ao4 vn cap4) vn z ∧ Below W.heap.size W w4) := ⟨hd, hB4⟩
  clear hd hB4 k1
  go_wp2
  refine bodyPost_ret (results_cell_row rfl _ _ (w.heap.size + 1 + 1) 24 #[.bool nb, .slice ao4 vn cap4, .int .i64 eb] (0, 0) _ rfl (store3_29 _ _ _ HC4.out) Tryz.underlying24 rfl Tryz.info24) rfl ?_
  obtain ⟨-, hs, hBW⟩ := HH.out
  obtain ⟨hd, hb⟩ := HD4.out
  exact ⟨_, _, rfl, (((hd.store (by omega) _ _).store (by omega) _ _).store (by omega) _ _).mono (by omega), below_store3 (hBW.trans (hb.mono hBW.size)) (by omega) _ _ _⟩
set_option maxHeartbeats 4000000 in
set_option maxRecDepth 200000 in
theorem rplus_b (na nb : Bool) (ua va : Option Addr) (un uc vc : Nat) (ea eb : Int) (w : World) (z : Nat) (hAr : Arg w ua un uc z) (hn0 : ((un : Int) == 0) = false) :
    Calls Tryz.prog 71 #[.agg #[.bool na, .slice ua un uc, .int .i64 ea], .agg #[.bool nb, .slice va 0 vc, .int .i64 eb]] w fun r w' => ∃ ao' cap', r = .returned (.agg #[.bool na, .slice ao' un cap', .int .i64 ea]) ∧ Dn w' w.heap.size (.slice ao' un cap') un z ∧ Below w.heap.size w w' := by
  obtain ⟨W, hW⟩ : ∃ W, W = ((w.alloc (.cells #[.bool na, .slice ua un uc, .int .i64 ea] 24)).alloc (.cells #[.bool nb, .slice va 0 vc, .int .i64 eb] 24)).alloc (.cells #[.bool false, .slice none 0 0, .int .i64 0] 24) := ⟨_, rfl⟩
  obtain ⟨hA, hBb, hC, hsz, hBW⟩ := boxes3 _ _ _ hW
  have hn := hAr.small
  have k1 := rtwin (ng := na) (e := ea) (hAr.later hBW)
  have HH : Hid (W.heap[w.heap.size + 1 + 1]? = some (.cells #[.bool false, .slice none 0 0, .int .i64 0] 24 (0, 0)) ∧ W.heap.size = w.heap.size + 1 + 1 + 1 ∧ Below w.heap.size w W) := ⟨hC, hsz, hBW⟩
  clear hA hBb hC hsz hBW hAr
  go_enter Tryz.func71, Tryz.ntmps71
  go_wp2_with fail
  rw [← hW]
  clear hW
  refine k1.mono ?_
  rintro r w4 ⟨ao4, cap4, rfl, hd, hB4⟩
  have HC4 : Hid (w4.heap[w.heap.size + 1 + 1]? = some (.cells #[.bool false, .slice none 0 0, .int .i64 0] 24 (0, 0))) := box_later HH.out.1 hB4 (by have := HH.out.2.1; omega)
  obtain ⟨⟨x1, x2, x3⟩, x4, x5, x6⟩ := box_cells29 HC4.out
  have HD4 : Hid (Dn w4 W.heap.size (.slice ao4 un cap4) un z ∧ Below W.heap.size W w4) := ⟨hd, hB4⟩
  clear hd hB4 k1
  go_wp2
  refine bodyPost_ret (results_cell_row rfl _ _ (w.heap.size + 1 + 1) 24 #[.bool na, .slice ao4 un cap4, .int .i64 ea] (0, 0) _ rfl (store3_29 _ _ _ HC4.out) Tryz.underlying24 rfl Tryz.info24) rfl ?_
  obtain ⟨-, hs, hBW⟩ := HH.out
  obtain ⟨hd, hb⟩ := HD4.out
  exact ⟨_, _, rfl, (((hd.store (by omega) _ _).store (by omega) _ _).store (by omega) _ _).mono (by omega), below_store3 (hBW.trans (hb.mono hBW.size)) (by omega) _ _ _⟩

theorem Dn.rn {w : World} {base x cap : Nat} {s : Bool} {e : Int} {ao : Option Addr} (h : Dn w base (.slice ao (dlen x) cap) (dlen x) x) : RN w base (.agg #[.bool s, .slice ao (dlen x) cap, .int .i64 e]) (s, x, e) := by
  have hat := h.at_
  refine ⟨ao, cap, rfl, fun ad e hl => ?_, hat⟩
  rcases h with ⟨h1, -⟩ | ⟨g, cap', c, h1, h2, -⟩
  · simp only [Value.slice.injEq] at h1
    rw [h1.1] at e; cases e
  · simp only [Value.slice.injEq] at h1
    rw [h1.1] at e; cases e; exact h2
theorem RN.shape {w : World} {base : Nat} {A : Value} {t : Bool × Nat × Int} (h : RN w base A t) : ∃ s ao n cap e, A = .agg #[.bool s, .slice ao n cap, .int .i64 e] := by
  obtain ⟨ao, cap, h1, -⟩ := h
  exact ⟨_, _, _, _, _, h1⟩

theorem rplus {na nb : Bool} {ua va : Option Addr} {uc vc x y : Nat} {ea eb : Int} {w : World} (h1 : Arg w ua (dlen x) uc x) (h2 : Arg w va (dlen y) vc y) (ok1 : Ok (na, x, ea)) (ok2 : Ok (nb, y, eb)) :
    Calls Tryz.prog 71 #[.agg #[.bool na, .slice ua (dlen x) uc, .int .i64 ea], .agg #[.bool nb, .slice va (dlen y) vc, .int .i64 eb]] w fun r w' => ∃ a, r = .returned a ∧ RN w' w.heap.size a (cn (sumN na x ea nb y eb).1 (sumN na x ea nb y eb).2.1 (sumN na x ea nb y eb).2.2) ∧ Below w.heap.size w w' := by
  have f1 := ok1.facts
  have f2 := ok2.facts
  simp only at f1 f2
  unfold sumN
  by_cases x0 : x = 0
  · rw [if_pos x0]
    show Calls _ _ _ _ fun r w' => ∃ a, r = .returned a ∧ RN w' w.heap.size a (cn nb y eb) ∧ _
    rw [show cn nb y eb = (nb, y, eb) from cn_ok ok2]
    subst x0
    rw [dlen_zero]
    refine (rplus_a na nb ua va uc _ vc ea eb w y h2).mono ?_
    rintro r w' ⟨ao', cap', rfl, hd, hb⟩
    exact ⟨_, rfl, hd.rn, hb⟩
  · rw [if_neg x0]
    by_cases y0 : y = 0
    · rw [if_pos y0]
      show Calls _ _ _ _ fun r w' => ∃ a, r = .returned a ∧ RN w' w.heap.size a (cn na x ea) ∧ _
      rw [show cn na x ea = (na, x, ea) from cn_ok ok1]
      subst y0
      rw [dlen_zero]
      refine (rplus_b na nb ua va _ uc vc ea eb w x h1 (len_ne (n := 0) x0)).mono ?_
      rintro r w' ⟨ao', cap', rfl, hd, hb⟩
      exact ⟨_, rfl, hd.rn, hb⟩
    · rw [if_neg y0]
      have l1 : dlen (x * 2 ^ (ea - min ea eb).toNat) ≤ 760000 := by have := shl_len (x := x) (k := (ea - min ea eb).toNat) rfl; omega
      have l2 : dlen (y * 2 ^ (eb - min ea eb).toNat) ≤ 760000 := by have := shl_len (x := y) (k := (eb - min ea eb).toNat) rfl; omega
      have ku : ∀ W i, Below w.heap.size w W → i = ea - min ea eb → Calls Tryz.prog 104 #[.slice ua (dlen x) uc, .int .i64 i] W fun r w' => ∃ v, r = .returned v ∧ Ir w' v (x * 2 ^ (ea - min ea eb).toNat) ∧ Below W.heap.size W w' := by
        intro W i hW hi
        have hik : i = (((ea - min ea eb).toNat : Nat) : Int) := by omega
        rw [hik]
        exact rup ⟨ua, uc, rfl, h1.le, (h1.later hW).at_⟩ _ (by omega) (by omega)
      have kv : ∀ W i, Below w.heap.size w W → i = eb - min ea eb → Calls Tryz.prog 104 #[.slice va (dlen y) vc, .int .i64 i] W fun r w' => ∃ v, r = .returned v ∧ Ir w' v (y * 2 ^ (eb - min ea eb).toNat) ∧ Below W.heap.size W w' := by
        intro W i hW hi
        have hik : i = (((eb - min ea eb).toNat : Nat) : Int) := by omega
        rw [hik]
        exact rup ⟨va, vc, rfl, h2.le, (h2.later hW).at_⟩ _ (by omega) (by omega)
      by_cases hs : na = nb
      · rw [if_pos hs]
        have hne : (na == nb) = true := by simp [hs]
        refine (rplus_c na nb ua va _ uc _ vc _ _ ea eb w hne (by have := dlen_add_le (x * 2 ^ (ea - min ea eb).toNat) (y * 2 ^ (eb - min ea eb).toNat); omega) (by omega) (by omega) (by omega) (by omega) (by omega) (by omega) (len_ne (n := 0) x0) (len_ne (n := 0) y0) ku kv).mono ?_
        rintro r w' ⟨a, rfl, hn, hb⟩
        exact ⟨a, rfl, hn.rn, hb⟩
      · rw [if_neg hs]
        have hne : (na == nb) = false := by simp [hs]
        by_cases hlt : x * 2 ^ (ea - min ea eb).toNat < y * 2 ^ (eb - min ea eb).toNat
        · rw [if_pos hlt]
          refine (rplus_d na nb ua va _ uc _ vc _ _ ea eb w hlt hne (Nat.le_trans (dlen_mono (Nat.sub_le ..)) (by omega)) (by omega) (by omega) (by omega) (by omega) (by omega) (by omega) (len_ne (n := 0) x0) (len_ne (n := 0) y0) ku kv).mono ?_
          rintro r w' ⟨a, rfl, hn, hb⟩
          exact ⟨a, rfl, hn.rn, hb⟩
        · rw [if_neg hlt]
          refine (rplus_e na nb ua va _ uc _ vc _ _ ea eb w (by omega) hne (Nat.le_trans (dlen_mono (Nat.sub_le ..)) (by omega)) (by omega) (by omega) (by omega) (by omega) (by omega) (by omega) (len_ne (n := 0) x0) (len_ne (n := 0) y0) ku kv).mono ?_
          rintro r w' ⟨a, rfl, hn, hb⟩
          exact ⟨a, rfl, hn.rn, hb⟩

/-- the answer and its error: the value t where it may be -/
def Ans (V : Bool) (t : Bool × Nat × Int) : Bool × Nat × Int := if V then t else (false, 0, 0)

theorem okR_cn (s : Bool) (z : Nat) (e : Int) : okR s z e = okN (cn s z e).1 (dlen (cn s z e).2.1) (cn s z e).2.1 (cn s z e).2.2 := by
  unfold okR cn
  by_cases h0 : z = 0
  · rw [if_pos h0, if_pos h0, dlen_zero]; rfl
  · rw [if_neg h0, if_neg h0]

theorem kept_rn {base : Nat} {A : Value} {t : Bool × Nat × Int} {w : World} (h : RN w base A t) (hz : dlen t.2.1 ≤ 35184372088832) (V : Bool) (hV : okN t.1 (dlen t.2.1) t.2.1 t.2.2 = V) :
    Calls Tryz.prog 70 #[A] w fun r w' => (∃ s ao n cap e, r = .returned (.tuple #[.agg #[.bool s, .slice ao n cap, .int .i64 e], .int .i64 (if V then 0 else 2)]) ∧ Hid (RN w' base (.agg #[.bool s, .slice ao n cap, .int .i64 e]) (Ans V t))) ∧ Below w.heap.size w w' := by
  obtain ⟨ao, cap, rfl, hfr, ha⟩ := h
  refine (r41 t.1 ao (dlen t.2.1) cap t.2.2 V w (fun W hW => by
    have := rvalid_at (s := t.1) (cap := cap) (e := t.2.2) (ha.later hW) hz
    rw [hV] at this
    exact this)).mono ?_
  rintro r w' ⟨rfl, hb⟩
  refine ⟨?_, hb⟩
  cases V
  · exact ⟨_, _, _, _, _, rfl, rn_nil w' _⟩
  · exact ⟨_, _, _, _, _, rfl, ao, cap, rfl, hfr, ha.later hb⟩
end Go.Proofs.YtejefbnfmglfeaaGreatDoor
