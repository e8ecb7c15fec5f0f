/- Own work: contracts of the program's functions, part 14: RE4 RE6 RD2 L12 L15. -/
import Derived.Test.YtmhpicccfaklcaaGreatDoorA13
import Derived.Test.YtmhpicccfaklcaaGreatDoorA12
import Derived.Test.YtmhpicccfaklcaaGreatDoorA11

/- The document's Order and Cmp, joined. -/
namespace Go.Proofs.YtmhpicccfaklcaaGreatDoor
set_option linter.unusedVariables false
set_option linter.unusedSimpArgs false
open Go.RowKit

theorem magI_sign {x y : Nat} {ea eb : Int} : cmpI (magI x ea y eb) 0 = cmpI (x * 2 ^ (ea - min ea eb).toNat : Nat) (y * 2 ^ (eb - min ea eb).toNat : Nat) := by
  unfold magI
  by_cases h0 : x = 0 ∨ y = 0
  · rw [if_pos h0]
    by_cases hx : x = 0
    · subst hx
      rw [dlen_zero, Nat.zero_mul]
      by_cases hy : y = 0
      · subst hy; rw [dlen_zero, Nat.zero_mul]; rfl
      · have h1 : dlen y ≠ 0 := fun e => hy (dlen_eq_zero.1 e)
        have h2 : 0 < y * 2 ^ (eb - min ea eb).toNat := Nat.mul_pos (by omega) (Nat.two_pow_pos _)
        unfold cmpI
        rw [if_pos (by omega), if_pos (by omega)]
    · have hy : y = 0 := by omega
      subst hy
      rw [dlen_zero, Nat.zero_mul]
      have h1 : dlen x ≠ 0 := fun e => hx (dlen_eq_zero.1 e)
      have h2 : 0 < x * 2 ^ (ea - min ea eb).toNat := Nat.mul_pos (by omega) (Nat.two_pow_pos _)
      unfold cmpI
      rw [if_neg (by omega), if_pos (by omega), if_neg (by omega), if_pos (by omega)]
  · rw [if_neg h0]
    have hx0 : x ≠ 0 := fun e => h0 (.inl e)
    have hy0 : y ≠ 0 := fun e => h0 (.inr e)
    by_cases ht : (bl x : Int) + ea = bl y + eb
    · rw [if_pos ht]
      rcases cmpI_cases (x * 2 ^ (ea - min ea eb).toNat : Nat) (y * 2 ^ (eb - min ea eb).toNat : Nat) with h | h | h <;> rw [h.2] <;> rfl
    · rw [if_neg ht]
      rcases cmpI_cases (bl x + ea) (bl y + eb) with h | h | h
      · have := top_lt (x := x) (k := (ea - min ea eb).toNat) (l := (eb - min ea eb).toNat) hy0 (by omega)
        unfold cmpI; rw [if_pos (by omega), if_pos (by omega)]
      · have := top_lt (x := y) (y := x) (k := (eb - min ea eb).toNat) (l := (ea - min ea eb).toNat) hx0 (by omega)
        unfold cmpI; rw [if_neg (by omega), if_pos (by omega), if_neg (by omega), if_pos (by omega)]
      · exact absurd h.1 ht
theorem magI_le {x y : Nat} {ea eb : Int} (hx : dlen x ≤ 400000) (hy : dlen y ≤ 400000) (ha : -2000000 ≤ ea ∧ ea ≤ 2000000) (hb : -2000000 ≤ eb ∧ eb ≤ 2000000) : -90000000000 ≤ magI x ea y eb ∧ magI x ea y eb ≤ 90000000000 := by
  have b1 := bl_le_dlen x
  have b2 := bl_le_dlen y
  unfold magI
  split
  · omega
  · split
    · rcases cmpI_cases (x * 2 ^ (ea - min ea eb).toNat : Nat) (y * 2 ^ (eb - min ea eb).toNat : Nat) with h | h | h <;> rw [h.2] <;> omega
    · omega
/-- Order answers as Cmp -/
theorem rorder {na nb : Bool} {ua va : Option Addr} {uc vc x y : Nat} {ea eb : Int} {w : World} (h1 : Arg w ua (dlen x) uc x) (h2 : Arg w va (dlen y) vc y) (hx : dlen x ≤ 400000) (hy : dlen y ≤ 400000) (ha : -2000000 ≤ ea ∧ ea ≤ 2000000) (hb : -2000000 ≤ eb ∧ eb ≤ 2000000) :
    Calls Tryz.prog 58 #[.agg #[.bool na, .slice ua (dlen x) uc, .int .i64 ea], .agg #[.bool nb, .slice va (dlen y) vc, .int .i64 eb]] w fun r w' => r = .returned (.int .i64 (ordN na x ea nb y eb)) ∧ Below w.heap.size w w' := by
  have kA : ∀ W, Below w.heap.size w W → Calls Tryz.prog 53 #[.agg #[.bool na, .slice ua (dlen x) uc, .int .i64 ea]] W fun r w' => r = .returned (.int .i64 (sgI na (dlen x))) ∧ Below W.heap.size W w' := fun W hW => rsgn (by omega)
  have kB : ∀ W, Below w.heap.size w W → Calls Tryz.prog 53 #[.agg #[.bool nb, .slice va (dlen y) vc, .int .i64 eb]] W fun r w' => r = .returned (.int .i64 (sgI nb (dlen y))) ∧ Below W.heap.size W w' := fun W hW => rsgn (by omega)
  have kM : ∀ W, Below w.heap.size w W → Calls Tryz.prog 115 #[.agg #[.bool na, .slice ua (dlen x) uc, .int .i64 ea], .agg #[.bool nb, .slice va (dlen y) vc, .int .i64 eb]] W fun r w' => r = .returned (.int .i64 (magI x ea y eb)) ∧ Below W.heap.size W w' := fun W hW => rmag (h1.later hW) (h2.later hW) hx hy ha hb
  have hl := magI_le (ea := ea) (eb := eb) hx hy ha hb
  have hm := magI_sign (x := x) (y := y) (ea := ea) (eb := eb)
  unfold ordN
  rw [← hm]
  generalize hsa : sgI na (dlen x) = sa at *
  generalize hsb : sgI nb (dlen y) = sb at *
  generalize magI x ea y eb = c at *
  by_cases hs : sa = sb
  · rw [if_pos hs]
    have hs3 : sa = 0 ∨ sa = -1 ∨ sa = 1 := by
      rw [← hsa]; unfold sgI
      split
      · exact .inl rfl
      · split
        · exact .inr (.inl rfl)
        · exact .inr (.inr rfl)
    by_cases hsn : sa < 0
    · have hs1 : sa = -1 := by omega
      rcases cmpI_cases c 0 with h | h | h
      · rw [h.2, show sa * -1 = 1 by omega]; exact rorder_nl na nb ua va _ uc _ vc ea eb sa sb c w hs hsn h.1 hl.1 hl.2 kA kB kM
      · rw [h.2, show sa * 1 = -1 by omega]; exact rorder_ng na nb ua va _ uc _ vc ea eb sa sb c w hs hsn h.1 hl.1 hl.2 kA kB kM
      · rw [h.2, Int.mul_zero]; exact rorder_ne na nb ua va _ uc _ vc ea eb sa sb c w hs hsn h.1 hl.1 hl.2 kA kB kM
    · by_cases h0 : sa = 0
      · have hc0 : c = 0 := by
          have hdx : dlen x = 0 := by
            apply Decidable.byContradiction
            intro hne
            rw [h0, sgI_pos hne] at hsa
            cases na <;> simp at hsa
          have hdy : dlen y = 0 := by
            apply Decidable.byContradiction
            intro hne
            rw [← hs, h0, sgI_pos hne] at hsb
            cases nb <;> simp at hsb
          have ex : x = 0 := dlen_eq_zero.1 hdx
          have ey : y = 0 := dlen_eq_zero.1 hdy
          subst ex; subst ey
          rw [Nat.zero_mul, Nat.zero_mul] at hm
          rcases cmpI_cases c 0 with h | h | h
          · rw [h.2] at hm; exact absurd hm (by decide)
          · rw [h.2] at hm; exact absurd hm (by decide)
          · exact h.1
        rw [show sa * cmpI c 0 = 0 by rw [h0, Int.zero_mul]]
        exact rorder_pe na nb ua va _ uc _ vc ea eb sa sb c w hs (by omega) hc0 hl.1 hl.2 kA kB kM
      · have hs1 : sa = 1 := by omega
        rw [show sa * cmpI c 0 = cmpI c 0 by rw [hs1, Int.one_mul]]
        rcases cmpI_cases c 0 with h | h | h
        · rw [h.2]; exact rorder_pl na nb ua va _ uc _ vc ea eb sa sb c w hs (by omega) h.1 hl.1 hl.2 kA kB kM
        · rw [h.2]; exact rorder_pg na nb ua va _ uc _ vc ea eb sa sb c w hs (by omega) h.1 hl.1 hl.2 kA kB kM
        · rw [h.2]; exact rorder_pe na nb ua va _ uc _ vc ea eb sa sb c w hs (by omega) h.1 hl.1 hl.2 kA kB kM
  · rw [if_neg hs]
    unfold cmpI
    by_cases hlt : sa < sb
    · rw [if_pos hlt]; exact rorder_lt na nb ua va _ uc _ vc ea eb sa sb c w hlt kA kB
    · rw [if_neg hlt, if_pos (by omega)]; exact rorder_gt na nb ua va _ uc _ vc ea eb sa sb c w hlt hs kA kB
set_option maxHeartbeats 4000000 in
set_option maxRecDepth 200000 in
theorem rcmp_no1 (na nb : Bool) (ua va : Option Addr) (un uc vn vc : Nat) (ea eb c : Int) (w : World)
    (kA : ∀ W, Below w.heap.size w W → Calls Tryz.prog 11 #[.agg #[.bool na, .slice ua un uc, .int .i64 ea]] W fun r w' => r = .returned (.bool false) ∧ Below W.heap.size W w') :
    Calls Tryz.prog 24 #[.agg #[.bool na, .slice ua un uc, .int .i64 ea], .agg #[.bool nb, .slice va vn vc, .int .i64 eb]] w fun r w' => r = .returned (.int .i64 0) ∧ Below w.heap.size w w' := by
  obtain ⟨W, hW⟩ : ∃ W, W = (w.alloc (.cells #[.bool na, .slice ua un uc, .int .i64 ea] 24)).alloc (.cells #[.bool nb, .slice va vn vc, .int .i64 eb] 24) := ⟨_, rfl⟩
  obtain ⟨hA, hBb, hsz, hBW⟩ := two29 _ _ hW
  have HX : Hid (Below w.heap.size w W) := hBW
  have kA' : ∀ w4, Below W.heap.size W w4 → Calls Tryz.prog 11 #[.agg #[.bool na, .slice ua un uc, .int .i64 ea]] w4 fun r w' => r = .returned (.bool false) ∧ Below W.heap.size W w' := fun w4 h4 => (kA w4 (hBW.trans (h4.mono hBW.size))).mono fun r w' ⟨e1, o2⟩ => ⟨e1, h4.trans (o2.mono h4.size)⟩
  have k1 := kA' W (Below.refl _ _)
  obtain ⟨⟨a0, a1, a2⟩, -⟩ := box_cells29 hA
  obtain ⟨⟨b0, b1, b2⟩, -⟩ := box_cells29 hBb
  have HK : Hid (∀ w', Below W.heap.size W w' → ((w'.cell? ⟨w.heap.size, 0, none⟩ = some (.bool na) ∧ w'.cell? ⟨w.heap.size, 1, none⟩ = some (.slice ua un uc) ∧ w'.cell? ⟨w.heap.size, 2, none⟩ = some (.int .i64 ea)) ∧ (w'.cell? ⟨w.heap.size + 1, 0, none⟩ = some (.bool nb) ∧ w'.cell? ⟨w.heap.size + 1, 1, none⟩ = some (.slice va vn vc) ∧ w'.cell? ⟨w.heap.size + 1, 2, none⟩ = some (.int .i64 eb)))) := fun w' hb => ⟨(box_cells29 (box_later hA hb (by omega))).1, (box_cells29 (box_later hBb hb (by omega))).1⟩
  have HRD : Hid (∀ w', Below W.heap.size W w' → Below W.heap.size W w'.drew) := fun w' h => h.trans ⟨rfl, rfl, rfl, Nat.le_refl _, fun _ _ => rfl⟩
  clear kA kA' hA hBb hsz hBW a0 a1 a2 b0 b1 b2
  go_enter Tryz.func24, Tryz.ntmps24
  go_wp2_with fail
  rw [← hW]
  clear hW
  refine k1.mono ?_
  rintro r w1 ⟨rfl, hb1⟩
  clear k1
  have HL1 : Hid (Below W.heap.size W w1) := hb1
  obtain ⟨⟨a0, a1, a2⟩, b0, b1, b2⟩ := HK.out w1 hb1
  clear hb1
  go_wp2
  go_ret
  exact ⟨rfl, HX.out.trans (HL1.out.mono HX.out.size)⟩
set_option maxHeartbeats 4000000 in
set_option maxRecDepth 200000 in
theorem rcmp_no2 (na nb : Bool) (ua va : Option Addr) (un uc vn vc : Nat) (ea eb c : Int) (w : World)
    (kA : ∀ W, Below w.heap.size w W → Calls Tryz.prog 11 #[.agg #[.bool na, .slice ua un uc, .int .i64 ea]] W fun r w' => r = .returned (.bool true) ∧ Below W.heap.size W w')
    (kB : ∀ W, Below w.heap.size w W → Calls Tryz.prog 11 #[.agg #[.bool nb, .slice va vn vc, .int .i64 eb]] W fun r w' => r = .returned (.bool false) ∧ Below W.heap.size W w') :
    Calls Tryz.prog 24 #[.agg #[.bool na, .slice ua un uc, .int .i64 ea], .agg #[.bool nb, .slice va vn vc, .int .i64 eb]] w fun r w' => r = .returned (.int .i64 0) ∧ Below w.heap.size w w' := by
  obtain ⟨W, hW⟩ : ∃ W, W = (w.alloc (.cells #[.bool na, .slice ua un uc, .int .i64 ea] 24)).alloc (.cells #[.bool nb, .slice va vn vc, .int .i64 eb] 24) := ⟨_, rfl⟩
  obtain ⟨hA, hBb, hsz, hBW⟩ := two29 _ _ hW
  have HX : Hid (Below w.heap.size w W) := hBW
  have kA' : ∀ w4, Below W.heap.size W w4 → Calls Tryz.prog 11 #[.agg #[.bool na, .slice ua un uc, .int .i64 ea]] w4 fun r w' => r = .returned (.bool true) ∧ Below W.heap.size W w' := fun w4 h4 => (kA w4 (hBW.trans (h4.mono hBW.size))).mono fun r w' ⟨e1, o2⟩ => ⟨e1, h4.trans (o2.mono h4.size)⟩
  have k1 := kA' W (Below.refl _ _)
  have kB' : ∀ w4, Below W.heap.size W w4 → Calls Tryz.prog 11 #[.agg #[.bool nb, .slice va vn vc, .int .i64 eb]] w4 fun r w' => r = .returned (.bool false) ∧ Below W.heap.size W w' := fun w4 h4 => (kB w4 (hBW.trans (h4.mono hBW.size))).mono fun r w' ⟨e1, o2⟩ => ⟨e1, h4.trans (o2.mono h4.size)⟩
  have HKB : Hid (∀ w4, Below W.heap.size W w4 → Calls Tryz.prog 11 #[.agg #[.bool nb, .slice va vn vc, .int .i64 eb]] w4 fun r w' => r = .returned (.bool false) ∧ Below W.heap.size W w') := kB'
  obtain ⟨⟨a0, a1, a2⟩, -⟩ := box_cells29 hA
  obtain ⟨⟨b0, b1, b2⟩, -⟩ := box_cells29 hBb
  have HK : Hid (∀ w', Below W.heap.size W w' → ((w'.cell? ⟨w.heap.size, 0, none⟩ = some (.bool na) ∧ w'.cell? ⟨w.heap.size, 1, none⟩ = some (.slice ua un uc) ∧ w'.cell? ⟨w.heap.size, 2, none⟩ = some (.int .i64 ea)) ∧ (w'.cell? ⟨w.heap.size + 1, 0, none⟩ = some (.bool nb) ∧ w'.cell? ⟨w.heap.size + 1, 1, none⟩ = some (.slice va vn vc) ∧ w'.cell? ⟨w.heap.size + 1, 2, none⟩ = some (.int .i64 eb)))) := fun w' hb => ⟨(box_cells29 (box_later hA hb (by omega))).1, (box_cells29 (box_later hBb hb (by omega))).1⟩
  have HRD : Hid (∀ w', Below W.heap.size W w' → Below W.heap.size W w'.drew) := fun w' h => h.trans ⟨rfl, rfl, rfl, Nat.le_refl _, fun _ _ => rfl⟩
  clear kA kA' kB kB' hA hBb hsz hBW a0 a1 a2 b0 b1 b2
  go_enter Tryz.func24, Tryz.ntmps24
  go_wp2_with fail
  rw [← hW]
  clear hW
  refine k1.mono ?_
  rintro r w1 ⟨rfl, hb1⟩
  clear k1
  have HL1 : Hid (Below W.heap.size W w1) := hb1
  obtain ⟨⟨a0, a1, a2⟩, b0, b1, b2⟩ := HK.out w1 hb1
  clear hb1
  have k2 := HKB.out w1 HL1.out
  go_wp2_with fail
  refine k2.mono ?_
  rintro r w2 ⟨rfl, hb2⟩
  clear k2 a0 a1 a2 b0 b1 b2
  have HL2 : Hid (Below W.heap.size W w2) := hb2
  obtain ⟨⟨a0, a1, a2⟩, b0, b1, b2⟩ := HK.out w2 hb2
  clear hb2
  go_wp2
  go_ret
  exact ⟨rfl, HX.out.trans (HL2.out.mono HX.out.size)⟩
set_option maxHeartbeats 4000000 in
set_option maxRecDepth 200000 in
theorem rcmp_1 (na nb : Bool) (ua va : Option Addr) (un uc vn vc : Nat) (ea eb c : Int) (w : World)
    (kA : ∀ W, Below w.heap.size w W → Calls Tryz.prog 11 #[.agg #[.bool na, .slice ua un uc, .int .i64 ea]] W fun r w' => r = .returned (.bool true) ∧ Below W.heap.size W w')
    (kB : ∀ W, Below w.heap.size w W → Calls Tryz.prog 11 #[.agg #[.bool nb, .slice va vn vc, .int .i64 eb]] W fun r w' => r = .returned (.bool true) ∧ Below W.heap.size W w')
    (kM : ∀ W, Below w.heap.size w W → Calls Tryz.prog 58 #[.agg #[.bool na, .slice ua un uc, .int .i64 ea], .agg #[.bool nb, .slice va vn vc, .int .i64 eb]] W fun r w' => r = .returned (.int .i64 c) ∧ Below W.heap.size W w') :
    Calls Tryz.prog 24 #[.agg #[.bool na, .slice ua un uc, .int .i64 ea], .agg #[.bool nb, .slice va vn vc, .int .i64 eb]] w fun r w' => r = .returned (.int .i64 c) ∧ Below w.heap.size w w' := by
  obtain ⟨W, hW⟩ : ∃ W, W = (w.alloc (.cells #[.bool na, .slice ua un uc, .int .i64 ea] 24)).alloc (.cells #[.bool nb, .slice va vn vc, .int .i64 eb] 24) := ⟨_, rfl⟩
  obtain ⟨hA, hBb, hsz, hBW⟩ := two29 _ _ hW
  have HX : Hid (Below w.heap.size w W) := hBW
  have kA' : ∀ w4, Below W.heap.size W w4 → Calls Tryz.prog 11 #[.agg #[.bool na, .slice ua un uc, .int .i64 ea]] w4 fun r w' => r = .returned (.bool true) ∧ Below W.heap.size W w' := fun w4 h4 => (kA w4 (hBW.trans (h4.mono hBW.size))).mono fun r w' ⟨e1, o2⟩ => ⟨e1, h4.trans (o2.mono h4.size)⟩
  have k1 := kA' W (Below.refl _ _)
  have kB' : ∀ w4, Below W.heap.size W w4 → Calls Tryz.prog 11 #[.agg #[.bool nb, .slice va vn vc, .int .i64 eb]] w4 fun r w' => r = .returned (.bool true) ∧ Below W.heap.size W w' := fun w4 h4 => (kB w4 (hBW.trans (h4.mono hBW.size))).mono fun r w' ⟨e1, o2⟩ => ⟨e1, h4.trans (o2.mono h4.size)⟩
  have HKB : Hid (∀ w4, Below W.heap.size W w4 → Calls Tryz.prog 11 #[.agg #[.bool nb, .slice va vn vc, .int .i64 eb]] w4 fun r w' => r = .returned (.bool true) ∧ Below W.heap.size W w') := kB'
  have kM' : ∀ w4, Below W.heap.size W w4 → Calls Tryz.prog 58 #[.agg #[.bool na, .slice ua un uc, .int .i64 ea], .agg #[.bool nb, .slice va vn vc, .int .i64 eb]] w4 fun r w' => r = .returned (.int .i64 c) ∧ Below W.heap.size W w' := fun w4 h4 => (kM w4 (hBW.trans (h4.mono hBW.size))).mono fun r w' ⟨e1, o2⟩ => ⟨e1, h4.trans (o2.mono h4.size)⟩
  have HKM : Hid (∀ w4, Below W.heap.size W w4 → Calls Tryz.prog 58 #[.agg #[.bool na, .slice ua un uc, .int .i64 ea], .agg #[.bool nb, .slice va vn vc, .int .i64 eb]] w4 fun r w' => r = .returned (.int .i64 c) ∧ Below W.heap.size W w') := kM'
  obtain ⟨⟨a0, a1, a2⟩, -⟩ := box_cells29 hA
  obtain ⟨⟨b0, b1, b2⟩, -⟩ := box_cells29 hBb
  have HK : Hid (∀ w', Below W.heap.size W w' → ((w'.cell? ⟨w.heap.size, 0, none⟩ = some (.bool na) ∧ w'.cell? ⟨w.heap.size, 1, none⟩ = some (.slice ua un uc) ∧ w'.cell? ⟨w.heap.size, 2, none⟩ = some (.int .i64 ea)) ∧ (w'.cell? ⟨w.heap.size + 1, 0, none⟩ = some (.bool nb) ∧ w'.cell? ⟨w.heap.size + 1, 1, none⟩ = some (.slice va vn vc) ∧ w'.cell? ⟨w.heap.size + 1, 2, none⟩ = some (.int .i64 eb)))) := fun w' hb => ⟨(box_cells29 (box_later hA hb (by omega))).1, (box_cells29 (box_later hBb hb (by omega))).1⟩
  have HRD : Hid (∀ w', Below W.heap.size W w' → Below W.heap.size W w'.drew) := fun w' h => h.trans ⟨rfl, rfl, rfl, Nat.le_refl _, fun _ _ => rfl⟩
  clear kA kA' kB kB' kM kM' hA hBb hsz hBW a0 a1 a2 b0 b1 b2
  go_enter Tryz.func24, Tryz.ntmps24
  go_wp2_with fail
  rw [← hW]
  clear hW
  refine k1.mono ?_
  rintro r w1 ⟨rfl, hb1⟩
  clear k1
  have HL1 : Hid (Below W.heap.size W w1) := hb1
  obtain ⟨⟨a0, a1, a2⟩, b0, b1, b2⟩ := HK.out w1 hb1
  clear hb1
  have k2 := HKB.out w1 HL1.out
  go_wp2_with fail
  refine k2.mono ?_
  rintro r w2 ⟨rfl, hb2⟩
  clear k2 a0 a1 a2 b0 b1 b2
  have HL2 : Hid (Below W.heap.size W w2) := hb2
  obtain ⟨⟨a0, a1, a2⟩, b0, b1, b2⟩ := HK.out w2 hb2
  clear hb2
  have k3 := HKM.out w2 HL2.out
  go_wp2_with fail
  refine k3.mono ?_
  rintro r w3 ⟨rfl, hb3⟩
  clear k3 a0 a1 a2 b0 b1 b2
  have HL3 : Hid (Below W.heap.size W w3) := hb3
  clear hb3
  go_wp2
  go_ret
  exact ⟨rfl, HX.out.trans (HL3.out.mono HX.out.size)⟩
end Go.Proofs.YtmhpicccfaklcaaGreatDoor

/- The document's Show. -/
namespace Go.Proofs.YtmhpicccfaklcaaGreatDoor
set_option linter.unusedVariables false
set_option linter.unusedSimpArgs false
open Go.RowKit

set_option maxHeartbeats 4000000 in
set_option maxRecDepth 200000 in
theorem rshow_no (na : Bool) (ua : Option Addr) (un uc : Nat) (ea : Int) (w : World)  (kV : ∀ W, Below w.heap.size w W → Calls Tryz.prog 11 #[.agg #[.bool na, .slice ua un uc, .int .i64 ea]] W fun r w' => r = .returned (.bool false) ∧ Below W.heap.size W w') :
    Calls Tryz.prog 26 #[.agg #[.bool na, .slice ua un uc, .int .i64 ea]] w fun r w' => r = .returned (.string ⟨#[]⟩) ∧ Below w.heap.size w w' := by
  obtain ⟨W, hW⟩ : ∃ W, W = w.alloc (.cells #[.bool na, .slice ua un uc, .int .i64 ea] 24) := ⟨_, rfl⟩
  have hBW : Below w.heap.size w W := by rw [hW]; exact (Below.refl _ _).alloc (Nat.le_refl _) _
  have hA : W.heap[w.heap.size]? = some (.cells #[.bool na, .slice ua un uc, .int .i64 ea] 24 (0, 0)) := by rw [hW]; exact heap_alloc_new _ _
  have hsz : W.heap.size = w.heap.size + 1 := by rw [hW]; simp
  have HX : Hid (Below w.heap.size w W) := hBW
  have HK : Hid (∀ w', Below W.heap.size W w' → w'.cell? ⟨w.heap.size, 0, none⟩ = some (.bool na) ∧ w'.cell? ⟨w.heap.size, 1, none⟩ = some (.slice ua un uc) ∧ w'.cell? ⟨w.heap.size, 2, none⟩ = some (.int .i64 ea)) := fun w' hb => (box_cells29 (box_later hA hb (by omega))).1
  have k := kV W hBW
  clear kV hA hsz hBW
  go_enter Tryz.func26, Tryz.ntmps26
  go_wp2_with fail
  rw [← hW]
  clear hW
  refine k.mono ?_
  rintro r w1 ⟨rfl, hb1⟩
  have HB1 : Hid (Below W.heap.size W w1) := hb1
  obtain ⟨a0, a1, a2⟩ := HK.out w1 hb1
  clear k hb1
  go_wp2
  go_ret
  exact ⟨rfl, HX.out.trans (HB1.out.mono HX.out.size)⟩
set_option maxHeartbeats 4000000 in
set_option maxRecDepth 200000 in
theorem rshow_0 (na : Bool) (ua : Option Addr) (un uc : Nat) (ea : Int) (w : World) (h0 : un = 0) (kV : ∀ W, Below w.heap.size w W → Calls Tryz.prog 11 #[.agg #[.bool na, .slice ua un uc, .int .i64 ea]] W fun r w' => r = .returned (.bool true) ∧ Below W.heap.size W w') :
    Calls Tryz.prog 26 #[.agg #[.bool na, .slice ua un uc, .int .i64 ea]] w fun r w' => r = .returned (.string ⟨#[48, 112, 48]⟩) ∧ Below w.heap.size w w' := by
  subst h0
  obtain ⟨W, hW⟩ : ∃ W, W = w.alloc (.cells #[.bool na, .slice ua 0 uc, .int .i64 ea] 24) := ⟨_, rfl⟩
  have hBW : Below w.heap.size w W := by rw [hW]; exact (Below.refl _ _).alloc (Nat.le_refl _) _
  have hA : W.heap[w.heap.size]? = some (.cells #[.bool na, .slice ua 0 uc, .int .i64 ea] 24 (0, 0)) := by rw [hW]; exact heap_alloc_new _ _
  have hsz : W.heap.size = w.heap.size + 1 := by rw [hW]; simp
  have HX : Hid (Below w.heap.size w W) := hBW
  have HK : Hid (∀ w', Below W.heap.size W w' → w'.cell? ⟨w.heap.size, 0, none⟩ = some (.bool na) ∧ w'.cell? ⟨w.heap.size, 1, none⟩ = some (.slice ua 0 uc) ∧ w'.cell? ⟨w.heap.size, 2, none⟩ = some (.int .i64 ea)) := fun w' hb => (box_cells29 (box_later hA hb (by omega))).1
  have k := kV W hBW
  clear kV hA hsz hBW
  go_enter Tryz.func26, Tryz.ntmps26
  go_wp2_with fail
  rw [← hW]
  clear hW
  refine k.mono ?_
  rintro r w1 ⟨rfl, hb1⟩
  have HB1 : Hid (Below W.heap.size W w1) := hb1
  obtain ⟨a0, a1, a2⟩ := HK.out w1 hb1
  clear k hb1
  go_wp2
  go_ret
  exact ⟨rfl, HX.out.trans (HB1.out.mono HX.out.size)⟩
set_option maxHeartbeats 4000000 in
set_option maxRecDepth 200000 in
theorem rshow_pos (ua : Option Addr) (un uc : Nat) (ea : Int) (w : World) (LH LD : List UInt8) (hn0 : ((un : Int) == 0) = false) (hLH : LH.length ≤ 1000000) (hLD : LD.length ≤ 1000)
    (kV : ∀ W, Below w.heap.size w W → Calls Tryz.prog 11 #[.agg #[.bool false, .slice ua un uc, .int .i64 ea]] W fun r w' => r = .returned (.bool true) ∧ Below W.heap.size W w')
    (kH : ∀ W, Below w.heap.size w W → Calls Tryz.prog 65 #[.slice ua un uc] W fun r w' => r = .returned (.string ⟨LH.toArray⟩) ∧ Below W.heap.size W w')
    (kD : ∀ W, Below w.heap.size w W → Calls Tryz.prog 66 #[.int .i64 ea] W fun r w' => r = .returned (.string ⟨LD.toArray⟩) ∧ Below W.heap.size W w') :
    Calls Tryz.prog 26 #[.agg #[.bool false, .slice ua un uc, .int .i64 ea]] w fun r w' => r = .returned (.string ⟨([] ++ LH ++ 112 :: LD).toArray⟩) ∧ Below w.heap.size w w' := by
  obtain ⟨W, hW⟩ : ∃ W, W = w.alloc (.cells #[.bool false, .slice ua un uc, .int .i64 ea] 24) := ⟨_, rfl⟩
  have hBW : Below w.heap.size w W := by rw [hW]; exact (Below.refl _ _).alloc (Nat.le_refl _) _
  have hA : W.heap[w.heap.size]? = some (.cells #[.bool false, .slice ua un uc, .int .i64 ea] 24 (0, 0)) := by rw [hW]; exact heap_alloc_new _ _
  have hsz : W.heap.size = w.heap.size + 1 := by rw [hW]; simp
  have HX : Hid (Below w.heap.size w W) := hBW
  have HK : Hid (∀ w', Below W.heap.size W w' → w'.cell? ⟨w.heap.size, 0, none⟩ = some (.bool false) ∧ w'.cell? ⟨w.heap.size, 1, none⟩ = some (.slice ua un uc) ∧ w'.cell? ⟨w.heap.size, 2, none⟩ = some (.int .i64 ea)) := fun w' hb => (box_cells29 (box_later hA hb (by omega))).1
  have k := kV W hBW
  obtain ⟨sH, hsH⟩ : ∃ s : ByteArray, s = ⟨LH.toArray⟩ := ⟨_, rfl⟩
  obtain ⟨sD, hsD⟩ : ∃ s : ByteArray, s = ⟨LD.toArray⟩ := ⟨_, rfl⟩
  obtain ⟨R1, hR1⟩ : ∃ s : ByteArray, s = ⟨([] ++ LH).toArray⟩ := ⟨_, rfl⟩
  obtain ⟨R2, hR2⟩ : ∃ s : ByteArray, s = ⟨([] ++ LH ++ [112]).toArray⟩ := ⟨_, rfl⟩
  obtain ⟨R3, hR3⟩ : ∃ s : ByteArray, s = ⟨([] ++ LH ++ 112 :: LD).toArray⟩ := ⟨_, rfl⟩
  have hcat1 : ∀ W, (Op.stringOp .add (⟨#[]⟩ : ByteArray) sH).run Tryz.prog W = .ok (.string R1) W := fun W => by
    rw [hR1, ← bytes_cat, hsH]
    exact run_string_add_sum _ _ _ (by simp [ByteArray.size]; omega)
  have hcat2 : ∀ W, (Op.stringOp .add R1 (⟨#[112]⟩ : ByteArray)).run Tryz.prog W = .ok (.string R2) W := fun W => by
    rw [hR2, ← bytes_cat, hR1]
    exact run_string_add_sum _ _ _ (by simp [ByteArray.size]; omega)
  have hcat3 : ∀ W, (Op.stringOp .add R2 sD).run Tryz.prog W = .ok (.string R3) W := fun W => by
    rw [hR3, show [] ++ LH ++ 112 :: LD = [] ++ LH ++ [112] ++ LD by simp, ← bytes_cat, hR2, hsD]
    exact run_string_add_sum _ _ _ (by simp [ByteArray.size]; omega)
  rw [← hR3]
  have HKH : Hid (∀ w4, Below W.heap.size W w4 → Calls Tryz.prog 65 #[.slice ua un uc] w4 fun r w' => r = .returned (.string sH) ∧ Below W.heap.size W w') := (fun w4 h4 => (kH w4 (hBW.trans (h4.mono hBW.size))).mono fun r w' ⟨e1, o2⟩ => ⟨by rw [hsH]; exact e1, h4.trans (o2.mono h4.size)⟩ : ∀ w4, Below W.heap.size W w4 → Calls Tryz.prog 65 #[.slice ua un uc] w4 fun r w' => r = .returned (.string sH) ∧ Below W.heap.size W w')
  have HKD : Hid (∀ w4, Below W.heap.size W w4 → Calls Tryz.prog 66 #[.int .i64 ea] w4 fun r w' => r = .returned (.string sD) ∧ Below W.heap.size W w') := (fun w4 h4 => (kD w4 (hBW.trans (h4.mono hBW.size))).mono fun r w' ⟨e1, o2⟩ => ⟨by rw [hsD]; exact e1, h4.trans (o2.mono h4.size)⟩ : ∀ w4, Below W.heap.size W w4 → Calls Tryz.prog 66 #[.int .i64 ea] w4 fun r w' => r = .returned (.string sD) ∧ Below W.heap.size W w')
  clear kV kH kD hA hsz hBW hR1 hR2 hR3 hsH hsD hLH hLD
  go_enter Tryz.func26, Tryz.ntmps26
  go_wp2_with fail
  rw [← hW]
  clear hW
  refine k.mono ?_
  rintro r w1 ⟨rfl, hb1⟩
  have HB1 : Hid (Below W.heap.size W w1) := hb1
  obtain ⟨a0, a1, a2⟩ := HK.out w1 hb1
  clear k hb1
  have hBR : Below W.heap.size W w1.drew := HB1.out.trans ⟨rfl, rfl, rfl, Nat.le_refl _, fun _ _ => rfl⟩
  have kH' := HKH.out
  have kD' := HKD.out
  go_upto_region 8 with fail
  go_region_held3 (fun w' => w'.cell? ⟨w.heap.size, 0, none⟩ = some (.bool false) ∧ w'.cell? ⟨w.heap.size, 1, none⟩ = some (.slice ua un uc) ∧ w'.cell? ⟨w.heap.size, 2, none⟩ = some (.int .i64 ea)) (first | (with_reducible assumption) | exact ⟨a0, a1, a2⟩ | (refine HK.out _ ?_; with_reducible assumption) | go_keep)
    (first | (go_at_call 65; refine (kH' _ (by first | (with_reducible assumption) | exact hBR)).mono ?_; rintro r w5 ⟨rfl, hb5⟩) | (go_at_call 66; refine (kD' _ (by first | (with_reducible assumption) | exact hBR)).mono ?_; rintro r w6 ⟨rfl, hb6⟩))
  all_goals (have HL5 : Hid (Below W.heap.size W w5) := hb5; have HL6 : Hid (Below W.heap.size W w6) := hb6; clear kH' kD' HK HKH HKD a0 a1 a2 hBR hb5 hb6 hcat1 hcat2 hcat3; go_wp2; go_ret; first | exact ⟨rfl, HX.out.trans (HL6.out.mono HX.out.size)⟩ | exact ⟨rfl, HX.out.trans (HL5.out.mono HX.out.size)⟩)
set_option maxHeartbeats 4000000 in
set_option maxRecDepth 200000 in
theorem rshow_neg (ua : Option Addr) (un uc : Nat) (ea : Int) (w : World) (LH LD : List UInt8) (hn0 : ((un : Int) == 0) = false) (hLH : LH.length ≤ 1000000) (hLD : LD.length ≤ 1000)
    (kV : ∀ W, Below w.heap.size w W → Calls Tryz.prog 11 #[.agg #[.bool true, .slice ua un uc, .int .i64 ea]] W fun r w' => r = .returned (.bool true) ∧ Below W.heap.size W w')
    (kH : ∀ W, Below w.heap.size w W → Calls Tryz.prog 65 #[.slice ua un uc] W fun r w' => r = .returned (.string ⟨LH.toArray⟩) ∧ Below W.heap.size W w')
    (kD : ∀ W, Below w.heap.size w W → Calls Tryz.prog 66 #[.int .i64 ea] W fun r w' => r = .returned (.string ⟨LD.toArray⟩) ∧ Below W.heap.size W w') :
    Calls Tryz.prog 26 #[.agg #[.bool true, .slice ua un uc, .int .i64 ea]] w fun r w' => r = .returned (.string ⟨([45] ++ LH ++ 112 :: LD).toArray⟩) ∧ Below w.heap.size w w' := by
  obtain ⟨W, hW⟩ : ∃ W, W = w.alloc (.cells #[.bool true, .slice ua un uc, .int .i64 ea] 24) := ⟨_, rfl⟩
  have hBW : Below w.heap.size w W := by rw [hW]; exact (Below.refl _ _).alloc (Nat.le_refl _) _
  have hA : W.heap[w.heap.size]? = some (.cells #[.bool true, .slice ua un uc, .int .i64 ea] 24 (0, 0)) := by rw [hW]; exact heap_alloc_new _ _
  have hsz : W.heap.size = w.heap.size + 1 := by rw [hW]; simp
  have HX : Hid (Below w.heap.size w W) := hBW
  have HK : Hid (∀ w', Below W.heap.size W w' → w'.cell? ⟨w.heap.size, 0, none⟩ = some (.bool true) ∧ w'.cell? ⟨w.heap.size, 1, none⟩ = some (.slice ua un uc) ∧ w'.cell? ⟨w.heap.size, 2, none⟩ = some (.int .i64 ea)) := fun w' hb => (box_cells29 (box_later hA hb (by omega))).1
  have k := kV W hBW
  obtain ⟨sH, hsH⟩ : ∃ s : ByteArray, s = ⟨LH.toArray⟩ := ⟨_, rfl⟩
  obtain ⟨sD, hsD⟩ : ∃ s : ByteArray, s = ⟨LD.toArray⟩ := ⟨_, rfl⟩
  obtain ⟨R1, hR1⟩ : ∃ s : ByteArray, s = ⟨([45] ++ LH).toArray⟩ := ⟨_, rfl⟩
  obtain ⟨R2, hR2⟩ : ∃ s : ByteArray, s = ⟨([45] ++ LH ++ [112]).toArray⟩ := ⟨_, rfl⟩
  obtain ⟨R3, hR3⟩ : ∃ s : ByteArray, s = ⟨([45] ++ LH ++ 112 :: LD).toArray⟩ := ⟨_, rfl⟩
  have hcat1 : ∀ W, (Op.stringOp .add (⟨#[45]⟩ : ByteArray) sH).run Tryz.prog W = .ok (.string R1) W := fun W => by
    rw [hR1, ← bytes_cat, hsH]
    exact run_string_add_sum _ _ _ (by simp [ByteArray.size]; omega)
  have hcat2 : ∀ W, (Op.stringOp .add R1 (⟨#[112]⟩ : ByteArray)).run Tryz.prog W = .ok (.string R2) W := fun W => by
    rw [hR2, ← bytes_cat, hR1]
    exact run_string_add_sum _ _ _ (by simp [ByteArray.size]; omega)
  have hcat3 : ∀ W, (Op.stringOp .add R2 sD).run Tryz.prog W = .ok (.string R3) W := fun W => by
    rw [hR3, show [45] ++ LH ++ 112 :: LD = [45] ++ LH ++ [112] ++ LD by simp, ← bytes_cat, hR2, hsD]
    exact run_string_add_sum _ _ _ (by simp [ByteArray.size]; omega)
  rw [← hR3]
  have HKH : Hid (∀ w4, Below W.heap.size W w4 → Calls Tryz.prog 65 #[.slice ua un uc] w4 fun r w' => r = .returned (.string sH) ∧ Below W.heap.size W w') := (fun w4 h4 => (kH w4 (hBW.trans (h4.mono hBW.size))).mono fun r w' ⟨e1, o2⟩ => ⟨by rw [hsH]; exact e1, h4.trans (o2.mono h4.size)⟩ : ∀ w4, Below W.heap.size W w4 → Calls Tryz.prog 65 #[.slice ua un uc] w4 fun r w' => r = .returned (.string sH) ∧ Below W.heap.size W w')
  have HKD : Hid (∀ w4, Below W.heap.size W w4 → Calls Tryz.prog 66 #[.int .i64 ea] w4 fun r w' => r = .returned (.string sD) ∧ Below W.heap.size W w') := (fun w4 h4 => (kD w4 (hBW.trans (h4.mono hBW.size))).mono fun r w' ⟨e1, o2⟩ => ⟨by rw [hsD]; exact e1, h4.trans (o2.mono h4.size)⟩ : ∀ w4, Below W.heap.size W w4 → Calls Tryz.prog 66 #[.int .i64 ea] w4 fun r w' => r = .returned (.string sD) ∧ Below W.heap.size W w')
  clear kV kH kD hA hsz hBW hR1 hR2 hR3 hsH hsD hLH hLD
  go_enter Tryz.func26, Tryz.ntmps26
  go_wp2_with fail
  rw [← hW]
  clear hW
  refine k.mono ?_
  rintro r w1 ⟨rfl, hb1⟩
  have HB1 : Hid (Below W.heap.size W w1) := hb1
  obtain ⟨a0, a1, a2⟩ := HK.out w1 hb1
  clear k hb1
  have hBR : Below W.heap.size W w1.drew := HB1.out.trans ⟨rfl, rfl, rfl, Nat.le_refl _, fun _ _ => rfl⟩
  have kH' := HKH.out
  have kD' := HKD.out
  go_upto_region 8 with fail
  go_region_held3 (fun w' => w'.cell? ⟨w.heap.size, 0, none⟩ = some (.bool true) ∧ w'.cell? ⟨w.heap.size, 1, none⟩ = some (.slice ua un uc) ∧ w'.cell? ⟨w.heap.size, 2, none⟩ = some (.int .i64 ea)) (first | (with_reducible assumption) | exact ⟨a0, a1, a2⟩ | (refine HK.out _ ?_; with_reducible assumption) | go_keep)
    (first | (go_at_call 65; refine (kH' _ (by first | (with_reducible assumption) | exact hBR)).mono ?_; rintro r w5 ⟨rfl, hb5⟩) | (go_at_call 66; refine (kD' _ (by first | (with_reducible assumption) | exact hBR)).mono ?_; rintro r w6 ⟨rfl, hb6⟩))
  all_goals (have HL5 : Hid (Below W.heap.size W w5) := hb5; have HL6 : Hid (Below W.heap.size W w6) := hb6; clear kH' kD' HK HKH HKD a0 a1 a2 hBR hb5 hb6 hcat1 hcat2 hcat3; go_wp2; go_ret; first | exact ⟨rfl, HX.out.trans (HL6.out.mono HX.out.size)⟩ | exact ⟨rfl, HX.out.trans (HL5.out.mono HX.out.size)⟩)
end Go.Proofs.YtmhpicccfaklcaaGreatDoor

/- The document's Neg, Abs. -/
namespace Go.Proofs.YtmhpicccfaklcaaGreatDoor
set_option linter.unusedVariables false
set_option linter.unusedSimpArgs false
open Go.RowKit

set_option maxHeartbeats 4000000 in
set_option maxRecDepth 200000 in
theorem rneg_no (na : Bool) (ua : Option Addr) (un uc : Nat) (ea : Int) (w : World) (kV : ∀ W, Below w.heap.size w W → Calls Tryz.prog 11 #[.agg #[.bool na, .slice ua un uc, .int .i64 ea]] W fun r w' => r = .returned (.bool false) ∧ Below W.heap.size W w') :
    Calls Tryz.prog 14 #[.agg #[.bool na, .slice ua un uc, .int .i64 ea]] w fun r w' => r = .returned (.agg #[.bool false, .slice none 0 0, .int .i64 0]) ∧ Below w.heap.size w w' := by
  obtain ⟨W, hW⟩ : ∃ W, W = (w.alloc (.cells #[.bool na, .slice ua un uc, .int .i64 ea] 24)).alloc (.cells #[.bool false, .slice none 0 0, .int .i64 0] 24) := ⟨_, rfl⟩
  obtain ⟨hA, hB, hsz, hBW⟩ := two29 _ _ hW
  have k := kV W hBW
  have HX : Hid (Below w.heap.size w W ∧ W.heap.size = w.heap.size + 1 + 1 ∧ W.heap[w.heap.size]? = some (.cells #[.bool na, .slice ua un uc, .int .i64 ea] 24 (0, 0)) ∧ W.heap[w.heap.size + 1]? = some (.cells #[.bool false, .slice none 0 0, .int .i64 0] 24 (0, 0))) := ⟨hBW, hsz, hA, hB⟩
  clear kV hA hB hsz hBW
  go_enter Tryz.func14, Tryz.ntmps14
  go_wp2_with fail
  rw [← hW]
  clear hW
  refine k.mono ?_
  rintro r w1 ⟨rfl, hb1⟩
  have HA : Hid (w1.heap[w.heap.size]? = some (.cells #[.bool na, .slice ua un uc, .int .i64 ea] 24 (0, 0))) := box_later HX.out.2.2.1 hb1 (by have := HX.out.2.1; omega)
  have HBx : Hid (w1.heap[w.heap.size + 1]? = some (.cells #[.bool false, .slice none 0 0, .int .i64 0] 24 (0, 0))) := box_later HX.out.2.2.2 hb1 (by have := HX.out.2.1; omega)
  have HB1 : Hid (Below W.heap.size W w1) := hb1
  obtain ⟨⟨a0, a1, a2⟩, a3, a4, a5⟩ := box_cells29 HA.out
  obtain ⟨⟨b0, b1, b2⟩, b3, b4, b5⟩ := box_cells29 HBx.out
  clear k hb1
  go_wp2
  refine bodyPost_ret (results_cell_row rfl _ _ (w.heap.size + 1) 24 #[.bool false, .slice none 0 0, .int .i64 0] (0, 0) _ rfl (store3_29 _ _ _ HBx.out) Tryz.underlying24 rfl Tryz.info24) rfl ?_
  have hq := HX.out
  exact ⟨rfl, below_store3 (hq.1.trans (HB1.out.mono hq.1.size)) (by omega) _ _ _⟩
set_option maxHeartbeats 4000000 in
set_option maxRecDepth 200000 in
theorem rabs_no (na : Bool) (ua : Option Addr) (un uc : Nat) (ea : Int) (w : World) (kV : ∀ W, Below w.heap.size w W → Calls Tryz.prog 11 #[.agg #[.bool na, .slice ua un uc, .int .i64 ea]] W fun r w' => r = .returned (.bool false) ∧ Below W.heap.size W w') :
    Calls Tryz.prog 16 #[.agg #[.bool na, .slice ua un uc, .int .i64 ea]] w fun r w' => r = .returned (.agg #[.bool false, .slice none 0 0, .int .i64 0]) ∧ Below w.heap.size w w' := by
  obtain ⟨W, hW⟩ : ∃ W, W = (w.alloc (.cells #[.bool na, .slice ua un uc, .int .i64 ea] 24)).alloc (.cells #[.bool false, .slice none 0 0, .int .i64 0] 24) := ⟨_, rfl⟩
  obtain ⟨hA, hB, hsz, hBW⟩ := two29 _ _ hW
  have k := kV W hBW
  have HX : Hid (Below w.heap.size w W ∧ W.heap.size = w.heap.size + 1 + 1 ∧ W.heap[w.heap.size]? = some (.cells #[.bool na, .slice ua un uc, .int .i64 ea] 24 (0, 0)) ∧ W.heap[w.heap.size + 1]? = some (.cells #[.bool false, .slice none 0 0, .int .i64 0] 24 (0, 0))) := ⟨hBW, hsz, hA, hB⟩
  clear kV hA hB hsz hBW
  go_enter Tryz.func16, Tryz.ntmps16
  go_wp2_with fail
  rw [← hW]
  clear hW
  refine k.mono ?_
  rintro r w1 ⟨rfl, hb1⟩
  have HA : Hid (w1.heap[w.heap.size]? = some (.cells #[.bool na, .slice ua un uc, .int .i64 ea] 24 (0, 0))) := box_later HX.out.2.2.1 hb1 (by have := HX.out.2.1; omega)
  have HBx : Hid (w1.heap[w.heap.size + 1]? = some (.cells #[.bool false, .slice none 0 0, .int .i64 0] 24 (0, 0))) := box_later HX.out.2.2.2 hb1 (by have := HX.out.2.1; omega)
  have HB1 : Hid (Below W.heap.size W w1) := hb1
  obtain ⟨⟨a0, a1, a2⟩, a3, a4, a5⟩ := box_cells29 HA.out
  obtain ⟨⟨b0, b1, b2⟩, b3, b4, b5⟩ := box_cells29 HBx.out
  clear k hb1
  go_wp2
  refine bodyPost_ret (results_cell_row rfl _ _ (w.heap.size + 1) 24 #[.bool false, .slice none 0 0, .int .i64 0] (0, 0) _ rfl (store3_29 _ _ _ HBx.out) Tryz.underlying24 rfl Tryz.info24) rfl ?_
  have hq := HX.out
  exact ⟨rfl, below_store3 (hq.1.trans (HB1.out.mono hq.1.size)) (by omega) _ _ _⟩
set_option maxHeartbeats 4000000 in
set_option maxRecDepth 200000 in
theorem rneg_1 (na : Bool) (ua : Option Addr) (un uc : Nat) (ea : Int) (w : World) (nc : Bool) (xa : Option Addr) (xn xc z : Nat) (ec : Int) (hAr : ∀ W, Below w.heap.size w W → Arg W xa xn xc z) (kV : ∀ W, Below w.heap.size w W → Calls Tryz.prog 11 #[.agg #[.bool na, .slice ua un uc, .int .i64 ea]] W fun r w' => r = .returned (.bool true) ∧ Below W.heap.size W w')
    (kM : ∀ W, Calls Tryz.prog 50 #[.agg #[.bool na, .slice ua un uc, .int .i64 ea]] W fun r w' => r = .returned (.agg #[.bool nc, .slice xa xn xc, .int .i64 ec]) ∧ Below W.heap.size W w') :
    Calls Tryz.prog 14 #[.agg #[.bool na, .slice ua un uc, .int .i64 ea]] w fun r w' => ∃ ao' cap', r = .returned (.agg #[.bool nc, .slice ao' xn cap', .int .i64 ec]) ∧ Dn w' w.heap.size (.slice ao' xn cap') xn z ∧ Below w.heap.size w w' := by
  have HM : Hid (∀ W, Calls Tryz.prog 50 #[.agg #[.bool na, .slice ua un uc, .int .i64 ea]] W fun r w' => r = .returned (.agg #[.bool nc, .slice xa xn xc, .int .i64 ec]) ∧ Below W.heap.size W w') := kM
  have HAr : Hid (∀ W, Below w.heap.size w W → Arg W xa xn xc z) := hAr
  clear kM hAr
  obtain ⟨W, hW⟩ : ∃ W, W = (w.alloc (.cells #[.bool na, .slice ua un uc, .int .i64 ea] 24)).alloc (.cells #[.bool false, .slice none 0 0, .int .i64 0] 24) := ⟨_, rfl⟩
  obtain ⟨hA, hB, hsz, hBW⟩ := two29 _ _ hW
  have k := kV W hBW
  have HX : Hid (Below w.heap.size w W ∧ W.heap.size = w.heap.size + 1 + 1 ∧ W.heap[w.heap.size]? = some (.cells #[.bool na, .slice ua un uc, .int .i64 ea] 24 (0, 0)) ∧ W.heap[w.heap.size + 1]? = some (.cells #[.bool false, .slice none 0 0, .int .i64 0] 24 (0, 0))) := ⟨hBW, hsz, hA, hB⟩
  clear kV hA hB hsz hBW
  go_enter Tryz.func14, Tryz.ntmps14
  go_wp2_with fail
  rw [← hW]
  clear hW
  refine k.mono ?_
  rintro r w1 ⟨rfl, hb1⟩
  have HA : Hid (w1.heap[w.heap.size]? = some (.cells #[.bool na, .slice ua un uc, .int .i64 ea] 24 (0, 0))) := box_later HX.out.2.2.1 hb1 (by have := HX.out.2.1; omega)
  have HBx : Hid (w1.heap[w.heap.size + 1]? = some (.cells #[.bool false, .slice none 0 0, .int .i64 0] 24 (0, 0))) := box_later HX.out.2.2.2 hb1 (by have := HX.out.2.1; omega)
  have HB1 : Hid (Below W.heap.size W w1) := hb1
  obtain ⟨⟨a0, a1, a2⟩, a3, a4, a5⟩ := box_cells29 HA.out
  obtain ⟨⟨b0, b1, b2⟩, b3, b4, b5⟩ := box_cells29 HBx.out
  clear k hb1
  go_wp2_with fail
  refine (HM.out w1).mono ?_
  rintro r w2 ⟨rfl, hb2⟩
  have HB2 : Hid (Below W.heap.size W w2) := HB1.out.trans (hb2.mono HB1.out.size)
  clear hb2 a0 a1 a2 a3 a4 a5 b0 b1 b2 b3 b4 b5
  go_wp2_with fail
  refine (rtwin (HAr.out w2 (HX.out.1.trans (HB2.out.mono HX.out.1.size)))).mono ?_
  rintro r w3 ⟨ao3, cap3, rfl, hd3, hb3⟩
  have HB3 : Hid (Below W.heap.size W w3) := HB2.out.trans (hb3.mono HB2.out.size)
  have HD3 : Hid (Dn w3 w2.heap.size (.slice ao3 xn cap3) xn z) := hd3
  have HC3 : Hid (w3.heap[w.heap.size + 1]? = some (.cells #[.bool false, .slice none 0 0, .int .i64 0] 24 (0, 0))) := box_later HX.out.2.2.2 HB3.out (by have := HX.out.2.1; omega)
  obtain ⟨⟨x1, x2, x3⟩, x4, x5, x6⟩ := box_cells29 HC3.out
  clear hb3 hd3
  go_wp2
  refine bodyPost_ret (results_cell_row rfl _ _ (w.heap.size + 1) 24 #[.bool nc, .slice ao3 xn cap3, .int .i64 ec] (0, 0) _ rfl (store3_29 _ _ _ HC3.out) Tryz.underlying24 rfl Tryz.info24) rfl ?_
  have hq := HX.out.2.1
  have hq2 := HB2.out.size
  exact ⟨ao3, cap3, rfl, (((HD3.out.store (by omega) _ _).store (by omega) _ _).store (by omega) _ _).mono (by omega), below_store3 (HX.out.1.trans (HB3.out.mono HX.out.1.size)) (by omega) _ _ _⟩
set_option maxHeartbeats 4000000 in
set_option maxRecDepth 200000 in
theorem rabs_1 (na : Bool) (ua : Option Addr) (un uc : Nat) (ea : Int) (w : World) (z : Nat) (hAr : Arg w ua un uc z) (kV : ∀ W, Below w.heap.size w W → Calls Tryz.prog 11 #[.agg #[.bool na, .slice ua un uc, .int .i64 ea]] W fun r w' => r = .returned (.bool true) ∧ Below W.heap.size W w') :
    Calls Tryz.prog 16 #[.agg #[.bool na, .slice ua un uc, .int .i64 ea]] w fun r w' => ∃ ao' cap', r = .returned (.agg #[.bool false, .slice ao' un cap', .int .i64 ea]) ∧ Dn w' w.heap.size (.slice ao' un cap') un z ∧ Below w.heap.size w w' := by
  have HAr : Hid (Arg w ua un uc z) := hAr
  clear hAr
  obtain ⟨W, hW⟩ : ∃ W, W = (w.alloc (.cells #[.bool na, .slice ua un uc, .int .i64 ea] 24)).alloc (.cells #[.bool false, .slice none 0 0, .int .i64 0] 24) := ⟨_, rfl⟩
  obtain ⟨hA, hB, hsz, hBW⟩ := two29 _ _ hW
  have k := kV W hBW
  have HX : Hid (Below w.heap.size w W ∧ W.heap.size = w.heap.size + 1 + 1 ∧ W.heap[w.heap.size]? = some (.cells #[.bool na, .slice ua un uc, .int .i64 ea] 24 (0, 0)) ∧ W.heap[w.heap.size + 1]? = some (.cells #[.bool false, .slice none 0 0, .int .i64 0] 24 (0, 0))) := ⟨hBW, hsz, hA, hB⟩
  clear kV hA hB hsz hBW
  go_enter Tryz.func16, Tryz.ntmps16
  go_wp2_with fail
  rw [← hW]
  clear hW
  refine k.mono ?_
  rintro r w1 ⟨rfl, hb1⟩
  have HA : Hid (w1.heap[w.heap.size]? = some (.cells #[.bool na, .slice ua un uc, .int .i64 ea] 24 (0, 0))) := box_later HX.out.2.2.1 hb1 (by have := HX.out.2.1; omega)
  have HBx : Hid (w1.heap[w.heap.size + 1]? = some (.cells #[.bool false, .slice none 0 0, .int .i64 0] 24 (0, 0))) := box_later HX.out.2.2.2 hb1 (by have := HX.out.2.1; omega)
  have HB1 : Hid (Below W.heap.size W w1) := hb1
  obtain ⟨⟨a0, a1, a2⟩, a3, a4, a5⟩ := box_cells29 HA.out
  obtain ⟨⟨b0, b1, b2⟩, b3, b4, b5⟩ := box_cells29 HBx.out
  clear k hb1
  have hBs : Below w.heap.size w (w1.setCell ⟨w.heap.size, 0, none⟩ (.bool false)) := (HX.out.1.trans (HB1.out.mono HX.out.1.size)).setCell (Nat.le_refl _) _
  have hBt : (w1.setCell ⟨w.heap.size, 0, none⟩ (.bool false)).heap[w.heap.size + 1]? = some (.cells #[.bool false, .slice none 0 0, .int .i64 0] 24 (0, 0)) := by rw [setCell_block _ _ (by omega)]; exact HBx.out
  have hsz : (w1.setCell ⟨w.heap.size, 0, none⟩ (.bool false)).heap.size = w1.heap.size := by simp [World.setCell]
  have HS : Hid (Below w.heap.size w (w1.setCell ⟨w.heap.size, 0, none⟩ (.bool false)) ∧ (w1.setCell ⟨w.heap.size, 0, none⟩ (.bool false)).heap[w.heap.size + 1]? = some (.cells #[.bool false, .slice none 0 0, .int .i64 0] 24 (0, 0)) ∧ w.heap.size + 1 < (w1.setCell ⟨w.heap.size, 0, none⟩ (.bool false)).heap.size) := ⟨hBs, hBt, by have := HB1.out.size; have := HX.out.2.1; omega⟩
  clear hBs hBt hsz
  go_wp2_with fail
  refine (rtwin (HAr.out.later HS.out.1)).mono ?_
  generalize w1.setCell ⟨w.heap.size, 0, none⟩ (.bool false) = w2 at *
  rintro r w3 ⟨ao3, cap3, rfl, hd3, hb3⟩
  have HB3 : Hid (Below w2.heap.size w2 w3) := hb3
  have HD3 : Hid (Dn w3 w2.heap.size (.slice ao3 un cap3) un z) := hd3
  have HC3 : Hid (w3.heap[w.heap.size + 1]? = some (.cells #[.bool false, .slice none 0 0, .int .i64 0] 24 (0, 0))) := box_later HS.out.2.1 HB3.out HS.out.2.2
  obtain ⟨⟨x1, x2, x3⟩, x4, x5, x6⟩ := box_cells29 HC3.out
  clear hb3 hd3 a0 a1 a2 a3 a4 a5 b0 b1 b2 b3 b4 b5
  go_wp2
  refine bodyPost_ret (results_cell_row rfl _ _ (w.heap.size + 1) 24 #[.bool false, .slice ao3 un cap3, .int .i64 ea] (0, 0) _ rfl (store3_29 _ _ _ HC3.out) Tryz.underlying24 rfl Tryz.info24) rfl ?_
  have hq2 := HS.out.2.2
  exact ⟨ao3, cap3, rfl, (((HD3.out.store (by omega) _ _).store (by omega) _ _).store (by omega) _ _).mono (by omega), below_store3 (HS.out.1.trans (HB3.out.mono HS.out.1.size)) (by omega) _ _ _⟩
end Go.Proofs.YtmhpicccfaklcaaGreatDoor

/- DyadAsks: the calls of both sides joined. -/
namespace Go.Proofs.YtmhpicccfaklcaaGreatDoor
set_option linter.unusedVariables false
set_option linter.unusedSimpArgs false
open Go.RowKit

set_option maxHeartbeats 4000000 in
set_option maxRecDepth 200000 in
theorem r42_0 (ao : Option Addr) (cap : Nat) (w : World) : Calls Tryz.prog 46 #[.slice ao 0 cap] w fun r w' => r = .returned (.int .i64 0) ∧ Below w.heap.size w w' := by
  go_enter Tryz.func46, Tryz.ntmps46
  go_wp2
  go_ret
  exact ⟨rfl, Below.refl _ _⟩
set_option maxHeartbeats 4000000 in
set_option maxRecDepth 200000 in
theorem rhigh_0 (na : Bool) (ao : Option Addr) (cap : Nat) (e : Int) (w : World) : Calls Tryz.prog 56 #[.agg #[.bool na, .slice ao 0 cap, .int .i64 e]] w fun r w' => r = .returned (.int .i64 0) ∧ Below w.heap.size w w' := by
  obtain ⟨W, hW⟩ : ∃ W, W = w.alloc (.cells #[.bool na, .slice ao 0 cap, .int .i64 e] 24) := ⟨_, rfl⟩
  have HB : Hid (Below w.heap.size w W) := (by rw [hW]; exact (Below.refl _ _).alloc (Nat.le_refl _) _ : Below w.heap.size w W)
  go_enter Tryz.func56, Tryz.ntmps56
  go_wp2
  go_ret
  exact ⟨rfl, hW ▸ HB.out⟩

/-- an answer: a number that keeps P -/
def OutN (W : World) (P : World → Value → Prop) (r : Ending) (w' : World) : Prop := ∃ s ao n cap e, r = .returned (.agg #[.bool s, .slice ao n cap, .int .i64 e]) ∧ P w' (.agg #[.bool s, .slice ao n cap, .int .i64 e]) ∧ Below W.heap.size W w'
theorem is_at {W : World} {pa : Option Addr} {n pc x : Nat} (h : Is W (.slice pa n pc) x) : At W pa (dlen x) x := by
  obtain ⟨ao, cap, e, -, -, a⟩ := h
  injection e with e1 e2 e3
  rw [e1]; exact a
/-- both sides' numbers, and whether they may be -/
structure Sides (w : World) (na : Bool) (ua : Option Addr) (un uc x : Nat) (ea : Int) (V : Bool) : Prop where
  ok : okN na un x ea = V
  arg : Arg w ua un uc x
  len : dlen x ≤ un
theorem Sides.valid {w : World} {na : Bool} {ua : Option Addr} {un uc x : Nat} {ea : Int} {V : Bool} (h : Sides w na ua un uc x ea V) {W : World} (hW : Below w.heap.size w W) : ∀ W', Below W.heap.size W W' → Calls Tryz.prog 11 #[.agg #[.bool na, .slice ua un uc, .int .i64 ea]] W' fun r w' => r = .returned (.bool V) ∧ Below W'.heap.size W' w' := fun W' hW' => by
  have := rvalid (s := na) (e := ea) ((h.arg.later hW).later hW')
  rw [h.ok] at this
  exact this
theorem Sides.maybe {w : World} {na : Bool} {ua : Option Addr} {un uc x : Nat} {ea : Int} {V : Bool} (h : Sides w na ua un uc x ea V) {W : World} {pa : Option Addr} {pc : Nat} (p2 : At W pa un x) : ∀ W' g, Below W.heap.size W W' → W'.heap[g]? = some (.cells #[.bool na, .slice pa un pc, .int .i64 ea] 25 (0, 0)) → Calls Tryz.prog 47 #[.slice (some ⟨g, 0, none⟩) 1 1] W' fun r w' => r = .returned (.bool V) ∧ Below W'.heap.size W' w' := fun W' g hW' hg => by
  have := maybe1_at hg (p2.later hW') h.arg.small
  rw [h.ok] at this
  exact this
/-- what the program holds -/
theorem PI.open {na : Bool} {un x : Nat} {ea : Int} {W : World} {X : Value} (hX : PI na un x ea W X) : ∃ pa pc, X = .agg #[.bool na, .slice pa un pc, .int .i64 ea] ∧ At W pa un x := by
  obtain ⟨v, b, rfl, d1⟩ := hX
  obtain ⟨pa, pc, rfl, p1, p2⟩ := d1.at
  exact ⟨pa, pc, rfl, p2⟩
theorem PI.is {na : Bool} {x : Nat} {ea : Int} {W : World} {X : Value} (hX : PI na (dlen x) x ea W X) : ∃ pa pc, X = .agg #[.bool na, .slice pa (dlen x) pc, .int .i64 ea] ∧ Is W (.slice pa (dlen x) pc) x := by
  obtain ⟨v, b, rfl, d1⟩ := hX
  obtain ⟨pa, pc, e1, i1⟩ := dn_pn (s := na) (e := ea) d1
  exact ⟨pa, pc, e1, i1⟩

theorem join_Valid {w : World} {na : Bool} {ua : Option Addr} {un uc x : Nat} {ea : Int} {V : Bool} (h : Sides w na ua un uc x ea V) :
    (∀ W X, Below w.heap.size w W → PI na un x ea W X → Calls Tryz.prog 10 #[X] W fun r w' => r = .returned (.bool V) ∧ Below W.heap.size W w') ∧
    (∀ W, Below w.heap.size w W → Calls Tryz.prog 11 #[.agg #[.bool na, .slice ua un uc, .int .i64 ea]] W fun r w' => r = .returned (.bool V) ∧ Below W.heap.size W w') := by
  refine ⟨fun W X hW hX => ?_, fun W hW => h.valid hW W (Below.refl _ _)⟩
  obtain ⟨pa, pc, rfl, p2⟩ := hX.open
  refine (c18 p2 h.arg.small).mono ?_
  rintro r w' ⟨rfl, rfl⟩
  rw [h.ok]
  exact ⟨rfl, (Below.refl _ _).alloc (Nat.le_refl _) _⟩
theorem join_Sign {w : World} {na : Bool} {ua : Option Addr} {un uc x : Nat} {ea : Int} {V : Bool} (h : Sides w na ua un uc x ea V) : ∃ c : Int,
    (∀ W X, Below w.heap.size w W → PI na un x ea W X → Calls Tryz.prog 17 #[X] W fun r w' => r = .returned (.int .i64 c) ∧ Below W.heap.size W w') ∧
    (∀ W, Below w.heap.size w W → Calls Tryz.prog 18 #[.agg #[.bool na, .slice ua un uc, .int .i64 ea]] W fun r w' => r = .returned (.int .i64 c) ∧ Below W.heap.size W w') := by
  have hsm := h.arg.small
  cases V
  · refine ⟨0, fun W X hW hX => ?_, fun W hW => rsign_no na ua un uc ea W (h.valid hW)⟩
    obtain ⟨pa, pc, rfl, p2⟩ := hX.open
    exact pSign_no na pa un pc ea W (h.maybe p2)
  · obtain rfl := okN_len h.len h.ok
    refine ⟨sgI na (dlen x), fun W X hW hX => ?_, fun W hW => rsign_1 na ua _ uc ea W _ (h.valid hW) (fun W' _ => rsgn hsm)⟩
    obtain ⟨pa, pc, rfl, i1⟩ := hX.is
    exact sign_ok i1 hsm h.ok
theorem join_Bits {w : World} {na : Bool} {ua : Option Addr} {un uc x : Nat} {ea : Int} {V : Bool} (h : Sides w na ua un uc x ea V) : ∃ c : Int,
    (∀ W X, Below w.heap.size w W → PI na un x ea W X → Calls Tryz.prog 19 #[X] W fun r w' => r = .returned (.int .i64 c) ∧ Below W.heap.size W w') ∧
    (∀ W, Below w.heap.size w W → Calls Tryz.prog 20 #[.agg #[.bool na, .slice ua un uc, .int .i64 ea]] W fun r w' => r = .returned (.int .i64 c) ∧ Below W.heap.size W w') := by
  have hsm := h.arg.small
  cases V
  · refine ⟨0, fun W X hW hX => ?_, fun W hW => rbits_no na ua un uc ea W (h.valid hW)⟩
    obtain ⟨pa, pc, rfl, p2⟩ := hX.open
    exact pBits_no na pa un pc ea W (h.maybe p2)
  · obtain rfl := okN_len h.len h.ok
    have f1 := Ok.facts (t := (na, x, ea)) h.ok
    simp only at f1
    refine ⟨(bl x : Nat), fun W X hW hX => ?_, fun W hW => rbits_1 na ua _ uc ea W _ (h.valid hW) (fun W' hW' => ?_)⟩
    · obtain ⟨pa, pc, rfl, i1⟩ := hX.is
      refine pBits_1 na pa _ pc ea _ W (h.maybe (is_at i1)) (fun W' hW' => (c74 (i1.later hW') hsm).mono fun r w' ⟨e1, e2⟩ => ⟨e1, by rw [e2]; exact Below.refl _ _⟩)
    · by_cases x0 : x = 0
      · subst x0
        rw [dlen_zero]
        exact r42_0 ua uc W'
      · obtain ⟨b, o, h1, h2⟩ := ((h.arg.later hW).later hW').at_
        have hl := dlen_pos x0
        obtain rfl := h1 (by omega)
        exact (r42 b o _ uc x W' (by omega) (by omega) rfl h2).mono fun r w' ⟨e1, e2⟩ => ⟨e1, by rw [e2]; exact Below.refl _ _⟩
theorem join_Top {w : World} {na : Bool} {ua : Option Addr} {un uc x : Nat} {ea : Int} {V : Bool} (h : Sides w na ua un uc x ea V) : ∃ c : Int,
    (∀ W X, Below w.heap.size w W → PI na un x ea W X → Calls Tryz.prog 21 #[X] W fun r w' => r = .returned (.int .i64 c) ∧ Below W.heap.size W w') ∧
    (∀ W, Below w.heap.size w W → Calls Tryz.prog 22 #[.agg #[.bool na, .slice ua un uc, .int .i64 ea]] W fun r w' => r = .returned (.int .i64 c) ∧ Below W.heap.size W w') := by
  have hsm := h.arg.small
  cases V
  · refine ⟨0, fun W X hW hX => ?_, fun W hW => rtop_no na ua un uc ea W (h.valid hW)⟩
    obtain ⟨pa, pc, rfl, p2⟩ := hX.open
    exact pTop_no na pa un pc ea W (h.maybe p2)
  · obtain rfl := okN_len h.len h.ok
    have f1 := Ok.facts (t := (na, x, ea)) h.ok
    simp only at f1
    refine ⟨(bl x : Nat) + ea, fun W X hW hX => ?_, fun W hW => rtop_1 na ua _ uc ea W _ (h.valid hW) (fun W' hW' => ?_)⟩
    · obtain ⟨pa, pc, rfl, i1⟩ := hX.is
      exact pTop_1 na pa _ pc ea _ W (h.maybe (is_at i1)) (fun W' hW' => c75 (i1.later hW') (by omega) (by omega) (by omega))
    · by_cases x0 : x = 0
      · have e0 := f1.2.2.2.1 x0
        simp only [Prod.mk.injEq] at e0
        obtain ⟨rfl, -, rfl⟩ := e0
        subst x0
        rw [dlen_zero]
        exact rhigh_0 false ua uc 0 W'
      · exact rhigh ((h.arg.later hW).later hW').at_ x0 (by omega) (by omega)
theorem join_Neg {w : World} {na : Bool} {ua : Option Addr} {un uc x : Nat} {ea : Int} {V : Bool} (h : Sides w na ua un uc x ea V) : ∃ t, dlen t.2.1 ≤ 35184372088832 ∧
    (∀ W X, Below w.heap.size w W → PI na un x ea W X → Calls Tryz.prog 13 #[X] W fun r w' => OutN W (fun W A => PN W A t) r w') ∧
    (∀ W, Below w.heap.size w W → Calls Tryz.prog 14 #[.agg #[.bool na, .slice ua un uc, .int .i64 ea]] W fun r w' => OutN W (fun W A => ∃ b, RN W b A t) r w') := by
  have hsm := h.arg.small
  cases V
  · refine ⟨(false, 0, 0), by rw [dlen_zero]; omega, fun W X hW hX => ?_, fun W hW => ?_⟩
    · obtain ⟨pa, pc, rfl, p2⟩ := hX.open
      refine (neg_no na pa un pc ea W (h.maybe p2)).mono ?_
      rintro r w' ⟨rfl, hb⟩
      exact ⟨_, _, _, _, _, rfl, pn_nil w', hb⟩
    · refine (rneg_no na ua un uc ea W (h.valid hW)).mono ?_
      rintro r w' ⟨rfl, hb⟩
      exact ⟨_, _, _, _, _, rfl, ⟨0, rn_nil w' 0⟩, hb⟩
  · obtain rfl := okN_len h.len h.ok
    have f1 := Ok.facts (t := (na, x, ea)) h.ok
    simp only at f1
    refine ⟨(!na && decide (0 < dlen x), x, ea), hsm, fun W X hW hX => ?_, fun W hW => ?_⟩
    · obtain ⟨pa, pc, rfl, i1⟩ := hX.is
      refine (negw_ok i1 (by omega) h.ok).mono ?_
      rintro r w' ⟨v', rfl, ho, hb⟩
      obtain ⟨ao', cap', rfl, o1, o2, o3⟩ := ho.is
      exact ⟨_, _, _, _, _, rfl, ⟨ao', cap', rfl, ao', cap', rfl, o1, o2, o3⟩, hb⟩
    · by_cases x0 : x = 0
      · have e0 := f1.2.2.2.1 x0
        simp only [Prod.mk.injEq] at e0
        obtain ⟨rfl, -, rfl⟩ := e0
        subst x0
        have kV' := h.valid hW
        rw [dlen_zero] at kV' ⊢
        refine (rneg_1 false ua 0 uc 0 W false none 0 0 0 0 (fun W' _ => ⟨fun _ => .inr ⟨rfl, rfl⟩, ⟨0, 0, fun h => absurd h (by omega), fun i hi => absurd hi (by omega)⟩, Nat.le_refl _, by omega⟩) kV' (fun W' => rminus_0 false ua uc 0 W')).mono ?_
        rintro r w' ⟨ao', cap', rfl, hd, hb⟩
        refine ⟨_, _, _, _, _, rfl, ⟨0, ao', cap', by simp [dlen_zero], fun _ _ _ => Nat.zero_le _, 0, 0, fun h => by simp [dlen_zero] at h, fun i hi => by simp [dlen_zero] at hi⟩, hb⟩
      · have hl : 0 < dlen x := by have := dlen_pos x0; omega
        rw [decide_eq_true hl, Bool.and_true]
        refine (rneg_1 na ua _ uc ea W (!na) ua _ uc x ea (fun W' hW' => (h.arg.later hW).later hW') (h.valid hW) (fun W' => rminus_1 na ua _ uc ea W' hsm (len_ne (n := 0) x0))).mono ?_
        rintro r w' ⟨ao', cap', rfl, hd, hb⟩
        exact ⟨_, _, _, _, _, rfl, ⟨0, ao', cap', rfl, fun _ _ _ => Nat.zero_le _, hd.at_⟩, hb⟩
theorem join_Abs {w : World} {na : Bool} {ua : Option Addr} {un uc x : Nat} {ea : Int} {V : Bool} (h : Sides w na ua un uc x ea V) : ∃ t, dlen t.2.1 ≤ 35184372088832 ∧
    (∀ W X, Below w.heap.size w W → PI na un x ea W X → Calls Tryz.prog 15 #[X] W fun r w' => OutN W (fun W A => PN W A t) r w') ∧
    (∀ W, Below w.heap.size w W → Calls Tryz.prog 16 #[.agg #[.bool na, .slice ua un uc, .int .i64 ea]] W fun r w' => OutN W (fun W A => ∃ b, RN W b A t) r w') := by
  have hsm := h.arg.small
  cases V
  · refine ⟨(false, 0, 0), by rw [dlen_zero]; omega, fun W X hW hX => ?_, fun W hW => ?_⟩
    · obtain ⟨pa, pc, rfl, p2⟩ := hX.open
      refine (abs_no na pa un pc ea W (h.maybe p2)).mono ?_
      rintro r w' ⟨rfl, hb⟩
      exact ⟨_, _, _, _, _, rfl, pn_nil w', hb⟩
    · refine (rabs_no na ua un uc ea W (h.valid hW)).mono ?_
      rintro r w' ⟨rfl, hb⟩
      exact ⟨_, _, _, _, _, rfl, ⟨0, rn_nil w' 0⟩, hb⟩
  · obtain rfl := okN_len h.len h.ok
    have f1 := Ok.facts (t := (na, x, ea)) h.ok
    simp only at f1
    refine ⟨(false, x, ea), hsm, fun W X hW hX => ?_, fun W hW => ?_⟩
    · obtain ⟨pa, pc, rfl, i1⟩ := hX.is
      refine (abs_ok i1 (by omega) h.ok).mono ?_
      rintro r w' ⟨v', rfl, ho, hb⟩
      obtain ⟨ao', cap', rfl, o1, o2, o3⟩ := ho.is
      exact ⟨_, _, _, _, _, rfl, ⟨ao', cap', rfl, ao', cap', rfl, o1, o2, o3⟩, hb⟩
    · refine (rabs_1 na ua _ uc ea W x (h.arg.later hW) (h.valid hW)).mono ?_
      rintro r w' ⟨ao', cap', rfl, hd, hb⟩
      exact ⟨_, _, _, _, _, rfl, ⟨0, ao', cap', rfl, fun _ _ _ => Nat.zero_le _, hd.at_⟩, hb⟩
theorem join_Cmp {w : World} {na nb : Bool} {ua va : Option Addr} {un uc x vn vc y : Nat} {ea eb : Int} {V V2 : Bool} (h : Sides w na ua un uc x ea V) (g : Sides w nb va vn vc y eb V2) : ∃ c : Int,
    (∀ W X Y, Below w.heap.size w W → PI na un x ea W X → PI nb vn y eb W Y → Calls Tryz.prog 23 #[X, Y] W fun r w' => r = .returned (.int .i64 c) ∧ Below W.heap.size W w') ∧
    (∀ W, Below w.heap.size w W → Calls Tryz.prog 24 #[.agg #[.bool na, .slice ua un uc, .int .i64 ea], .agg #[.bool nb, .slice va vn vc, .int .i64 eb]] W fun r w' => r = .returned (.int .i64 c) ∧ Below W.heap.size W w') := by
  have hsm := h.arg.small
  have gsm := g.arg.small
  have no : (V && V2) = false → ∀ W X Y, Below w.heap.size w W → PI na un x ea W X → PI nb vn y eb W Y → Calls Tryz.prog 23 #[X, Y] W fun r w' => r = .returned (.int .i64 0) ∧ Below W.heap.size W w' := by
    intro hv W X Y hW hX hY
    obtain ⟨pa, pc, rfl, p2⟩ := hX.open
    obtain ⟨qa, qc, rfl, q2⟩ := hY.open
    refine pCmp_no na nb pa qa un pc vn qc ea eb W (fun W' g' hW' hg => ?_)
    have := maybe2_at hg (p2.later hW') (q2.later hW') hsm gsm
    rw [h.ok, g.ok, hv] at this
    exact this
  cases V
  · exact ⟨0, no rfl, fun W hW => rcmp_no1 na nb ua va un uc vn vc ea eb 0 W (h.valid hW)⟩
  · cases V2
    · exact ⟨0, no rfl, fun W hW => rcmp_no2 na nb ua va un uc vn vc ea eb 0 W (h.valid hW) (g.valid hW)⟩
    · obtain rfl := okN_len h.len h.ok
      obtain rfl := okN_len g.len g.ok
      have f1 := Ok.facts (t := (na, x, ea)) h.ok
      have f2 := Ok.facts (t := (nb, y, eb)) g.ok
      simp only at f1 f2
      refine ⟨ordN na x ea nb y eb, fun W X Y hW hX hY => ?_, fun W hW => rcmp_1 na nb ua va _ uc _ vc ea eb _ W (h.valid hW) (g.valid hW) (fun W' hW' => rorder ((h.arg.later hW).later hW') ((g.arg.later hW).later hW') (by omega) (by omega) (by omega) (by omega))⟩
      obtain ⟨pa, pc, rfl, i1⟩ := hX.is
      obtain ⟨qa, qc, rfl, i2⟩ := hY.is
      exact cmp_ok i1 i2 (by omega) (by omega) (by omega) (by omega) h.ok g.ok
theorem itoa_len {e : Int} (h : -100000000 < e ∧ e < 100000000) : (Lib.itoa e).length ≤ 1000 := by
  unfold Lib.itoa
  split
  · have := decDigits_len 8 e.natAbs (by omega)
    rw [List.length_cons]; omega
  · have := decDigits_len 8 e.toNat (by omega)
    omega
theorem join_Show {w : World} {na : Bool} {ua : Option Addr} {un uc x : Nat} {ea : Int} {V : Bool} (hI : Ie.Tab w) (h10 : Tab10 w) (h : Sides w na ua un uc x ea V) : ∃ S : ByteArray,
    (∀ W X, Below w.heap.size w W → PI na un x ea W X → Calls Tryz.prog 25 #[X] W fun r w' => r = .returned (.string S) ∧ Below W.heap.size W w') ∧
    (∀ W, Below w.heap.size w W → Calls Tryz.prog 26 #[.agg #[.bool na, .slice ua un uc, .int .i64 ea]] W fun r w' => r = .returned (.string S) ∧ Below W.heap.size W w') := by
  have hsm := h.arg.small
  cases V
  · refine ⟨⟨#[]⟩, fun W X hW hX => ?_, fun W hW => rshow_no na ua un uc ea W (h.valid hW)⟩
    obtain ⟨pa, pc, rfl, p2⟩ := hX.open
    exact pShow_no na pa un pc ea W (h.maybe p2)
  · obtain rfl := okN_len h.len h.ok
    have f1 := Ok.facts (t := (na, x, ea)) h.ok
    simp only at f1
    by_cases x0 : x = 0
    · refine ⟨⟨#[48, 112, 48]⟩, fun W X hW hX => ?_, fun W hW => rshow_0 na ua _ uc ea W (by rw [x0, dlen_zero]) (h.valid hW)⟩
      obtain ⟨pa, pc, rfl, p2⟩ := hX.open
      have k := h.maybe (pc := pc) p2
      have e0 : dlen x = 0 := by rw [x0, dlen_zero]
      rw [e0] at k ⊢
      exact pShow_0 na pa pc ea W k
    · have hl := dlen_pos x0
      have hT := itoa_len (e := ea) (by omega)
      have hH : (hexN x).length ≤ 1000000 := by
        have := hexN_dlen (x := x) (n := dlen x) (Nat.le_refl _) 0
        rw [Nat.pow_zero, Nat.div_one] at this
        omega
      have kT : ∀ W, Below w.heap.size w W → ∀ W', Below W.heap.size W W' → Calls Tryz.prog 63 #[.int .i64 ea] W' fun e w' => e = .returned (.string ⟨(Lib.itoa ea).toArray⟩) ∧ Below W'.heap.size W' w' := fun W hW W' hW' => by
        refine (Tryz.strconv_Itoa ea (by omega) (by omega) W' ((h10.later hW).later hW')).mono ?_
        rintro r w' ⟨rfl, k, os, rfl⟩
        exact ⟨rfl, below_more W' k os⟩
      have kP : ∀ W X, Below w.heap.size w W → PI na (dlen x) x ea W X → ∃ b o pc m, dlen x = m + 1 ∧ X = .agg #[.bool na, .slice (some ⟨b, o, none⟩) (m + 1) pc, .int .i64 ea] ∧ m + 1 ≤ pc ∧ (∀ i, i < m + 1 → W.cell? ⟨b, o + i, none⟩ = some (.int .u32 (dg x i : Nat))) ∧ (∀ W' g, Below W.heap.size W W' → W'.heap[g]? = some (.cells #[.bool na, .slice (some ⟨b, o, none⟩) (m + 1) pc, .int .i64 ea] 25 (0, 0)) → Calls Tryz.prog 47 #[.slice (some ⟨g, 0, none⟩) 1 1] W' fun r w' => r = .returned (.bool true) ∧ Below W'.heap.size W' w') := by
        intro W X hW hX
        obtain ⟨pa, pc, rfl, i1⟩ := hX.is
        have k := h.maybe (pc := pc) (is_at i1)
        obtain ⟨ao, cap, e1, o1, -, b, o, h3, h4⟩ := i1
        injection e1 with e1 e2 e3
        subst e1; subst e3
        obtain rfl := h3 (by omega)
        obtain ⟨m, hm⟩ : ∃ m, dlen x = m + 1 := ⟨dlen (x / B), hl⟩
        rw [hm] at k o1 h4 ⊢
        exact ⟨b, o, _, m, rfl, rfl, o1, h4, k⟩
      cases na
      · refine ⟨_, fun W X hW hX => ?_, fun W hW => rshow_pos ua _ uc ea W (hexN x) (Lib.itoa ea) (len_ne (n := 0) x0) hH hT (h.valid hW) (fun W' hW' => rhex ((h.arg.later hW).later hW').at_ x0 (by omega)) (fun W' hW' => rdecimal ea W' (by omega))⟩
        obtain ⟨b, o, pc, m, hm, rfl, h1, h2, h3⟩ := kP W X hW hX
        exact show_pos b o pc m x ea _ W h2 hm (by omega) hT h1 (Tab.later hI hW) h3 (kT W hW)
      · refine ⟨_, fun W X hW hX => ?_, fun W hW => rshow_neg ua _ uc ea W (hexN x) (Lib.itoa ea) (len_ne (n := 0) x0) hH hT (h.valid hW) (fun W' hW' => rhex ((h.arg.later hW).later hW').at_ x0 (by omega)) (fun W' hW' => rdecimal ea W' (by omega))⟩
        obtain ⟨b, o, pc, m, hm, rfl, h1, h2, h3⟩ := kP W X hW hX
        exact show_neg b o pc m x ea _ W h2 hm (by omega) hT h1 (Tab.later hI hW) h3 (kT W hW)
end Go.Proofs.YtmhpicccfaklcaaGreatDoor

/- DyadOrder. -/
namespace Go.Proofs.YtmhpicccfaklcaaGreatDoor
set_option linter.unusedVariables false
set_option linter.unusedSimpArgs false
open Go.RowKit Go.Fl64

theorem lt_false {a b : Nat} (h : stp a ≤ stp b) : lt b a = false := by
  unfold lt
  rw [decide_eq_false (by omega), Bool.and_false]
/-- what is rounded of two numbers is in their order -/
theorem ord_round {K : Nat} (hK : 70000 ≤ K) {s t : Bool} {x y : Nat} {e f m : Int} (hx : Ok (s, x, e)) (hy : Ok (t, y, f)) (hm : 1 ≤ m ∧ m ≤ 3) (h : vz K s x e ≤ vz K t y f) : stp (tfF s true x e m) ≤ stp (tfF t true y f m) := by
  have f1 := hx.facts
  have f2 := hy.facts
  simp only at f1 f2
  rw [tf_bdy hm, tf_bdy hm, (stp_sig (bdy_le _ _ _)).1, (stp_sig (bdy_le _ _ _)).1]
  rw [vz_VA, vz_VA] at h
  have z1 : VA K x e = 0 → x = 0 := fun h0 => Decidable.byContradiction fun hne => by have := VA_ne (K := K) (e := e) hne; omega
  have z2 : VA K y f = 0 → y = 0 := fun h0 => Decidable.byContradiction fun hne => by have := VA_ne (K := K) (e := f) hne; omega
  cases s
  · cases t
    · simp only [sv] at h ⊢
      have := bdy_mono hK f1.2.1 f2.2.1 (wyN_ways false m) (show VA K x e ≤ VA K y f by simpa using h)
      simpa using this
    · simp only [sv] at h
      have h1 : VA K y f = 0 := by simp at h; omega
      have := f2.2.2.2.1 (z2 h1)
      simp at this
  · cases t
    · have h1 : (0 : Int) ≤ ((bdy x e (wyN true m) : Nat) : Int) := Int.natCast_nonneg _
      have h2 : (0 : Int) ≤ ((bdy y f (wyN false m) : Nat) : Int) := Int.natCast_nonneg _
      show -((bdy x e (wyN true m) : Nat) : Int) ≤ ((bdy y f (wyN false m) : Nat) : Int)
      omega
    · simp only [sv] at h ⊢
      have := bdy_mono hK f2.2.1 f1.2.1 (wyN_ways true m) (show VA K y f ≤ VA K x e by simp at h; omega)
      simp
      exact_mod_cast this
theorem order_modes {K : Nat} (hK : 70000 ≤ K) {s : Bool} {x : Nat} {e : Int} (hx : Ok (s, x, e)) : stp (tfF s true x e 1) ≤ stp (tfF s true x e 2) ∧ stp (tfF s true x e 2) ≤ stp (tfF s true x e 3) ∧
    (mag (tfF s true x e 1) < 9218868437227405312 → vz K (nN (tfF s true x e 1)) (nM (tfF s true x e 1)) (Ie.sE (tfF s true x e 1)) ≤ vz K s x e) ∧
    (mag (tfF s true x e 3) < 9218868437227405312 → vz K s x e ≤ vz K (nN (tfF s true x e 3)) (nM (tfF s true x e 3)) (Ie.sE (tfF s true x e 3))) ∧
    (stp (tfF s true x e 1) = stp (tfF s true x e 3) → mag (tfF s true x e 1) < 9218868437227405312 → vz K (nN (tfF s true x e 1)) (nM (tfF s true x e 1)) (Ie.sE (tfF s true x e 1)) = vz K s x e) := by
  have f1 := hx.facts
  simp only at f1
  obtain ⟨o1, o2, o3, o4, o5, o6⟩ := bdy_order hK (x := x) (e := e) f1.2.1
  have w1 : tfF s true x e 1 = sig s (bdy x e (if s then 2 else 0)) := by rw [tf_bdy (by omega)]; cases s <;> rfl
  have w2 : tfF s true x e 2 = sig s (bdy x e 1) := by rw [tf_bdy (by omega)]; rfl
  have w3 : tfF s true x e 3 = sig s (bdy x e (if s then 0 else 2)) := by rw [tf_bdy (by omega)]; cases s <;> rfl
  have s1 := stp_sig (s := s) (bdy_le x e (if s then 2 else 0))
  have s2 := stp_sig (s := s) (bdy_le x e 1)
  have s3 := stp_sig (s := s) (bdy_le x e (if s then 0 else 2))
  have m1 := mag_sig (s := s) (bdy_le x e (if s then 2 else 0))
  have m3 := mag_sig (s := s) (bdy_le x e (if s then 0 else 2))
  rw [w1, w2, w3, s1.1, s2.1, s3.1, m1.1, m3.1]
  refine ⟨?_, ?_, fun hf => ?_, fun hf => ?_, fun he hf => ?_⟩
  · cases s <;> simp [sv] <;> omega
  · cases s <;> simp [sv] <;> omega
  · rw [vz_num hK (by rw [m1.1]; exact hf), m1.1, m1.2.1, vz_VA]
    cases s
    · simp only [sv]; simp; exact_mod_cast o4
    · simp only [sv]; simp; exact_mod_cast o5 hf
  · rw [vz_num hK (by rw [m3.1]; exact hf), m3.1, m3.2.1, vz_VA]
    cases s
    · simp only [sv]; simp; exact_mod_cast o5 hf
    · simp only [sv]; simp; exact_mod_cast o4
  · rw [vz_num hK (by rw [m1.1]; exact hf), m1.1, m1.2.1, vz_VA]
    cases s
    · have he' : bdy x e 0 = bdy x e 2 := by simp [sv] at he; exact_mod_cast he
      show sv false (bv (bdy x e 0) * UU K) = sv false (VA K x e)
      rw [o6 he']
    · have he' : bdy x e 0 = bdy x e 2 := by simp [sv] at he; have h2 : bdy x e 2 = bdy x e 0 := by exact_mod_cast he
                                             exact h2.symm
      show sv true (bv (bdy x e 2) * UU K) = sv true (VA K x e)
      rw [o6 he', he']
theorem dyadOrder_ok (ng : Nat → Bool) (ao : Nat → Option Addr) (ln cp z : Nat → Nat) (e : Nat → Int) (w : World) (hA : ∀ i, i < 2 → Arg w (ao i) (ln i) (cp i) (z i)) (he : ∀ i, -9223372036854775808 ≤ e i ∧ e i ≤ 9223372036854775807) (hzl : ∀ i, i < 2 → dlen (z i) ≤ ln i)
    (hT : Tab32 w) (hI : Ie.Tab w) (h10 : Tab10 w) :
    Calls Tryz.prog 4 #[.agg #[.bool (ng 0), .slice (ao 0) (ln 0) (cp 0), .int .i64 (e 0)], .agg #[.bool (ng 1), .slice (ao 1) (ln 1) (cp 1), .int .i64 (e 1)]] w fun r w' => r = .returned (.bool true) ∧ Below w.heap.size w w' := by
  have kW : ∀ W, Below w.heap.size w W → Calls Tryz.prog 27 #[] W fun r w' => r = .returned (.bool true) ∧ Below W.heap.size W w' := fun W hW => works_ok W (hT.later hW) (Tab.later hI hW) (h10.later hW)
  cases hv0 : okN (ng 0) (ln 0) (z 0) (e 0)
  · have h : Sides w (ng 0) (ao 0) (ln 0) (cp 0) (z 0) (e 0) false := ⟨hv0, hA 0 (by omega), hzl 0 (by omega)⟩
    exact law12_no1 ng ao ln cp e w (fun W hW => h.valid hW W (Below.refl _ _)) kW
  · have h : Sides w (ng 0) (ao 0) (ln 0) (cp 0) (z 0) (e 0) true := ⟨hv0, hA 0 (by omega), hzl 0 (by omega)⟩
    cases hv1 : okN (ng 1) (ln 1) (z 1) (e 1)
    · have g : Sides w (ng 1) (ao 1) (ln 1) (cp 1) (z 1) (e 1) false := ⟨hv1, hA 1 (by omega), hzl 1 (by omega)⟩
      exact law12_no2 ng ao ln cp e w (fun W hW => h.valid hW W (Below.refl _ _)) (fun W hW => g.valid hW W (Below.refl _ _)) kW
    · have g : Sides w (ng 1) (ao 1) (ln 1) (cp 1) (z 1) (e 1) true := ⟨hv1, hA 1 (by omega), hzl 1 (by omega)⟩
      have l0 := okN_len h.len h.ok
      have l1 := okN_len g.len g.ok
      have ok0 : Ok (ng 0, z 0, e 0) := by unfold Ok; simp only; rw [l0]; exact hv0
      have ok1 : Ok (ng 1, z 1, e 1) := by unfold Ok; simp only; rw [l1]; exact hv1
      have f0 := ok0.facts
      have f1 := ok1.facts
      simp only at f0 f1
      obtain ⟨K, hK0⟩ : ∃ K : Nat, K = 70000 := ⟨_, rfl⟩
      have hK : 70000 ≤ K := by omega
      clear hK0
      obtain ⟨m1, m2, m3, m4, m5⟩ := order_modes hK ok0
      obtain ⟨F, hF⟩ : ∃ F : Int → Nat, F = fun m => tfF (ng 0) true (z 0) (e 0) m := ⟨_, rfl⟩
      obtain ⟨G, hG⟩ : ∃ F : Int → Nat, F = fun m => tfF (ng 1) true (z 1) (e 1) m := ⟨_, rfl⟩
      have eF : ∀ m, tfF (ng 0) true (z 0) (e 0) m = F m := fun m => by rw [hF]
      have eG : ∀ m, tfF (ng 1) true (z 1) (e 1) m = G m := fun m => by rw [hG]
      have hFl : ∀ m : Int, 1 ≤ m → m ≤ 3 → F m < 18446744073709551616 ∧ isNaN (F m) = false ∧ mag (F m) ≤ 9218868437227405312 := fun m h1 h3 => by
        rw [← eF, tf_bdy ⟨h1, h3⟩]; exact ⟨(stp_sig (bdy_le _ _ _)).2.2, (stp_sig (bdy_le _ _ _)).2.1, by rw [(mag_sig (bdy_le _ _ _)).1]; exact bdy_le _ _ _⟩
      have hGl : ∀ m : Int, 1 ≤ m → m ≤ 3 → G m < 18446744073709551616 := fun m h1 h3 => by rw [← eG, tf_bdy ⟨h1, h3⟩]; exact (stp_sig (bdy_le _ _ _)).2.2
      rw [eF, eF] at m1 m2
      rw [eF] at m3 m4
      rw [eF, eF] at m5
      have rX : ∀ (s : Bool) (x : Nat) (ex : Int) (n : Nat), dlen x = n → Ok (s, x, ex) → ∀ W X (m : Int), Below w.heap.size w W → PI s n x ex W X → 1 ≤ m → m ≤ 3 → Calls Tryz.prog 28 #[X, .int .i64 m] W fun r w' => r = .returned (.tuple #[.float .f64 (tfF s true x ex m), .int .i64 0]) ∧ Below W.heap.size W w' := by
        intro s x ex n hn ok W X m hW hX h1 h3
        have ff := ok.facts
        simp only at ff
        subst hn
        obtain ⟨pa, pc, rfl, i1⟩ := hX.is
        refine c24_1 s pa _ pc _ ex m W (fun W' g hW' hg => ?_) (fun W' => c48 m (by omega) W') (fun W' hW' => ?_)
        · have := maybe1 hg (i1.later hW') (by omega)
          rw [show okN s (dlen x) x ex = true from ok] at this
          exact this
        · exact c106 (neg := s) (e := ex) (mode := m) ((hT.later hW).later hW') (i1.later hW') (by omega) (by omega) (by omega)
      have hof : ∀ a, a < 18446744073709551616 → mag a ≤ 9218868437227405312 → ∀ W, Below w.heap.size w W → Calls Tryz.prog 29 #[.float .f64 a] W fun r w' => Out W (fun W A => mag a < 9218868437227405312 → PN W A (nN a, nM a, Ie.sE a)) (if mag a < 9218868437227405312 then 0 else 5) r w' := by
        intro a ha hm W hW
        by_cases hf : mag a < 9218868437227405312
        · rw [if_pos hf]
          obtain ⟨m, hm', hml⟩ := sM_lt a ha
          have e1 : nM a = m := by unfold nM; rw [hm']; rfl
          refine (of_fin a m ha W (hT.later hW) (Tab.later hI hW) hf hm').mono ?_
          rintro r w' ⟨A, rfl, hN, hb⟩
          rw [← e1] at hN
          obtain ⟨ao', cap', rfl, hi⟩ := num_of hf hN
          exact ⟨_, _, _, _, _, rfl, fun _ => ⟨ao', cap', rfl, hi⟩, hb⟩
        · rw [if_neg hf]
          refine (of_inf a ha W (Tab.later hI hW) (by omega)).mono ?_
          rintro r w' ⟨rfl, hb⟩
          exact ⟨_, _, _, _, _, rfl, fun h => absurd h hf, hb⟩
      have hlasts : ∀ a, Lasts (fun W A => mag a < 9218868437227405312 → PN W A (nN a, nM a, Ie.sE a)) := fun a W W' A hb h hf => (h hf).later hb
      have hnl : ∀ a, mag a < 9218868437227405312 → dlen (nM a) ≤ 2 ∧ -2000 ≤ Ie.sE a ∧ Ie.sE a ≤ 2000 := fun a fa => by
        by_cases h0 : mag a = 0
        · rw [(num_zero h0).1, (num_zero h0).2, dlen_zero]; omega
        · have := num_parts fa h0
          exact ⟨(dlen_le 2 _).2 (by unfold B; omega), by omega, by omega⟩
      have hcmp : ∀ a, mag a < 9218868437227405312 → ∀ W A X, Below w.heap.size w W → (mag a < 9218868437227405312 → PN W A (nN a, nM a, Ie.sE a)) → PI (ng 0) (ln 0) (z 0) (e 0) W X → Calls Tryz.prog 23 #[A, X] W fun r w' => r = .returned (.int .i64 (ordN (nN a) (nM a) (Ie.sE a) (ng 0) (z 0) (e 0))) ∧ Below W.heap.size W w' := by
        intro a ha W A X hW hA' hX
        rw [← l0] at hX
        obtain ⟨pa, pc, rfl, i1⟩ := hX.is
        obtain ⟨qa, qc, rfl, i2⟩ := hA' ha
        have := hnl a ha
        simp only at i2 ⊢
        exact cmp_ok i2 i1 (by omega) (by omega) (by omega) (by omega) (num_ok ha) ok0
      have ov : ∀ a, mag a < 9218868437227405312 → ordN (nN a) (nM a) (Ie.sE a) (ng 0) (z 0) (e 0) = cmpI (vz K (nN a) (nM a) (Ie.sE a)) (vz K (ng 0) (z 0) (e 0)) := fun a ha => ordN_vz (by have := hnl a ha; omega) (by omega)
      have ovc : ordN (ng 0) (z 0) (e 0) (ng 1) (z 1) (e 1) = cmpI (vz K (ng 0) (z 0) (e 0)) (vz K (ng 1) (z 1) (e 1)) := ordN_vz (by omega) (by omega)
      have hif : ∀ a, (if mag a < 9218868437227405312 then (0 : Int) else 5) = 0 → mag a < 9218868437227405312 := fun a h => by
        apply Decidable.byContradiction
        intro hn
        rw [if_neg hn] at h
        omega
      obtain ⟨hF1, hN1, hM1⟩ := hFl 1 (by omega) (by omega)
      obtain ⟨hF2, hN2, hM2⟩ := hFl 2 (by omega) (by omega)
      obtain ⟨hF3, hN3, hM3⟩ := hFl 3 (by omega) (by omega)
      refine law12_1 ng ao ln cp z e w hA (PX := PI (ng 0) (ln 0) (z 0) (e 0)) (PY := PI (ng 1) (ln 1) (z 1) (e 1)) (PP := fun W A => mag (F 1) < 9218868437227405312 → PN W A (nN (F 1), nM (F 1), Ie.sE (F 1))) (PQ := fun W A => mag (F 3) < 9218868437227405312 → PN W A (nN (F 3), nM (F 3), Ie.sE (F 3))) (F := F) (G := G) (eP := if mag (F 1) < 9218868437227405312 then 0 else 5) (eQ := if mag (F 3) < 9218868437227405312 then 0 else 5) (cP := ordN (nN (F 1)) (nM (F 1)) (Ie.sE (F 1)) (ng 0) (z 0) (e 0)) (cQ := ordN (nN (F 3)) (nM (F 3)) (Ie.sE (F 3)) (ng 0) (z 0) (e 0)) (c := ordN (ng 0) (z 0) (e 0) (ng 1) (z 1) (e 1))
        { lPX := PI.lasts _ _ _ _, lPY := PI.lasts _ _ _ _, lPP := hlasts _, lPQ := hlasts _,
          v0 := fun W hW => h.valid hW W (Below.refl _ _), v1 := fun W hW => g.valid hW W (Below.refl _ _),
          kX := fun W X m hW hX h1 h3 => by have := rX _ _ _ _ l0 ok0 W X m hW hX h1 h3; rw [eF] at this; exact this,
          kY := fun W X m hW hX h1 h3 => by have := rX _ _ _ _ l1 ok1 W X m hW hX h1 h3; rw [eG] at this; exact this,
          kP := hof _ hF1 hM1, kQ := hof _ hF3 hM3,
          kCP := fun h0 => hcmp _ (hif _ h0), kCQ := fun h0 => hcmp _ (hif _ h0),
          kC := fun W X Y hW hX hY => by
            rw [← l0] at hX
            rw [← l1] at hY
            obtain ⟨pa, pc, rfl, i1⟩ := hX.is
            obtain ⟨qa, qc, rfl, i2⟩ := hY.is
            exact cmp_ok i1 i2 (by omega) (by omega) (by omega) (by omega) ok0 ok1,
          o12 := by rw [ord_gt _ _ hF1 hF2]; exact lt_false m1,
          o23 := by rw [ord_gt _ _ hF2 hF3]; exact lt_false m2,
          oP := fun h0 => by
            rw [ov _ (hif _ h0)]
            have := m3 (hif _ h0)
            unfold cmpI; split
            · omega
            · rw [if_neg (by omega)]; omega,
          oQ := fun h0 => by
            rw [ov _ (hif _ h0)]
            have := m4 (hif _ h0)
            unfold cmpI; rw [if_neg (by omega)]; split <;> omega,
          oE := fun h1 h0 => by
            rw [ov _ (hif _ h0)]
            rw [ord_eq _ _ hF1 hF3] at h1
            unfold eq at h1
            rw [hN1, hN3] at h1
            have h2 : stp (F 1) = stp (F 3) := by simpa using h1
            rw [m5 h2 (hif _ h0)]
            unfold cmpI; rw [if_neg (by omega), if_neg (by omega)],
          oL := fun m h1 h3 hc => by
            rw [ord_gt _ _ (hFl m h1 h3).1 (hGl m h1 h3)]
            refine lt_false ?_
            rw [← eF, ← eG]
            refine ord_round hK ok0 ok1 ⟨h1, h3⟩ ?_
            rw [ovc] at hc
            rcases cmpI_cases (vz K (ng 0) (z 0) (e 0)) (vz K (ng 1) (z 1) (e 1)) with c1 | c1 | c1 <;> omega,
          oG := fun m h1 h3 hc => by
            rw [ord_lt _ _ (hFl m h1 h3).1 (hGl m h1 h3)]
            refine lt_false ?_
            rw [← eF, ← eG]
            refine ord_round hK ok1 ok0 ⟨h1, h3⟩ ?_
            rw [ovc] at hc
            rcases cmpI_cases (vz K (ng 0) (z 0) (e 0)) (vz K (ng 1) (z 1) (e 1)) with c1 | c1 | c1 <;> omega,
          gx := fun W v hW ⟨b, h⟩ => ⟨v, b, rfl, h⟩, gy := fun W v hW ⟨b, h⟩ => ⟨v, b, rfl, h⟩,
          works := kW }
end Go.Proofs.YtmhpicccfaklcaaGreatDoor
