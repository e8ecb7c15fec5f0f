/- Own work: contracts of the program's functions, part 11: RE1 RE3 RE4 RY7 SD1 SD2 UA8 UA9 UB1 UB2 UB3 SB4 SB5 SH5 SB6 SH6 SH7 SH8 SH9 SI1 SI2 SI3 SI4 UB4 HX W46 W47 W48 RE2 RE5 RE6 RD2 L12 L15 SE1 SE2 SB7 SE3 SF1 SF2 SF3. -/
import Derived.Test.YtcoclopllbfjcaaGreatDoorA9
import Derived.Test.YtcoclopllbfjcaaGreatDoorA10
import Derived.Test.YtcoclopllbfjcaaGreatDoorA8
import Derived.Test.YtcoclopllbfjcaaGreatDoorA3
import Derived.Test.YtcoclopllbfjcaaGreatDoorA7
import Derived.Test.YtcoclopllbfjcaaGreatDoorA5
import Derived.Test.YtcoclopllbfjcaaGreatDoorA6
import Derived.Lib.ItoaNum

/- The document's magnitude, Order, Cmp. -/
namespace Go.Proofs.YtcoclopllbfjcaaGreatDoor
set_option linter.unusedVariables false
set_option linter.unusedSimpArgs false
open Go.RowKit

set_option maxHeartbeats 4000000 in
set_option maxRecDepth 200000 in
theorem rmag_1 (na nb : Bool) (ua va : Option Addr) (un uc vn vc : Nat) (ea eb ha hb : Int) (w : World) (hn1 : ((un : Int) == 0) = false) (hn2 : ((vn : Int) == 0) = false)
    (hh1 : -64000000000 ≤ ha) (hh2 : ha ≤ 64000000000) (hh3 : -64000000000 ≤ hb) (hh4 : hb ≤ 64000000000) (hne : ha ≠ hb)
    (kA : ∀ W, Below w.heap.size w W → Calls Tryz.prog 106 #[.agg #[.bool na, .slice ua un uc, .int .i64 ea]] W fun r w' => r = .returned (.int .i64 ha) ∧ Below W.heap.size W w')
    (kB : ∀ W, Below w.heap.size w W → Calls Tryz.prog 106 #[.agg #[.bool nb, .slice va vn vc, .int .i64 eb]] W fun r w' => r = .returned (.int .i64 hb) ∧ Below W.heap.size W w') :
    Calls Tryz.prog 78 #[.agg #[.bool na, .slice ua un uc, .int .i64 ea], .agg #[.bool nb, .slice va vn vc, .int .i64 eb]] w fun r w' => r = .returned (.int .i64 (ha - hb)) ∧ Below w.heap.size w w' := by
  obtain ⟨W, hW⟩ : ∃ W, W = (w.alloc (.cells #[.bool na, .slice ua un uc, .int .i64 ea] 45)).alloc (.cells #[.bool nb, .slice va vn vc, .int .i64 eb] 45) := ⟨_, rfl⟩
  obtain ⟨hA, hBb, hsz, hBW⟩ := two29 _ _ hW
  have HX : Hid (Below w.heap.size w W) := hBW
  have kA' : ∀ w4, Below W.heap.size W w4 → Calls Tryz.prog 106 #[.agg #[.bool na, .slice ua un uc, .int .i64 ea]] w4 fun r w' => r = .returned (.int .i64 ha) ∧ Below W.heap.size W w' := fun w4 h4 => (kA w4 (hBW.trans (h4.mono hBW.size))).mono fun r w' ⟨e1, o2⟩ => ⟨e1, h4.trans (o2.mono h4.size)⟩
  have kB' : ∀ w4, Below W.heap.size W w4 → Calls Tryz.prog 106 #[.agg #[.bool nb, .slice va vn vc, .int .i64 eb]] w4 fun r w' => r = .returned (.int .i64 hb) ∧ Below W.heap.size W w' := fun w4 h4 => (kB w4 (hBW.trans (h4.mono hBW.size))).mono fun r w' ⟨e1, o2⟩ => ⟨e1, h4.trans (o2.mono h4.size)⟩
  have HKA : Hid (∀ w4, Below W.heap.size W w4 → Calls Tryz.prog 106 #[.agg #[.bool na, .slice ua un uc, .int .i64 ea]] w4 fun r w' => r = .returned (.int .i64 ha) ∧ Below W.heap.size W w') := kA'
  have HKB : Hid (∀ w4, Below W.heap.size W w4 → Calls Tryz.prog 106 #[.agg #[.bool nb, .slice va vn vc, .int .i64 eb]] w4 fun r w' => r = .returned (.int .i64 hb) ∧ Below W.heap.size W w') := kB'
  obtain ⟨⟨a0, a1, a2⟩, -⟩ := box_cells29 hA
  obtain ⟨⟨b0, b1, b2⟩, -⟩ := box_cells29 hBb
  have HK : Hid (∀ w', Below W.heap.size W w' → ((w'.cell? ⟨w.heap.size, 0, none⟩ = some (.bool na) ∧ w'.cell? ⟨w.heap.size, 1, none⟩ = some (.slice ua un uc) ∧ w'.cell? ⟨w.heap.size, 2, none⟩ = some (.int .i64 ea)) ∧ (w'.cell? ⟨w.heap.size + 1, 0, none⟩ = some (.bool nb) ∧ w'.cell? ⟨w.heap.size + 1, 1, none⟩ = some (.slice va vn vc) ∧ w'.cell? ⟨w.heap.size + 1, 2, none⟩ = some (.int .i64 eb)))) := fun w' hb => ⟨(box_cells29 (box_later hA hb (by omega))).1, (box_cells29 (box_later hBb hb (by omega))).1⟩
  have HRD : Hid (∀ w', Below W.heap.size W w' → Below W.heap.size W w'.drew) := fun w' h => h.trans ⟨rfl, rfl, rfl, Nat.le_refl _, fun _ _ => rfl⟩
  have hBR : Below W.heap.size W W.drew := (Below.refl _ _).drew
  have HZ : Hid (IntKind.i64.wrap (ha - hb) = ha - hb) := (by rw [IntKind.wrap_i64]; omega : IntKind.i64.wrap (ha - hb) = ha - hb)
  have hne' : (ha == hb) = false := by simpa using hne
  clear kA kB hA hBb hsz hBW hne hh1 hh2 hh3 hh4
  go_enter Tryz.func78, Tryz.ntmps78
  go_upto_region 3 with fail
  rw [← hW]
  clear hW
  go_cut [24] from 25 to 29 (fun v w' => v = .bool true ∧ Hid (Below W.heap.size W w'))
  case first =>
    go_region_held3 (fun w' => ((w'.cell? ⟨w.heap.size, 0, none⟩ = some (.bool na) ∧ w'.cell? ⟨w.heap.size, 1, none⟩ = some (.slice ua un uc) ∧ w'.cell? ⟨w.heap.size, 2, none⟩ = some (.int .i64 ea)) ∧ (w'.cell? ⟨w.heap.size + 1, 0, none⟩ = some (.bool nb) ∧ w'.cell? ⟨w.heap.size + 1, 1, none⟩ = some (.slice va vn vc) ∧ w'.cell? ⟨w.heap.size + 1, 2, none⟩ = some (.int .i64 eb)))) (first | (with_reducible assumption) | exact ⟨⟨a0, a1, a2⟩, b0, b1, b2⟩ | (refine HK.out _ ?_; with_reducible assumption) | go_keep)
      (first | (go_at_call 106; first | (with_reducible refine (kA' _ (by first | (with_reducible assumption) | exact hBR)).mono ?_; rintro r w5 ⟨rfl, hb5⟩) | (with_reducible refine (kB' _ (by first | (with_reducible assumption) | exact hBR)).mono ?_; rintro r w6 ⟨rfl, hb6⟩)))
    all_goals go_wp2_with fail
    all_goals go_meet
    all_goals exact ⟨by rw [bne, hne']; rfl, by first | exact hb6 | exact hb5⟩
  case rest =>
    obtain ⟨rfl, hc⟩ := hcut
    obtain ⟨W2, rfl⟩ : ∃ W2 : World, W2 = wc := ⟨_, rfl⟩
    clear a0 a1 a2 b0 b1 b2 kA' kB' hBR
    obtain ⟨⟨a0, a1, a2⟩, b0, b1, b2⟩ := HK.out W2 hc.out
    have hBR : Below W.heap.size W W2.drew := HRD.out _ hc.out
    have kA' := HKA.out
    have kB' := HKB.out
    go_upto_region 4 with fail
    go_region_held3 (fun w' => ((w'.cell? ⟨w.heap.size, 0, none⟩ = some (.bool na) ∧ w'.cell? ⟨w.heap.size, 1, none⟩ = some (.slice ua un uc) ∧ w'.cell? ⟨w.heap.size, 2, none⟩ = some (.int .i64 ea)) ∧ (w'.cell? ⟨w.heap.size + 1, 0, none⟩ = some (.bool nb) ∧ w'.cell? ⟨w.heap.size + 1, 1, none⟩ = some (.slice va vn vc) ∧ w'.cell? ⟨w.heap.size + 1, 2, none⟩ = some (.int .i64 eb)))) (first | (with_reducible assumption) | exact ⟨⟨a0, a1, a2⟩, b0, b1, b2⟩ | (refine HK.out _ ?_; with_reducible assumption) | go_keep)
      (first | (go_at_call 106; first | (with_reducible refine (kA' _ (by first | (with_reducible assumption) | exact hBR)).mono ?_; rintro r w5 ⟨rfl, hb5⟩) | (with_reducible refine (kB' _ (by first | (with_reducible assumption) | exact hBR)).mono ?_; rintro r w6 ⟨rfl, hb6⟩)))
    all_goals (have HL5 : Hid (Below W.heap.size W w5) := hb5; have HL6 : Hid (Below W.heap.size W w6) := hb6; clear kA' kB' HK HKA HKB a0 a1 a2 b0 b1 b2 hBR hb5 hb6; go_wp2; go_ret; first | exact ⟨by rw [HZ.out]; rfl, HX.out.trans (HL6.out.mono HX.out.size)⟩ | exact ⟨by rw [HZ.out]; rfl, HX.out.trans (HL5.out.mono HX.out.size)⟩)
set_option maxHeartbeats 4000000 in
set_option maxRecDepth 200000 in
theorem rmag_2 (na nb : Bool) (ua va : Option Addr) (un uc vn vc X Y : Nat) (ea eb ha : Int) (w : World) (hn1 : ((un : Int) == 0) = false) (hn2 : ((vn : Int) == 0) = false) (hX : dlen X ≤ 1000000) (hY : dlen Y ≤ 1000000)
    (he1 : -4000000 ≤ ea) (he2 : ea ≤ 4000000) (he3 : -4000000 ≤ eb) (he4 : eb ≤ 4000000)
    (kA : ∀ W, Below w.heap.size w W → Calls Tryz.prog 106 #[.agg #[.bool na, .slice ua un uc, .int .i64 ea]] W fun r w' => r = .returned (.int .i64 ha) ∧ Below W.heap.size W w')
    (kB : ∀ W, Below w.heap.size w W → Calls Tryz.prog 106 #[.agg #[.bool nb, .slice va vn vc, .int .i64 eb]] W fun r w' => r = .returned (.int .i64 ha) ∧ Below W.heap.size W w')
    (ku : ∀ W i, Below w.heap.size w W → i = ea - min ea eb → Calls Tryz.prog 68 #[.slice ua un uc, .int .i64 i] W fun r w' => ∃ v, r = .returned v ∧ Ir w' v X ∧ Below W.heap.size W w')
    (kv : ∀ W i, Below w.heap.size w W → i = eb - min ea eb → Calls Tryz.prog 68 #[.slice va vn vc, .int .i64 i] W fun r w' => ∃ v, r = .returned v ∧ Ir w' v Y ∧ Below W.heap.size W w') :
    Calls Tryz.prog 78 #[.agg #[.bool na, .slice ua un uc, .int .i64 ea], .agg #[.bool nb, .slice va vn vc, .int .i64 eb]] w fun r w' => r = .returned (.int .i64 (cmpI X Y)) ∧ Below w.heap.size w w' := by
  obtain ⟨W, hW⟩ : ∃ W, W = (w.alloc (.cells #[.bool na, .slice ua un uc, .int .i64 ea] 45)).alloc (.cells #[.bool nb, .slice va vn vc, .int .i64 eb] 45) := ⟨_, rfl⟩
  obtain ⟨hA, hBb, hsz, hBW⟩ := two29 _ _ hW
  have HX : Hid (Below w.heap.size w W) := hBW
  have kA' : ∀ w4, Below W.heap.size W w4 → Calls Tryz.prog 106 #[.agg #[.bool na, .slice ua un uc, .int .i64 ea]] w4 fun r w' => r = .returned (.int .i64 ha) ∧ Below W.heap.size W w' := fun w4 h4 => (kA w4 (hBW.trans (h4.mono hBW.size))).mono fun r w' ⟨e1, o2⟩ => ⟨e1, h4.trans (o2.mono h4.size)⟩
  have kB' : ∀ w4, Below W.heap.size W w4 → Calls Tryz.prog 106 #[.agg #[.bool nb, .slice va vn vc, .int .i64 eb]] w4 fun r w' => r = .returned (.int .i64 ha) ∧ Below W.heap.size W w' := fun w4 h4 => (kB w4 (hBW.trans (h4.mono hBW.size))).mono fun r w' ⟨e1, o2⟩ => ⟨e1, h4.trans (o2.mono h4.size)⟩
  obtain ⟨i1, hi1⟩ : ∃ i1, i1 = ea - min ea eb := ⟨_, rfl⟩
  obtain ⟨i2, hi2⟩ : ∃ i2, i2 = eb - min ea eb := ⟨_, rfl⟩
  have HKU : Hid (∀ w4, Below W.heap.size W w4 → Calls Tryz.prog 68 #[.slice ua un uc, .int .i64 i1] w4 fun r w' => ∃ v, r = .returned v ∧ Ir w' v X ∧ Below W.heap.size W w' ∧ Below w4.heap.size w4 w') := (fun w4 h4 => (ku w4 i1 (hBW.trans (h4.mono hBW.size)) hi1).mono fun r w' ⟨v, e1, o1, o2⟩ => ⟨v, e1, o1, h4.trans (o2.mono h4.size), o2⟩ : ∀ w4, Below W.heap.size W w4 → Calls Tryz.prog 68 #[.slice ua un uc, .int .i64 i1] w4 fun r w' => ∃ v, r = .returned v ∧ Ir w' v X ∧ Below W.heap.size W w' ∧ Below w4.heap.size w4 w')
  have HKV : Hid (∀ w4, Below W.heap.size W w4 → Calls Tryz.prog 68 #[.slice va vn vc, .int .i64 i2] w4 fun r w' => ∃ v, r = .returned v ∧ Ir w' v Y ∧ Below W.heap.size W w' ∧ Below w4.heap.size w4 w') := (fun w4 h4 => (kv w4 i2 (hBW.trans (h4.mono hBW.size)) hi2).mono fun r w' ⟨v, e1, o1, o2⟩ => ⟨v, e1, o1, h4.trans (o2.mono h4.size), o2⟩ : ∀ w4, Below W.heap.size W w4 → Calls Tryz.prog 68 #[.slice va vn vc, .int .i64 i2] w4 fun r w' => ∃ v, r = .returned v ∧ Ir w' v Y ∧ Below W.heap.size W w' ∧ Below w4.heap.size w4 w')
  have kO : ∀ w4 p q, Ir w4 p X → Ir w4 q Y → Below W.heap.size W w4 → Calls Tryz.prog 70 #[p, q] w4 fun r w' => r = .returned (.int .i64 (cmpI X Y)) ∧ Below W.heap.size W w' := fun w4 p q hp hq h4 => (rord hp hq (by omega) (by omega)).mono fun r w' ⟨e1, d, e2⟩ => ⟨e1, by rw [e2]; exact h4.trans ⟨rfl, rfl, rfl, Nat.le_refl _, fun _ _ => rfl⟩⟩
  have HKO : Hid (∀ w4 p q, Ir w4 p X → Ir w4 q Y → Below W.heap.size W w4 → Calls Tryz.prog 70 #[p, q] w4 fun r w' => r = .returned (.int .i64 (cmpI X Y)) ∧ Below W.heap.size W w') := kO
  obtain ⟨⟨a0, a1, a2⟩, -⟩ := box_cells29 hA
  obtain ⟨⟨b0, b1, b2⟩, -⟩ := box_cells29 hBb
  have HK : Hid (∀ w', Below W.heap.size W w' → ((w'.cell? ⟨w.heap.size, 0, none⟩ = some (.bool na) ∧ w'.cell? ⟨w.heap.size, 1, none⟩ = some (.slice ua un uc) ∧ w'.cell? ⟨w.heap.size, 2, none⟩ = some (.int .i64 ea)) ∧ (w'.cell? ⟨w.heap.size + 1, 0, none⟩ = some (.bool nb) ∧ w'.cell? ⟨w.heap.size + 1, 1, none⟩ = some (.slice va vn vc) ∧ w'.cell? ⟨w.heap.size + 1, 2, none⟩ = some (.int .i64 eb)))) := fun w' hb => ⟨(box_cells29 (box_later hA hb (by omega))).1, (box_cells29 (box_later hBb hb (by omega))).1⟩
  have HRD : Hid (∀ w', Below W.heap.size W w' → Below W.heap.size W w'.drew) := fun w' h => h.trans ⟨rfl, rfl, rfl, Nat.le_refl _, fun _ _ => rfl⟩
  have hBR : Below W.heap.size W W.drew := (Below.refl _ _).drew
  have HI : Hid (∀ i, (i = ea - min ea eb ∨ i = IntKind.i64.wrap (ea - min ea eb)) → i = i1) := (fun i h => by rw [IntKind.wrap_i64] at h; omega : ∀ i, (i = ea - min ea eb ∨ i = IntKind.i64.wrap (ea - min ea eb)) → i = i1)
  have HJ : Hid (∀ i, (i = eb - min ea eb ∨ i = IntKind.i64.wrap (eb - min ea eb)) → i = i2) := (fun i h => by rw [IntKind.wrap_i64] at h; omega : ∀ i, (i = eb - min ea eb ∨ i = IntKind.i64.wrap (eb - min ea eb)) → i = i2)
  obtain ⟨c, hc⟩ : ∃ c, c = cmpI X Y := ⟨_, rfl⟩
  rw [← hc] at HKO ⊢
  clear kA kB ku kv kO hA hBb hsz hBW hX hY hi1 hi2 hc
  go_enter Tryz.func78, Tryz.ntmps78
  go_upto_region 3 with fail
  rw [← hW]
  clear hW
  go_cut [24] from 25 to 29 (fun v w' => v = .bool false ∧ Hid (Below W.heap.size W w'))
  case first =>
    go_region_held3 (fun w' => ((w'.cell? ⟨w.heap.size, 0, none⟩ = some (.bool na) ∧ w'.cell? ⟨w.heap.size, 1, none⟩ = some (.slice ua un uc) ∧ w'.cell? ⟨w.heap.size, 2, none⟩ = some (.int .i64 ea)) ∧ (w'.cell? ⟨w.heap.size + 1, 0, none⟩ = some (.bool nb) ∧ w'.cell? ⟨w.heap.size + 1, 1, none⟩ = some (.slice va vn vc) ∧ w'.cell? ⟨w.heap.size + 1, 2, none⟩ = some (.int .i64 eb)))) (first | (with_reducible assumption) | exact ⟨⟨a0, a1, a2⟩, b0, b1, b2⟩ | (refine HK.out _ ?_; with_reducible assumption) | go_keep)
      (first | (go_at_call 106; first | (with_reducible refine (kA' _ (by first | (with_reducible assumption) | exact hBR)).mono ?_; rintro r w5 ⟨rfl, hb5⟩) | (with_reducible refine (kB' _ (by first | (with_reducible assumption) | exact hBR)).mono ?_; rintro r w6 ⟨rfl, hb6⟩)))
    all_goals go_wp2_with fail
    all_goals go_meet
    all_goals exact ⟨by first | rfl | simp, by first | exact hb6 | exact hb5⟩
  case rest =>
    obtain ⟨rfl, hc⟩ := hcut
    obtain ⟨W2, rfl⟩ : ∃ W2 : World, W2 = wc := ⟨_, rfl⟩
    clear a0 a1 a2 b0 b1 b2 kA' kB' hBR
    obtain ⟨⟨a0, a1, a2⟩, b0, b1, b2⟩ := HK.out W2 hc.out
    have hBR : Below W.heap.size W W2.drew := HRD.out _ hc.out
    have kU : ∀ i w4, (i = ea - min ea eb ∨ i = IntKind.i64.wrap (ea - min ea eb)) → Below W.heap.size W w4 → Calls Tryz.prog 68 #[.slice ua un uc, .int .i64 i] w4 fun r w' => ∃ v, r = .returned v ∧ Ir w' v X ∧ Below W.heap.size W w' ∧ Below w4.heap.size w4 w' := fun i w4 hi => by rw [HI.out i hi]; exact HKU.out w4
    have kV : ∀ i w4, (i = eb - min ea eb ∨ i = IntKind.i64.wrap (eb - min ea eb)) → Below W.heap.size W w4 → Calls Tryz.prog 68 #[.slice va vn vc, .int .i64 i] w4 fun r w' => ∃ v, r = .returned v ∧ Ir w' v Y ∧ Below W.heap.size W w' ∧ Below w4.heap.size w4 w' := fun i w4 hi => by rw [HJ.out i hi]; exact HKV.out w4
    have kO := HKO.out
    go_upto_region 6 with fail
    go_region_held3 (fun w' => ((w'.cell? ⟨w.heap.size, 0, none⟩ = some (.bool na) ∧ w'.cell? ⟨w.heap.size, 1, none⟩ = some (.slice ua un uc) ∧ w'.cell? ⟨w.heap.size, 2, none⟩ = some (.int .i64 ea)) ∧ (w'.cell? ⟨w.heap.size + 1, 0, none⟩ = some (.bool nb) ∧ w'.cell? ⟨w.heap.size + 1, 1, none⟩ = some (.slice va vn vc) ∧ w'.cell? ⟨w.heap.size + 1, 2, none⟩ = some (.int .i64 eb)))) (first | (with_reducible assumption) | exact ⟨⟨a0, a1, a2⟩, b0, b1, b2⟩ | (refine HK.out _ ?_; with_reducible assumption) | go_keep)
      (first | (go_at_call 68; first | (with_reducible refine (kU _ _ (by first | exact .inl rfl | exact .inr rfl) (by first | (with_reducible assumption) | exact hBR)).mono ?_; rintro r w5 ⟨p5, rfl, hp5, hb5, hc5⟩) | (with_reducible refine (kV _ _ (by first | exact .inl rfl | exact .inr rfl) (by first | (with_reducible assumption) | exact hBR)).mono ?_; rintro r w6 ⟨p6, rfl, hp6, hb6, hc6⟩)) | (go_at_call 70; first | (with_reducible refine (kO _ _ _ (hp5.later hc6) hp6 hb6).mono ?_; rintro r w7 ⟨rfl, hb7⟩) | (with_reducible refine (kO _ _ _ hp5 (hp6.later hc5) hb5).mono ?_; rintro r w7 ⟨rfl, hb7⟩)))
    all_goals (have HL7 : Hid (Below W.heap.size W w7) := hb7; clear kU kV kO HK HKU HKV HKO a0 a1 a2 b0 b1 b2 hBR hb5 hb6 hb7 hp5 hp6 hc5 hc6; go_wp2; go_ret; exact ⟨rfl, HX.out.trans (HL7.out.mono HX.out.size)⟩)
set_option maxHeartbeats 4000000 in
set_option maxRecDepth 200000 in
theorem rmag_0 (na nb : Bool) (ua va : Option Addr) (un uc vn vc : Nat) (ea eb : Int) (w : World) (h0 : un = 0 ∨ vn = 0) (hn1 : un ≤ 35184372088832) (hn2 : vn ≤ 35184372088832) :
    Calls Tryz.prog 78 #[.agg #[.bool na, .slice ua un uc, .int .i64 ea], .agg #[.bool nb, .slice va vn vc, .int .i64 eb]] w fun r w' => r = .returned (.int .i64 ((un : Int) - vn)) ∧ Below w.heap.size w w' := by
  obtain ⟨W, hW⟩ : ∃ W, W = (w.alloc (.cells #[.bool na, .slice ua un uc, .int .i64 ea] 45)).alloc (.cells #[.bool nb, .slice va vn vc, .int .i64 eb] 45) := ⟨_, rfl⟩
  obtain ⟨hA, hBb, hsz, hBW⟩ := two29 _ _ hW
  have HX : Hid (Below w.heap.size w W) := hBW
  obtain ⟨⟨a0, a1, a2⟩, -⟩ := box_cells29 hA
  obtain ⟨⟨b0, b1, b2⟩, -⟩ := box_cells29 hBb
  rw [hW] at a0 a1 a2 b0 b1 b2
  have hw : IntKind.i64.wrap ((un : Int) - vn) = (un : Int) - vn := by rw [IntKind.wrap_i64]; omega
  have HD : Hid ((un : Int) - vn = (un : Int) - vn) := rfl
  clear hA hBb hsz hBW
  by_cases hu : un = 0
  · subst hu
    clear h0
    go_enter Tryz.func78, Tryz.ntmps78
    go_wp2
    go_ret
    exact ⟨by simp, hW ▸ HX.out⟩
  · obtain rfl : vn = 0 := by omega
    have hu1 : ((un : Int) == 0) = false := by simp; omega
    clear h0 hu
    go_enter Tryz.func78, Tryz.ntmps78
    go_wp2
    go_ret
    exact ⟨by simp, hW ▸ HX.out⟩
end Go.Proofs.YtcoclopllbfjcaaGreatDoor
/- The document's magnitude, Order, Cmp, joined. -/
namespace Go.Proofs.YtcoclopllbfjcaaGreatDoor
set_option linter.unusedVariables false
set_option linter.unusedSimpArgs false
open Go.RowKit

/-- what magnitude answers -/
def magI (x : Nat) (ea : Int) (y : Nat) (eb : Int) : Int := if x = 0 ∨ y = 0 then (dlen x : Int) - dlen y else if (bl x : Int) + ea = bl y + eb then cmpI (x * 2 ^ (ea - min ea eb).toNat : Nat) (y * 2 ^ (eb - min ea eb).toNat : Nat) else (bl x : Int) + ea - (bl y + eb)
theorem rmag {na nb : Bool} {ua va : Option Addr} {uc vc x y : Nat} {ea eb : Int} {w : World} (h1 : Arg w ua (dlen x) uc x) (h2 : Arg w va (dlen y) vc y) (hx : dlen x ≤ 400000) (hy : dlen y ≤ 400000) (ha : -2000000 ≤ ea ∧ ea ≤ 2000000) (hb : -2000000 ≤ eb ∧ eb ≤ 2000000) :
    Calls Tryz.prog 78 #[.agg #[.bool na, .slice ua (dlen x) uc, .int .i64 ea], .agg #[.bool nb, .slice va (dlen y) vc, .int .i64 eb]] w fun r w' => r = .returned (.int .i64 (magI x ea y eb)) ∧ Below w.heap.size w w' := by
  unfold magI
  by_cases h0 : x = 0 ∨ y = 0
  · rw [if_pos h0]
    exact rmag_0 na nb ua va _ uc _ vc ea eb w (h0.imp (fun h => by rw [h, dlen_zero]) (fun h => by rw [h, dlen_zero])) (by omega) (by omega)
  · rw [if_neg h0]
    have hx0 : x ≠ 0 := fun e => h0 (.inl e)
    have hy0 : y ≠ 0 := fun e => h0 (.inr e)
    have b1 := bl_le_dlen x
    have b2 := bl_le_dlen y
    have kA : ∀ W, Below w.heap.size w W → Calls Tryz.prog 106 #[.agg #[.bool na, .slice ua (dlen x) uc, .int .i64 ea]] W fun r w' => r = .returned (.int .i64 (bl x + ea)) ∧ Below W.heap.size W w' := fun W hW => rhigh (h1.later hW).at_ hx0 (by omega) (by omega)
    have kB : ∀ W, Below w.heap.size w W → Calls Tryz.prog 106 #[.agg #[.bool nb, .slice va (dlen y) vc, .int .i64 eb]] W fun r w' => r = .returned (.int .i64 (bl y + eb)) ∧ Below W.heap.size W w' := fun W hW => rhigh (h2.later hW).at_ hy0 (by omega) (by omega)
    by_cases ht : (bl x : Int) + ea = bl y + eb
    · rw [if_pos ht]
      rw [← ht] at kB
      have l1 : dlen (x * 2 ^ (ea - min ea eb).toNat) ≤ 760000 := by have := shl_len (x := x) (k := (ea - min ea eb).toNat) rfl; omega
      have l2 : dlen (y * 2 ^ (eb - min ea eb).toNat) ≤ 760000 := by have := shl_len (x := y) (k := (eb - min ea eb).toNat) rfl; omega
      refine rmag_2 na nb ua va _ uc _ vc _ _ ea eb _ w (len_ne (n := 0) hx0) (len_ne (n := 0) hy0) (by omega) (by omega) (by omega) (by omega) (by omega) (by omega) kA kB (fun W i hW hi => ?_) (fun W i hW hi => ?_)
      · have hik : i = (((ea - min ea eb).toNat : Nat) : Int) := by omega
        rw [hik]
        exact rup ⟨ua, uc, rfl, h1.le, (h1.later hW).at_⟩ _ (by omega) (by omega)
      · have hik : i = (((eb - min ea eb).toNat : Nat) : Int) := by omega
        rw [hik]
        exact rup ⟨va, vc, rfl, h2.le, (h2.later hW).at_⟩ _ (by omega) (by omega)
    · rw [if_neg ht]
      exact rmag_1 na nb ua va _ uc _ vc ea eb _ _ w (len_ne (n := 0) hx0) (len_ne (n := 0) hy0) (by omega) (by omega) (by omega) (by omega) ht kA kB
set_option maxHeartbeats 4000000 in
set_option maxRecDepth 200000 in
theorem rorder_lt (na nb : Bool) (ua va : Option Addr) (un uc vn vc : Nat) (ea eb sa sb c : Int) (w : World) (hs : sa < sb)
    (kA : ∀ W, Below w.heap.size w W → Calls Tryz.prog 77 #[.agg #[.bool na, .slice ua un uc, .int .i64 ea]] W fun r w' => r = .returned (.int .i64 sa) ∧ Below W.heap.size W w')
    (kB : ∀ W, Below w.heap.size w W → Calls Tryz.prog 77 #[.agg #[.bool nb, .slice va vn vc, .int .i64 eb]] W fun r w' => r = .returned (.int .i64 sb) ∧ Below W.heap.size W w') :
    Calls Tryz.prog 32 #[.agg #[.bool na, .slice ua un uc, .int .i64 ea], .agg #[.bool nb, .slice va vn vc, .int .i64 eb]] w fun r w' => r = .returned (.int .i64 (-1)) ∧ Below w.heap.size w w' := by
  obtain ⟨W, hW⟩ : ∃ W, W = (w.alloc (.cells #[.bool na, .slice ua un uc, .int .i64 ea] 45)).alloc (.cells #[.bool nb, .slice va vn vc, .int .i64 eb] 45) := ⟨_, rfl⟩
  obtain ⟨hA, hBb, hsz, hBW⟩ := two29 _ _ hW
  have HX : Hid (Below w.heap.size w W) := hBW
  have kA' : ∀ w4, Below W.heap.size W w4 → Calls Tryz.prog 77 #[.agg #[.bool na, .slice ua un uc, .int .i64 ea]] w4 fun r w' => r = .returned (.int .i64 sa) ∧ Below W.heap.size W w' := fun w4 h4 => (kA w4 (hBW.trans (h4.mono hBW.size))).mono fun r w' ⟨e1, o2⟩ => ⟨e1, h4.trans (o2.mono h4.size)⟩
  have kB' : ∀ w4, Below W.heap.size W w4 → Calls Tryz.prog 77 #[.agg #[.bool nb, .slice va vn vc, .int .i64 eb]] w4 fun r w' => r = .returned (.int .i64 sb) ∧ Below W.heap.size W w' := fun w4 h4 => (kB w4 (hBW.trans (h4.mono hBW.size))).mono fun r w' ⟨e1, o2⟩ => ⟨e1, h4.trans (o2.mono h4.size)⟩
  obtain ⟨⟨a0, a1, a2⟩, -⟩ := box_cells29 hA
  obtain ⟨⟨b0, b1, b2⟩, -⟩ := box_cells29 hBb
  have HK : Hid (∀ w', Below W.heap.size W w' → ((w'.cell? ⟨w.heap.size, 0, none⟩ = some (.bool na) ∧ w'.cell? ⟨w.heap.size, 1, none⟩ = some (.slice ua un uc) ∧ w'.cell? ⟨w.heap.size, 2, none⟩ = some (.int .i64 ea)) ∧ (w'.cell? ⟨w.heap.size + 1, 0, none⟩ = some (.bool nb) ∧ w'.cell? ⟨w.heap.size + 1, 1, none⟩ = some (.slice va vn vc) ∧ w'.cell? ⟨w.heap.size + 1, 2, none⟩ = some (.int .i64 eb)))) := fun w' hb => ⟨(box_cells29 (box_later hA hb (by omega))).1, (box_cells29 (box_later hBb hb (by omega))).1⟩
  have HRD : Hid (∀ w', Below W.heap.size W w' → Below W.heap.size W w'.drew) := fun w' h => h.trans ⟨rfl, rfl, rfl, Nat.le_refl _, fun _ _ => rfl⟩
  have hBR : Below W.heap.size W W.drew := (Below.refl _ _).drew
  have hne : (sa == sb) = false := by simp; omega
  have hne2 : (sa != sb) = true := by simp; omega
  clear kA kB hA hBb hsz hBW 
  go_enter Tryz.func32, Tryz.ntmps32
  go_upto_region 1 with fail
  rw [← hW]
  clear hW
  go_cut [5, 6] from 8 to 11 (fun u v w' => u = .int .i64 sa ∧ v = .int .i64 sb ∧ Hid (Below W.heap.size W w'))
  case first =>
    go_region_held3 (fun w' => ((w'.cell? ⟨w.heap.size, 0, none⟩ = some (.bool na) ∧ w'.cell? ⟨w.heap.size, 1, none⟩ = some (.slice ua un uc) ∧ w'.cell? ⟨w.heap.size, 2, none⟩ = some (.int .i64 ea)) ∧ (w'.cell? ⟨w.heap.size + 1, 0, none⟩ = some (.bool nb) ∧ w'.cell? ⟨w.heap.size + 1, 1, none⟩ = some (.slice va vn vc) ∧ w'.cell? ⟨w.heap.size + 1, 2, none⟩ = some (.int .i64 eb)))) (first | (with_reducible assumption) | exact ⟨⟨a0, a1, a2⟩, b0, b1, b2⟩ | (refine HK.out _ ?_; with_reducible assumption) | go_keep)
      (first | (go_at_call 77; first | (with_reducible refine (kA' _ (by first | (with_reducible assumption) | exact hBR)).mono ?_; rintro r w5 ⟨rfl, hb5⟩) | (with_reducible refine (kB' _ (by first | (with_reducible assumption) | exact hBR)).mono ?_; rintro r w6 ⟨rfl, hb6⟩)))
    all_goals go_wp2_with fail
    all_goals go_meet
    all_goals exact ⟨rfl, rfl, by first | exact hb6 | exact hb5⟩
  case rest =>
    obtain ⟨rfl, rfl, hc⟩ := hcut
    obtain ⟨W2, rfl⟩ : ∃ W2 : World, W2 = wc := ⟨_, rfl⟩
    clear a0 a1 a2 b0 b1 b2 kA' kB' hBR
    go_wp2
    go_ret; exact ⟨rfl, HX.out.trans (hc.out.mono HX.out.size)⟩
set_option maxHeartbeats 4000000 in
set_option maxRecDepth 200000 in
theorem rorder_gt (na nb : Bool) (ua va : Option Addr) (un uc vn vc : Nat) (ea eb sa sb c : Int) (w : World) (hs : ¬ sa < sb) (hn : sa ≠ sb)
    (kA : ∀ W, Below w.heap.size w W → Calls Tryz.prog 77 #[.agg #[.bool na, .slice ua un uc, .int .i64 ea]] W fun r w' => r = .returned (.int .i64 sa) ∧ Below W.heap.size W w')
    (kB : ∀ W, Below w.heap.size w W → Calls Tryz.prog 77 #[.agg #[.bool nb, .slice va vn vc, .int .i64 eb]] W fun r w' => r = .returned (.int .i64 sb) ∧ Below W.heap.size W w') :
    Calls Tryz.prog 32 #[.agg #[.bool na, .slice ua un uc, .int .i64 ea], .agg #[.bool nb, .slice va vn vc, .int .i64 eb]] w fun r w' => r = .returned (.int .i64 (1)) ∧ Below w.heap.size w w' := by
  obtain ⟨W, hW⟩ : ∃ W, W = (w.alloc (.cells #[.bool na, .slice ua un uc, .int .i64 ea] 45)).alloc (.cells #[.bool nb, .slice va vn vc, .int .i64 eb] 45) := ⟨_, rfl⟩
  obtain ⟨hA, hBb, hsz, hBW⟩ := two29 _ _ hW
  have HX : Hid (Below w.heap.size w W) := hBW
  have kA' : ∀ w4, Below W.heap.size W w4 → Calls Tryz.prog 77 #[.agg #[.bool na, .slice ua un uc, .int .i64 ea]] w4 fun r w' => r = .returned (.int .i64 sa) ∧ Below W.heap.size W w' := fun w4 h4 => (kA w4 (hBW.trans (h4.mono hBW.size))).mono fun r w' ⟨e1, o2⟩ => ⟨e1, h4.trans (o2.mono h4.size)⟩
  have kB' : ∀ w4, Below W.heap.size W w4 → Calls Tryz.prog 77 #[.agg #[.bool nb, .slice va vn vc, .int .i64 eb]] w4 fun r w' => r = .returned (.int .i64 sb) ∧ Below W.heap.size W w' := fun w4 h4 => (kB w4 (hBW.trans (h4.mono hBW.size))).mono fun r w' ⟨e1, o2⟩ => ⟨e1, h4.trans (o2.mono h4.size)⟩
  obtain ⟨⟨a0, a1, a2⟩, -⟩ := box_cells29 hA
  obtain ⟨⟨b0, b1, b2⟩, -⟩ := box_cells29 hBb
  have HK : Hid (∀ w', Below W.heap.size W w' → ((w'.cell? ⟨w.heap.size, 0, none⟩ = some (.bool na) ∧ w'.cell? ⟨w.heap.size, 1, none⟩ = some (.slice ua un uc) ∧ w'.cell? ⟨w.heap.size, 2, none⟩ = some (.int .i64 ea)) ∧ (w'.cell? ⟨w.heap.size + 1, 0, none⟩ = some (.bool nb) ∧ w'.cell? ⟨w.heap.size + 1, 1, none⟩ = some (.slice va vn vc) ∧ w'.cell? ⟨w.heap.size + 1, 2, none⟩ = some (.int .i64 eb)))) := fun w' hb => ⟨(box_cells29 (box_later hA hb (by omega))).1, (box_cells29 (box_later hBb hb (by omega))).1⟩
  have HRD : Hid (∀ w', Below W.heap.size W w' → Below W.heap.size W w'.drew) := fun w' h => h.trans ⟨rfl, rfl, rfl, Nat.le_refl _, fun _ _ => rfl⟩
  have hBR : Below W.heap.size W W.drew := (Below.refl _ _).drew
  have hne : (sa == sb) = false := by simp; omega
  have hne2 : (sa != sb) = true := by simp; omega
  clear kA kB hA hBb hsz hBW hn
  go_enter Tryz.func32, Tryz.ntmps32
  go_upto_region 1 with fail
  rw [← hW]
  clear hW
  go_cut [5, 6] from 8 to 11 (fun u v w' => u = .int .i64 sa ∧ v = .int .i64 sb ∧ Hid (Below W.heap.size W w'))
  case first =>
    go_region_held3 (fun w' => ((w'.cell? ⟨w.heap.size, 0, none⟩ = some (.bool na) ∧ w'.cell? ⟨w.heap.size, 1, none⟩ = some (.slice ua un uc) ∧ w'.cell? ⟨w.heap.size, 2, none⟩ = some (.int .i64 ea)) ∧ (w'.cell? ⟨w.heap.size + 1, 0, none⟩ = some (.bool nb) ∧ w'.cell? ⟨w.heap.size + 1, 1, none⟩ = some (.slice va vn vc) ∧ w'.cell? ⟨w.heap.size + 1, 2, none⟩ = some (.int .i64 eb)))) (first | (with_reducible assumption) | exact ⟨⟨a0, a1, a2⟩, b0, b1, b2⟩ | (refine HK.out _ ?_; with_reducible assumption) | go_keep)
      (first | (go_at_call 77; first | (with_reducible refine (kA' _ (by first | (with_reducible assumption) | exact hBR)).mono ?_; rintro r w5 ⟨rfl, hb5⟩) | (with_reducible refine (kB' _ (by first | (with_reducible assumption) | exact hBR)).mono ?_; rintro r w6 ⟨rfl, hb6⟩)))
    all_goals go_wp2_with fail
    all_goals go_meet
    all_goals exact ⟨rfl, rfl, by first | exact hb6 | exact hb5⟩
  case rest =>
    obtain ⟨rfl, rfl, hc⟩ := hcut
    obtain ⟨W2, rfl⟩ : ∃ W2 : World, W2 = wc := ⟨_, rfl⟩
    clear a0 a1 a2 b0 b1 b2 kA' kB' hBR
    go_wp2
    go_ret; exact ⟨rfl, HX.out.trans (hc.out.mono HX.out.size)⟩
set_option maxHeartbeats 4000000 in
set_option maxRecDepth 200000 in
theorem rorder_pl (na nb : Bool) (ua va : Option Addr) (un uc vn vc : Nat) (ea eb sa sb c : Int) (w : World) (hse0 : sa = sb) (hs : 0 ≤ sa) (hc : c < 0) (hc3 : -90000000000 ≤ c) (hc4 : c ≤ 90000000000)
    (kA : ∀ W, Below w.heap.size w W → Calls Tryz.prog 77 #[.agg #[.bool na, .slice ua un uc, .int .i64 ea]] W fun r w' => r = .returned (.int .i64 sa) ∧ Below W.heap.size W w')
    (kB : ∀ W, Below w.heap.size w W → Calls Tryz.prog 77 #[.agg #[.bool nb, .slice va vn vc, .int .i64 eb]] W fun r w' => r = .returned (.int .i64 sb) ∧ Below W.heap.size W w')
    (kM : ∀ W, Below w.heap.size w W → Calls Tryz.prog 78 #[.agg #[.bool na, .slice ua un uc, .int .i64 ea], .agg #[.bool nb, .slice va vn vc, .int .i64 eb]] W fun r w' => r = .returned (.int .i64 c) ∧ Below W.heap.size W w') :
    Calls Tryz.prog 32 #[.agg #[.bool na, .slice ua un uc, .int .i64 ea], .agg #[.bool nb, .slice va vn vc, .int .i64 eb]] w fun r w' => r = .returned (.int .i64 (-1)) ∧ Below w.heap.size w w' := by
  obtain ⟨W, hW⟩ : ∃ W, W = (w.alloc (.cells #[.bool na, .slice ua un uc, .int .i64 ea] 45)).alloc (.cells #[.bool nb, .slice va vn vc, .int .i64 eb] 45) := ⟨_, rfl⟩
  obtain ⟨hA, hBb, hsz, hBW⟩ := two29 _ _ hW
  have HX : Hid (Below w.heap.size w W) := hBW
  have kA' : ∀ w4, Below W.heap.size W w4 → Calls Tryz.prog 77 #[.agg #[.bool na, .slice ua un uc, .int .i64 ea]] w4 fun r w' => r = .returned (.int .i64 sa) ∧ Below W.heap.size W w' := fun w4 h4 => (kA w4 (hBW.trans (h4.mono hBW.size))).mono fun r w' ⟨e1, o2⟩ => ⟨e1, h4.trans (o2.mono h4.size)⟩
  have kB' : ∀ w4, Below W.heap.size W w4 → Calls Tryz.prog 77 #[.agg #[.bool nb, .slice va vn vc, .int .i64 eb]] w4 fun r w' => r = .returned (.int .i64 sb) ∧ Below W.heap.size W w' := fun w4 h4 => (kB w4 (hBW.trans (h4.mono hBW.size))).mono fun r w' ⟨e1, o2⟩ => ⟨e1, h4.trans (o2.mono h4.size)⟩
  have kM' : ∀ w4, Below W.heap.size W w4 → Calls Tryz.prog 78 #[.agg #[.bool na, .slice ua un uc, .int .i64 ea], .agg #[.bool nb, .slice va vn vc, .int .i64 eb]] w4 fun r w' => r = .returned (.int .i64 c) ∧ Below W.heap.size W w' := fun w4 h4 => (kM w4 (hBW.trans (h4.mono hBW.size))).mono fun r w' ⟨e1, o2⟩ => ⟨e1, h4.trans (o2.mono h4.size)⟩
  have HKM : Hid (∀ w4, Below W.heap.size W w4 → Calls Tryz.prog 78 #[.agg #[.bool na, .slice ua un uc, .int .i64 ea], .agg #[.bool nb, .slice va vn vc, .int .i64 eb]] w4 fun r w' => r = .returned (.int .i64 c) ∧ Below W.heap.size W w') := kM'
  obtain ⟨⟨a0, a1, a2⟩, -⟩ := box_cells29 hA
  obtain ⟨⟨b0, b1, b2⟩, -⟩ := box_cells29 hBb
  have HK : Hid (∀ w', Below W.heap.size W w' → ((w'.cell? ⟨w.heap.size, 0, none⟩ = some (.bool na) ∧ w'.cell? ⟨w.heap.size, 1, none⟩ = some (.slice ua un uc) ∧ w'.cell? ⟨w.heap.size, 2, none⟩ = some (.int .i64 ea)) ∧ (w'.cell? ⟨w.heap.size + 1, 0, none⟩ = some (.bool nb) ∧ w'.cell? ⟨w.heap.size + 1, 1, none⟩ = some (.slice va vn vc) ∧ w'.cell? ⟨w.heap.size + 1, 2, none⟩ = some (.int .i64 eb)))) := fun w' hb => ⟨(box_cells29 (box_later hA hb (by omega))).1, (box_cells29 (box_later hBb hb (by omega))).1⟩
  have HRD : Hid (∀ w', Below W.heap.size W w' → Below W.heap.size W w'.drew) := fun w' h => h.trans ⟨rfl, rfl, rfl, Nat.le_refl _, fun _ _ => rfl⟩
  have hBR : Below W.heap.size W W.drew := (Below.refl _ _).drew
  have hse : (sa == sb) = true := by simp; omega
  have hse2 : (sa != sb) = false := by simp; omega
  have hs1 : ¬ sa < 0 := by omega
  clear kA kB kM kM' hA hBb hsz hBW hc3 hc4 hse0
  go_enter Tryz.func32, Tryz.ntmps32
  go_upto_region 1 with fail
  rw [← hW]
  clear hW
  go_cut [5, 6] from 8 to 11 (fun u v w' => u = .int .i64 sa ∧ v = .int .i64 sb ∧ Hid (Below W.heap.size W w'))
  case first =>
    go_region_held3 (fun w' => ((w'.cell? ⟨w.heap.size, 0, none⟩ = some (.bool na) ∧ w'.cell? ⟨w.heap.size, 1, none⟩ = some (.slice ua un uc) ∧ w'.cell? ⟨w.heap.size, 2, none⟩ = some (.int .i64 ea)) ∧ (w'.cell? ⟨w.heap.size + 1, 0, none⟩ = some (.bool nb) ∧ w'.cell? ⟨w.heap.size + 1, 1, none⟩ = some (.slice va vn vc) ∧ w'.cell? ⟨w.heap.size + 1, 2, none⟩ = some (.int .i64 eb)))) (first | (with_reducible assumption) | exact ⟨⟨a0, a1, a2⟩, b0, b1, b2⟩ | (refine HK.out _ ?_; with_reducible assumption) | go_keep)
      (first | (go_at_call 77; first | (with_reducible refine (kA' _ (by first | (with_reducible assumption) | exact hBR)).mono ?_; rintro r w5 ⟨rfl, hb5⟩) | (with_reducible refine (kB' _ (by first | (with_reducible assumption) | exact hBR)).mono ?_; rintro r w6 ⟨rfl, hb6⟩)))
    all_goals go_wp2_with fail
    all_goals go_meet
    all_goals exact ⟨rfl, rfl, by first | exact hb6 | exact hb5⟩
  case rest =>
    obtain ⟨rfl, rfl, hc⟩ := hcut
    obtain ⟨W2, rfl⟩ : ∃ W2 : World, W2 = wc := ⟨_, rfl⟩
    clear a0 a1 a2 b0 b1 b2 kA' kB' hBR
    have kM' := HKM.out W2 hc.out
    obtain ⟨⟨a0, a1, a2⟩, b0, b1, b2⟩ := HK.out W2 hc.out
    go_wp2_with fail
    refine kM'.mono ?_
    rintro r w7 ⟨rfl, hb7⟩
    have HL7 : Hid (Below W.heap.size W w7) := hb7
    clear kM' HK HKM a0 a1 a2 b0 b1 b2 hb7
    go_wp2
    go_ret
    exact ⟨rfl, HX.out.trans (HL7.out.mono HX.out.size)⟩
set_option maxHeartbeats 4000000 in
set_option maxRecDepth 200000 in
theorem rorder_pg (na nb : Bool) (ua va : Option Addr) (un uc vn vc : Nat) (ea eb sa sb c : Int) (w : World) (hse0 : sa = sb) (hs : 0 ≤ sa) (hc : 0 < c) (hc3 : -90000000000 ≤ c) (hc4 : c ≤ 90000000000)
    (kA : ∀ W, Below w.heap.size w W → Calls Tryz.prog 77 #[.agg #[.bool na, .slice ua un uc, .int .i64 ea]] W fun r w' => r = .returned (.int .i64 sa) ∧ Below W.heap.size W w')
    (kB : ∀ W, Below w.heap.size w W → Calls Tryz.prog 77 #[.agg #[.bool nb, .slice va vn vc, .int .i64 eb]] W fun r w' => r = .returned (.int .i64 sb) ∧ Below W.heap.size W w')
    (kM : ∀ W, Below w.heap.size w W → Calls Tryz.prog 78 #[.agg #[.bool na, .slice ua un uc, .int .i64 ea], .agg #[.bool nb, .slice va vn vc, .int .i64 eb]] W fun r w' => r = .returned (.int .i64 c) ∧ Below W.heap.size W w') :
    Calls Tryz.prog 32 #[.agg #[.bool na, .slice ua un uc, .int .i64 ea], .agg #[.bool nb, .slice va vn vc, .int .i64 eb]] w fun r w' => r = .returned (.int .i64 (1)) ∧ Below w.heap.size w w' := by
  obtain ⟨W, hW⟩ : ∃ W, W = (w.alloc (.cells #[.bool na, .slice ua un uc, .int .i64 ea] 45)).alloc (.cells #[.bool nb, .slice va vn vc, .int .i64 eb] 45) := ⟨_, rfl⟩
  obtain ⟨hA, hBb, hsz, hBW⟩ := two29 _ _ hW
  have HX : Hid (Below w.heap.size w W) := hBW
  have kA' : ∀ w4, Below W.heap.size W w4 → Calls Tryz.prog 77 #[.agg #[.bool na, .slice ua un uc, .int .i64 ea]] w4 fun r w' => r = .returned (.int .i64 sa) ∧ Below W.heap.size W w' := fun w4 h4 => (kA w4 (hBW.trans (h4.mono hBW.size))).mono fun r w' ⟨e1, o2⟩ => ⟨e1, h4.trans (o2.mono h4.size)⟩
  have kB' : ∀ w4, Below W.heap.size W w4 → Calls Tryz.prog 77 #[.agg #[.bool nb, .slice va vn vc, .int .i64 eb]] w4 fun r w' => r = .returned (.int .i64 sb) ∧ Below W.heap.size W w' := fun w4 h4 => (kB w4 (hBW.trans (h4.mono hBW.size))).mono fun r w' ⟨e1, o2⟩ => ⟨e1, h4.trans (o2.mono h4.size)⟩
  have kM' : ∀ w4, Below W.heap.size W w4 → Calls Tryz.prog 78 #[.agg #[.bool na, .slice ua un uc, .int .i64 ea], .agg #[.bool nb, .slice va vn vc, .int .i64 eb]] w4 fun r w' => r = .returned (.int .i64 c) ∧ Below W.heap.size W w' := fun w4 h4 => (kM w4 (hBW.trans (h4.mono hBW.size))).mono fun r w' ⟨e1, o2⟩ => ⟨e1, h4.trans (o2.mono h4.size)⟩
  have HKM : Hid (∀ w4, Below W.heap.size W w4 → Calls Tryz.prog 78 #[.agg #[.bool na, .slice ua un uc, .int .i64 ea], .agg #[.bool nb, .slice va vn vc, .int .i64 eb]] w4 fun r w' => r = .returned (.int .i64 c) ∧ Below W.heap.size W w') := kM'
  obtain ⟨⟨a0, a1, a2⟩, -⟩ := box_cells29 hA
  obtain ⟨⟨b0, b1, b2⟩, -⟩ := box_cells29 hBb
  have HK : Hid (∀ w', Below W.heap.size W w' → ((w'.cell? ⟨w.heap.size, 0, none⟩ = some (.bool na) ∧ w'.cell? ⟨w.heap.size, 1, none⟩ = some (.slice ua un uc) ∧ w'.cell? ⟨w.heap.size, 2, none⟩ = some (.int .i64 ea)) ∧ (w'.cell? ⟨w.heap.size + 1, 0, none⟩ = some (.bool nb) ∧ w'.cell? ⟨w.heap.size + 1, 1, none⟩ = some (.slice va vn vc) ∧ w'.cell? ⟨w.heap.size + 1, 2, none⟩ = some (.int .i64 eb)))) := fun w' hb => ⟨(box_cells29 (box_later hA hb (by omega))).1, (box_cells29 (box_later hBb hb (by omega))).1⟩
  have HRD : Hid (∀ w', Below W.heap.size W w' → Below W.heap.size W w'.drew) := fun w' h => h.trans ⟨rfl, rfl, rfl, Nat.le_refl _, fun _ _ => rfl⟩
  have hBR : Below W.heap.size W W.drew := (Below.refl _ _).drew
  have hse : (sa == sb) = true := by simp; omega
  have hse2 : (sa != sb) = false := by simp; omega
  have hs1 : ¬ sa < 0 := by omega
  have hc1 : ¬ c < 0 := by omega
  clear kA kB kM kM' hA hBb hsz hBW hc3 hc4 hse0
  go_enter Tryz.func32, Tryz.ntmps32
  go_upto_region 1 with fail
  rw [← hW]
  clear hW
  go_cut [5, 6] from 8 to 11 (fun u v w' => u = .int .i64 sa ∧ v = .int .i64 sb ∧ Hid (Below W.heap.size W w'))
  case first =>
    go_region_held3 (fun w' => ((w'.cell? ⟨w.heap.size, 0, none⟩ = some (.bool na) ∧ w'.cell? ⟨w.heap.size, 1, none⟩ = some (.slice ua un uc) ∧ w'.cell? ⟨w.heap.size, 2, none⟩ = some (.int .i64 ea)) ∧ (w'.cell? ⟨w.heap.size + 1, 0, none⟩ = some (.bool nb) ∧ w'.cell? ⟨w.heap.size + 1, 1, none⟩ = some (.slice va vn vc) ∧ w'.cell? ⟨w.heap.size + 1, 2, none⟩ = some (.int .i64 eb)))) (first | (with_reducible assumption) | exact ⟨⟨a0, a1, a2⟩, b0, b1, b2⟩ | (refine HK.out _ ?_; with_reducible assumption) | go_keep)
      (first | (go_at_call 77; first | (with_reducible refine (kA' _ (by first | (with_reducible assumption) | exact hBR)).mono ?_; rintro r w5 ⟨rfl, hb5⟩) | (with_reducible refine (kB' _ (by first | (with_reducible assumption) | exact hBR)).mono ?_; rintro r w6 ⟨rfl, hb6⟩)))
    all_goals go_wp2_with fail
    all_goals go_meet
    all_goals exact ⟨rfl, rfl, by first | exact hb6 | exact hb5⟩
  case rest =>
    obtain ⟨rfl, rfl, hc⟩ := hcut
    obtain ⟨W2, rfl⟩ : ∃ W2 : World, W2 = wc := ⟨_, rfl⟩
    clear a0 a1 a2 b0 b1 b2 kA' kB' hBR
    have kM' := HKM.out W2 hc.out
    obtain ⟨⟨a0, a1, a2⟩, b0, b1, b2⟩ := HK.out W2 hc.out
    go_wp2_with fail
    refine kM'.mono ?_
    rintro r w7 ⟨rfl, hb7⟩
    have HL7 : Hid (Below W.heap.size W w7) := hb7
    clear kM' HK HKM a0 a1 a2 b0 b1 b2 hb7
    go_wp2
    go_ret
    exact ⟨rfl, HX.out.trans (HL7.out.mono HX.out.size)⟩
set_option maxHeartbeats 4000000 in
set_option maxRecDepth 200000 in
theorem rorder_pe (na nb : Bool) (ua va : Option Addr) (un uc vn vc : Nat) (ea eb sa sb c : Int) (w : World) (hse0 : sa = sb) (hs : 0 ≤ sa) (hc : c = 0) (hc3 : -90000000000 ≤ c) (hc4 : c ≤ 90000000000)
    (kA : ∀ W, Below w.heap.size w W → Calls Tryz.prog 77 #[.agg #[.bool na, .slice ua un uc, .int .i64 ea]] W fun r w' => r = .returned (.int .i64 sa) ∧ Below W.heap.size W w')
    (kB : ∀ W, Below w.heap.size w W → Calls Tryz.prog 77 #[.agg #[.bool nb, .slice va vn vc, .int .i64 eb]] W fun r w' => r = .returned (.int .i64 sb) ∧ Below W.heap.size W w')
    (kM : ∀ W, Below w.heap.size w W → Calls Tryz.prog 78 #[.agg #[.bool na, .slice ua un uc, .int .i64 ea], .agg #[.bool nb, .slice va vn vc, .int .i64 eb]] W fun r w' => r = .returned (.int .i64 c) ∧ Below W.heap.size W w') :
    Calls Tryz.prog 32 #[.agg #[.bool na, .slice ua un uc, .int .i64 ea], .agg #[.bool nb, .slice va vn vc, .int .i64 eb]] w fun r w' => r = .returned (.int .i64 (0)) ∧ Below w.heap.size w w' := by
  obtain ⟨W, hW⟩ : ∃ W, W = (w.alloc (.cells #[.bool na, .slice ua un uc, .int .i64 ea] 45)).alloc (.cells #[.bool nb, .slice va vn vc, .int .i64 eb] 45) := ⟨_, rfl⟩
  obtain ⟨hA, hBb, hsz, hBW⟩ := two29 _ _ hW
  have HX : Hid (Below w.heap.size w W) := hBW
  have kA' : ∀ w4, Below W.heap.size W w4 → Calls Tryz.prog 77 #[.agg #[.bool na, .slice ua un uc, .int .i64 ea]] w4 fun r w' => r = .returned (.int .i64 sa) ∧ Below W.heap.size W w' := fun w4 h4 => (kA w4 (hBW.trans (h4.mono hBW.size))).mono fun r w' ⟨e1, o2⟩ => ⟨e1, h4.trans (o2.mono h4.size)⟩
  have kB' : ∀ w4, Below W.heap.size W w4 → Calls Tryz.prog 77 #[.agg #[.bool nb, .slice va vn vc, .int .i64 eb]] w4 fun r w' => r = .returned (.int .i64 sb) ∧ Below W.heap.size W w' := fun w4 h4 => (kB w4 (hBW.trans (h4.mono hBW.size))).mono fun r w' ⟨e1, o2⟩ => ⟨e1, h4.trans (o2.mono h4.size)⟩
  have kM' : ∀ w4, Below W.heap.size W w4 → Calls Tryz.prog 78 #[.agg #[.bool na, .slice ua un uc, .int .i64 ea], .agg #[.bool nb, .slice va vn vc, .int .i64 eb]] w4 fun r w' => r = .returned (.int .i64 c) ∧ Below W.heap.size W w' := fun w4 h4 => (kM w4 (hBW.trans (h4.mono hBW.size))).mono fun r w' ⟨e1, o2⟩ => ⟨e1, h4.trans (o2.mono h4.size)⟩
  have HKM : Hid (∀ w4, Below W.heap.size W w4 → Calls Tryz.prog 78 #[.agg #[.bool na, .slice ua un uc, .int .i64 ea], .agg #[.bool nb, .slice va vn vc, .int .i64 eb]] w4 fun r w' => r = .returned (.int .i64 c) ∧ Below W.heap.size W w') := kM'
  obtain ⟨⟨a0, a1, a2⟩, -⟩ := box_cells29 hA
  obtain ⟨⟨b0, b1, b2⟩, -⟩ := box_cells29 hBb
  have HK : Hid (∀ w', Below W.heap.size W w' → ((w'.cell? ⟨w.heap.size, 0, none⟩ = some (.bool na) ∧ w'.cell? ⟨w.heap.size, 1, none⟩ = some (.slice ua un uc) ∧ w'.cell? ⟨w.heap.size, 2, none⟩ = some (.int .i64 ea)) ∧ (w'.cell? ⟨w.heap.size + 1, 0, none⟩ = some (.bool nb) ∧ w'.cell? ⟨w.heap.size + 1, 1, none⟩ = some (.slice va vn vc) ∧ w'.cell? ⟨w.heap.size + 1, 2, none⟩ = some (.int .i64 eb)))) := fun w' hb => ⟨(box_cells29 (box_later hA hb (by omega))).1, (box_cells29 (box_later hBb hb (by omega))).1⟩
  have HRD : Hid (∀ w', Below W.heap.size W w' → Below W.heap.size W w'.drew) := fun w' h => h.trans ⟨rfl, rfl, rfl, Nat.le_refl _, fun _ _ => rfl⟩
  have hBR : Below W.heap.size W W.drew := (Below.refl _ _).drew
  have hse : (sa == sb) = true := by simp; omega
  have hse2 : (sa != sb) = false := by simp; omega
  have hs1 : ¬ sa < 0 := by omega
  have hc1 : ¬ c < 0 := by omega
  have hc2 : ¬ 0 < c := by omega
  clear kA kB kM kM' hA hBb hsz hBW hc3 hc4 hc hse0
  go_enter Tryz.func32, Tryz.ntmps32
  go_upto_region 1 with fail
  rw [← hW]
  clear hW
  go_cut [5, 6] from 8 to 11 (fun u v w' => u = .int .i64 sa ∧ v = .int .i64 sb ∧ Hid (Below W.heap.size W w'))
  case first =>
    go_region_held3 (fun w' => ((w'.cell? ⟨w.heap.size, 0, none⟩ = some (.bool na) ∧ w'.cell? ⟨w.heap.size, 1, none⟩ = some (.slice ua un uc) ∧ w'.cell? ⟨w.heap.size, 2, none⟩ = some (.int .i64 ea)) ∧ (w'.cell? ⟨w.heap.size + 1, 0, none⟩ = some (.bool nb) ∧ w'.cell? ⟨w.heap.size + 1, 1, none⟩ = some (.slice va vn vc) ∧ w'.cell? ⟨w.heap.size + 1, 2, none⟩ = some (.int .i64 eb)))) (first | (with_reducible assumption) | exact ⟨⟨a0, a1, a2⟩, b0, b1, b2⟩ | (refine HK.out _ ?_; with_reducible assumption) | go_keep)
      (first | (go_at_call 77; first | (with_reducible refine (kA' _ (by first | (with_reducible assumption) | exact hBR)).mono ?_; rintro r w5 ⟨rfl, hb5⟩) | (with_reducible refine (kB' _ (by first | (with_reducible assumption) | exact hBR)).mono ?_; rintro r w6 ⟨rfl, hb6⟩)))
    all_goals go_wp2_with fail
    all_goals go_meet
    all_goals exact ⟨rfl, rfl, by first | exact hb6 | exact hb5⟩
  case rest =>
    obtain ⟨rfl, rfl, hc⟩ := hcut
    obtain ⟨W2, rfl⟩ : ∃ W2 : World, W2 = wc := ⟨_, rfl⟩
    clear a0 a1 a2 b0 b1 b2 kA' kB' hBR
    have kM' := HKM.out W2 hc.out
    obtain ⟨⟨a0, a1, a2⟩, b0, b1, b2⟩ := HK.out W2 hc.out
    go_wp2_with fail
    refine kM'.mono ?_
    rintro r w7 ⟨rfl, hb7⟩
    have HL7 : Hid (Below W.heap.size W w7) := hb7
    clear kM' HK HKM a0 a1 a2 b0 b1 b2 hb7
    go_wp2
    go_ret
    exact ⟨rfl, HX.out.trans (HL7.out.mono HX.out.size)⟩
set_option maxHeartbeats 4000000 in
set_option maxRecDepth 200000 in
theorem rorder_nl (na nb : Bool) (ua va : Option Addr) (un uc vn vc : Nat) (ea eb sa sb c : Int) (w : World) (hse0 : sa = sb) (hs : sa < 0) (hc : c < 0) (hc3 : -90000000000 ≤ c) (hc4 : c ≤ 90000000000)
    (kA : ∀ W, Below w.heap.size w W → Calls Tryz.prog 77 #[.agg #[.bool na, .slice ua un uc, .int .i64 ea]] W fun r w' => r = .returned (.int .i64 sa) ∧ Below W.heap.size W w')
    (kB : ∀ W, Below w.heap.size w W → Calls Tryz.prog 77 #[.agg #[.bool nb, .slice va vn vc, .int .i64 eb]] W fun r w' => r = .returned (.int .i64 sb) ∧ Below W.heap.size W w')
    (kM : ∀ W, Below w.heap.size w W → Calls Tryz.prog 78 #[.agg #[.bool na, .slice ua un uc, .int .i64 ea], .agg #[.bool nb, .slice va vn vc, .int .i64 eb]] W fun r w' => r = .returned (.int .i64 c) ∧ Below W.heap.size W w') :
    Calls Tryz.prog 32 #[.agg #[.bool na, .slice ua un uc, .int .i64 ea], .agg #[.bool nb, .slice va vn vc, .int .i64 eb]] w fun r w' => r = .returned (.int .i64 (1)) ∧ Below w.heap.size w w' := by
  obtain ⟨W, hW⟩ : ∃ W, W = (w.alloc (.cells #[.bool na, .slice ua un uc, .int .i64 ea] 45)).alloc (.cells #[.bool nb, .slice va vn vc, .int .i64 eb] 45) := ⟨_, rfl⟩
  obtain ⟨hA, hBb, hsz, hBW⟩ := two29 _ _ hW
  have HX : Hid (Below w.heap.size w W) := hBW
  have kA' : ∀ w4, Below W.heap.size W w4 → Calls Tryz.prog 77 #[.agg #[.bool na, .slice ua un uc, .int .i64 ea]] w4 fun r w' => r = .returned (.int .i64 sa) ∧ Below W.heap.size W w' := fun w4 h4 => (kA w4 (hBW.trans (h4.mono hBW.size))).mono fun r w' ⟨e1, o2⟩ => ⟨e1, h4.trans (o2.mono h4.size)⟩
  have kB' : ∀ w4, Below W.heap.size W w4 → Calls Tryz.prog 77 #[.agg #[.bool nb, .slice va vn vc, .int .i64 eb]] w4 fun r w' => r = .returned (.int .i64 sb) ∧ Below W.heap.size W w' := fun w4 h4 => (kB w4 (hBW.trans (h4.mono hBW.size))).mono fun r w' ⟨e1, o2⟩ => ⟨e1, h4.trans (o2.mono h4.size)⟩
  have kM' : ∀ w4, Below W.heap.size W w4 → Calls Tryz.prog 78 #[.agg #[.bool na, .slice ua un uc, .int .i64 ea], .agg #[.bool nb, .slice va vn vc, .int .i64 eb]] w4 fun r w' => r = .returned (.int .i64 c) ∧ Below W.heap.size W w' := fun w4 h4 => (kM w4 (hBW.trans (h4.mono hBW.size))).mono fun r w' ⟨e1, o2⟩ => ⟨e1, h4.trans (o2.mono h4.size)⟩
  have HKM : Hid (∀ w4, Below W.heap.size W w4 → Calls Tryz.prog 78 #[.agg #[.bool na, .slice ua un uc, .int .i64 ea], .agg #[.bool nb, .slice va vn vc, .int .i64 eb]] w4 fun r w' => r = .returned (.int .i64 c) ∧ Below W.heap.size W w') := kM'
  obtain ⟨⟨a0, a1, a2⟩, -⟩ := box_cells29 hA
  obtain ⟨⟨b0, b1, b2⟩, -⟩ := box_cells29 hBb
  have HK : Hid (∀ w', Below W.heap.size W w' → ((w'.cell? ⟨w.heap.size, 0, none⟩ = some (.bool na) ∧ w'.cell? ⟨w.heap.size, 1, none⟩ = some (.slice ua un uc) ∧ w'.cell? ⟨w.heap.size, 2, none⟩ = some (.int .i64 ea)) ∧ (w'.cell? ⟨w.heap.size + 1, 0, none⟩ = some (.bool nb) ∧ w'.cell? ⟨w.heap.size + 1, 1, none⟩ = some (.slice va vn vc) ∧ w'.cell? ⟨w.heap.size + 1, 2, none⟩ = some (.int .i64 eb)))) := fun w' hb => ⟨(box_cells29 (box_later hA hb (by omega))).1, (box_cells29 (box_later hBb hb (by omega))).1⟩
  have HRD : Hid (∀ w', Below W.heap.size W w' → Below W.heap.size W w'.drew) := fun w' h => h.trans ⟨rfl, rfl, rfl, Nat.le_refl _, fun _ _ => rfl⟩
  have hBR : Below W.heap.size W W.drew := (Below.refl _ _).drew
  have hse : (sa == sb) = true := by simp; omega
  have hse2 : (sa != sb) = false := by simp; omega
  obtain ⟨d, hd⟩ : ∃ d, d = -c := ⟨_, rfl⟩
  have hdw : IntKind.i64.wrap d = d := by rw [IntKind.wrap_i64]; omega
  have hd1 : ¬ d < 0 := by omega
  have hd2 : 0 < d := by omega
  have hdn : -c = d := hd.symm
  clear kA kB kM kM' hA hBb hsz hBW hd hc hc3 hc4 hse0
  go_enter Tryz.func32, Tryz.ntmps32
  go_upto_region 1 with fail
  rw [← hW]
  clear hW
  go_cut [5, 6] from 8 to 11 (fun u v w' => u = .int .i64 sa ∧ v = .int .i64 sb ∧ Hid (Below W.heap.size W w'))
  case first =>
    go_region_held3 (fun w' => ((w'.cell? ⟨w.heap.size, 0, none⟩ = some (.bool na) ∧ w'.cell? ⟨w.heap.size, 1, none⟩ = some (.slice ua un uc) ∧ w'.cell? ⟨w.heap.size, 2, none⟩ = some (.int .i64 ea)) ∧ (w'.cell? ⟨w.heap.size + 1, 0, none⟩ = some (.bool nb) ∧ w'.cell? ⟨w.heap.size + 1, 1, none⟩ = some (.slice va vn vc) ∧ w'.cell? ⟨w.heap.size + 1, 2, none⟩ = some (.int .i64 eb)))) (first | (with_reducible assumption) | exact ⟨⟨a0, a1, a2⟩, b0, b1, b2⟩ | (refine HK.out _ ?_; with_reducible assumption) | go_keep)
      (first | (go_at_call 77; first | (with_reducible refine (kA' _ (by first | (with_reducible assumption) | exact hBR)).mono ?_; rintro r w5 ⟨rfl, hb5⟩) | (with_reducible refine (kB' _ (by first | (with_reducible assumption) | exact hBR)).mono ?_; rintro r w6 ⟨rfl, hb6⟩)))
    all_goals go_wp2_with fail
    all_goals go_meet
    all_goals exact ⟨rfl, rfl, by first | exact hb6 | exact hb5⟩
  case rest =>
    obtain ⟨rfl, rfl, hc⟩ := hcut
    obtain ⟨W2, rfl⟩ : ∃ W2 : World, W2 = wc := ⟨_, rfl⟩
    clear a0 a1 a2 b0 b1 b2 kA' kB' hBR
    have kM' := HKM.out W2 hc.out
    obtain ⟨⟨a0, a1, a2⟩, b0, b1, b2⟩ := HK.out W2 hc.out
    go_wp2_with fail
    refine kM'.mono ?_
    rintro r w7 ⟨rfl, hb7⟩
    have HL7 : Hid (Below W.heap.size W w7) := hb7
    clear kM' HK HKM a0 a1 a2 b0 b1 b2 hb7
    go_wp2
    go_ret
    exact ⟨rfl, HX.out.trans (HL7.out.mono HX.out.size)⟩
set_option maxHeartbeats 4000000 in
set_option maxRecDepth 200000 in
theorem rorder_ng (na nb : Bool) (ua va : Option Addr) (un uc vn vc : Nat) (ea eb sa sb c : Int) (w : World) (hse0 : sa = sb) (hs : sa < 0) (hc : 0 < c) (hc3 : -90000000000 ≤ c) (hc4 : c ≤ 90000000000)
    (kA : ∀ W, Below w.heap.size w W → Calls Tryz.prog 77 #[.agg #[.bool na, .slice ua un uc, .int .i64 ea]] W fun r w' => r = .returned (.int .i64 sa) ∧ Below W.heap.size W w')
    (kB : ∀ W, Below w.heap.size w W → Calls Tryz.prog 77 #[.agg #[.bool nb, .slice va vn vc, .int .i64 eb]] W fun r w' => r = .returned (.int .i64 sb) ∧ Below W.heap.size W w')
    (kM : ∀ W, Below w.heap.size w W → Calls Tryz.prog 78 #[.agg #[.bool na, .slice ua un uc, .int .i64 ea], .agg #[.bool nb, .slice va vn vc, .int .i64 eb]] W fun r w' => r = .returned (.int .i64 c) ∧ Below W.heap.size W w') :
    Calls Tryz.prog 32 #[.agg #[.bool na, .slice ua un uc, .int .i64 ea], .agg #[.bool nb, .slice va vn vc, .int .i64 eb]] w fun r w' => r = .returned (.int .i64 (-1)) ∧ Below w.heap.size w w' := by
  obtain ⟨W, hW⟩ : ∃ W, W = (w.alloc (.cells #[.bool na, .slice ua un uc, .int .i64 ea] 45)).alloc (.cells #[.bool nb, .slice va vn vc, .int .i64 eb] 45) := ⟨_, rfl⟩
  obtain ⟨hA, hBb, hsz, hBW⟩ := two29 _ _ hW
  have HX : Hid (Below w.heap.size w W) := hBW
  have kA' : ∀ w4, Below W.heap.size W w4 → Calls Tryz.prog 77 #[.agg #[.bool na, .slice ua un uc, .int .i64 ea]] w4 fun r w' => r = .returned (.int .i64 sa) ∧ Below W.heap.size W w' := fun w4 h4 => (kA w4 (hBW.trans (h4.mono hBW.size))).mono fun r w' ⟨e1, o2⟩ => ⟨e1, h4.trans (o2.mono h4.size)⟩
  have kB' : ∀ w4, Below W.heap.size W w4 → Calls Tryz.prog 77 #[.agg #[.bool nb, .slice va vn vc, .int .i64 eb]] w4 fun r w' => r = .returned (.int .i64 sb) ∧ Below W.heap.size W w' := fun w4 h4 => (kB w4 (hBW.trans (h4.mono hBW.size))).mono fun r w' ⟨e1, o2⟩ => ⟨e1, h4.trans (o2.mono h4.size)⟩
  have kM' : ∀ w4, Below W.heap.size W w4 → Calls Tryz.prog 78 #[.agg #[.bool na, .slice ua un uc, .int .i64 ea], .agg #[.bool nb, .slice va vn vc, .int .i64 eb]] w4 fun r w' => r = .returned (.int .i64 c) ∧ Below W.heap.size W w' := fun w4 h4 => (kM w4 (hBW.trans (h4.mono hBW.size))).mono fun r w' ⟨e1, o2⟩ => ⟨e1, h4.trans (o2.mono h4.size)⟩
  have HKM : Hid (∀ w4, Below W.heap.size W w4 → Calls Tryz.prog 78 #[.agg #[.bool na, .slice ua un uc, .int .i64 ea], .agg #[.bool nb, .slice va vn vc, .int .i64 eb]] w4 fun r w' => r = .returned (.int .i64 c) ∧ Below W.heap.size W w') := kM'
  obtain ⟨⟨a0, a1, a2⟩, -⟩ := box_cells29 hA
  obtain ⟨⟨b0, b1, b2⟩, -⟩ := box_cells29 hBb
  have HK : Hid (∀ w', Below W.heap.size W w' → ((w'.cell? ⟨w.heap.size, 0, none⟩ = some (.bool na) ∧ w'.cell? ⟨w.heap.size, 1, none⟩ = some (.slice ua un uc) ∧ w'.cell? ⟨w.heap.size, 2, none⟩ = some (.int .i64 ea)) ∧ (w'.cell? ⟨w.heap.size + 1, 0, none⟩ = some (.bool nb) ∧ w'.cell? ⟨w.heap.size + 1, 1, none⟩ = some (.slice va vn vc) ∧ w'.cell? ⟨w.heap.size + 1, 2, none⟩ = some (.int .i64 eb)))) := fun w' hb => ⟨(box_cells29 (box_later hA hb (by omega))).1, (box_cells29 (box_later hBb hb (by omega))).1⟩
  have HRD : Hid (∀ w', Below W.heap.size W w' → Below W.heap.size W w'.drew) := fun w' h => h.trans ⟨rfl, rfl, rfl, Nat.le_refl _, fun _ _ => rfl⟩
  have hBR : Below W.heap.size W W.drew := (Below.refl _ _).drew
  have hse : (sa == sb) = true := by simp; omega
  have hse2 : (sa != sb) = false := by simp; omega
  obtain ⟨d, hd⟩ : ∃ d, d = -c := ⟨_, rfl⟩
  have hdw : IntKind.i64.wrap d = d := by rw [IntKind.wrap_i64]; omega
  have hd1 : d < 0 := by omega
  have hdn : -c = d := hd.symm
  clear kA kB kM kM' hA hBb hsz hBW hd hc hc3 hc4 hse0
  go_enter Tryz.func32, Tryz.ntmps32
  go_upto_region 1 with fail
  rw [← hW]
  clear hW
  go_cut [5, 6] from 8 to 11 (fun u v w' => u = .int .i64 sa ∧ v = .int .i64 sb ∧ Hid (Below W.heap.size W w'))
  case first =>
    go_region_held3 (fun w' => ((w'.cell? ⟨w.heap.size, 0, none⟩ = some (.bool na) ∧ w'.cell? ⟨w.heap.size, 1, none⟩ = some (.slice ua un uc) ∧ w'.cell? ⟨w.heap.size, 2, none⟩ = some (.int .i64 ea)) ∧ (w'.cell? ⟨w.heap.size + 1, 0, none⟩ = some (.bool nb) ∧ w'.cell? ⟨w.heap.size + 1, 1, none⟩ = some (.slice va vn vc) ∧ w'.cell? ⟨w.heap.size + 1, 2, none⟩ = some (.int .i64 eb)))) (first | (with_reducible assumption) | exact ⟨⟨a0, a1, a2⟩, b0, b1, b2⟩ | (refine HK.out _ ?_; with_reducible assumption) | go_keep)
      (first | (go_at_call 77; first | (with_reducible refine (kA' _ (by first | (with_reducible assumption) | exact hBR)).mono ?_; rintro r w5 ⟨rfl, hb5⟩) | (with_reducible refine (kB' _ (by first | (with_reducible assumption) | exact hBR)).mono ?_; rintro r w6 ⟨rfl, hb6⟩)))
    all_goals go_wp2_with fail
    all_goals go_meet
    all_goals exact ⟨rfl, rfl, by first | exact hb6 | exact hb5⟩
  case rest =>
    obtain ⟨rfl, rfl, hc⟩ := hcut
    obtain ⟨W2, rfl⟩ : ∃ W2 : World, W2 = wc := ⟨_, rfl⟩
    clear a0 a1 a2 b0 b1 b2 kA' kB' hBR
    have kM' := HKM.out W2 hc.out
    obtain ⟨⟨a0, a1, a2⟩, b0, b1, b2⟩ := HK.out W2 hc.out
    go_wp2_with fail
    refine kM'.mono ?_
    rintro r w7 ⟨rfl, hb7⟩
    have HL7 : Hid (Below W.heap.size W w7) := hb7
    clear kM' HK HKM a0 a1 a2 b0 b1 b2 hb7
    go_wp2
    go_ret
    exact ⟨rfl, HX.out.trans (HL7.out.mono HX.out.size)⟩
set_option maxHeartbeats 4000000 in
set_option maxRecDepth 200000 in
theorem rorder_ne (na nb : Bool) (ua va : Option Addr) (un uc vn vc : Nat) (ea eb sa sb c : Int) (w : World) (hse0 : sa = sb) (hs : sa < 0) (hc : c = 0) (hc3 : -90000000000 ≤ c) (hc4 : c ≤ 90000000000)
    (kA : ∀ W, Below w.heap.size w W → Calls Tryz.prog 77 #[.agg #[.bool na, .slice ua un uc, .int .i64 ea]] W fun r w' => r = .returned (.int .i64 sa) ∧ Below W.heap.size W w')
    (kB : ∀ W, Below w.heap.size w W → Calls Tryz.prog 77 #[.agg #[.bool nb, .slice va vn vc, .int .i64 eb]] W fun r w' => r = .returned (.int .i64 sb) ∧ Below W.heap.size W w')
    (kM : ∀ W, Below w.heap.size w W → Calls Tryz.prog 78 #[.agg #[.bool na, .slice ua un uc, .int .i64 ea], .agg #[.bool nb, .slice va vn vc, .int .i64 eb]] W fun r w' => r = .returned (.int .i64 c) ∧ Below W.heap.size W w') :
    Calls Tryz.prog 32 #[.agg #[.bool na, .slice ua un uc, .int .i64 ea], .agg #[.bool nb, .slice va vn vc, .int .i64 eb]] w fun r w' => r = .returned (.int .i64 (0)) ∧ Below w.heap.size w w' := by
  obtain ⟨W, hW⟩ : ∃ W, W = (w.alloc (.cells #[.bool na, .slice ua un uc, .int .i64 ea] 45)).alloc (.cells #[.bool nb, .slice va vn vc, .int .i64 eb] 45) := ⟨_, rfl⟩
  obtain ⟨hA, hBb, hsz, hBW⟩ := two29 _ _ hW
  have HX : Hid (Below w.heap.size w W) := hBW
  have kA' : ∀ w4, Below W.heap.size W w4 → Calls Tryz.prog 77 #[.agg #[.bool na, .slice ua un uc, .int .i64 ea]] w4 fun r w' => r = .returned (.int .i64 sa) ∧ Below W.heap.size W w' := fun w4 h4 => (kA w4 (hBW.trans (h4.mono hBW.size))).mono fun r w' ⟨e1, o2⟩ => ⟨e1, h4.trans (o2.mono h4.size)⟩
  have kB' : ∀ w4, Below W.heap.size W w4 → Calls Tryz.prog 77 #[.agg #[.bool nb, .slice va vn vc, .int .i64 eb]] w4 fun r w' => r = .returned (.int .i64 sb) ∧ Below W.heap.size W w' := fun w4 h4 => (kB w4 (hBW.trans (h4.mono hBW.size))).mono fun r w' ⟨e1, o2⟩ => ⟨e1, h4.trans (o2.mono h4.size)⟩
  have kM' : ∀ w4, Below W.heap.size W w4 → Calls Tryz.prog 78 #[.agg #[.bool na, .slice ua un uc, .int .i64 ea], .agg #[.bool nb, .slice va vn vc, .int .i64 eb]] w4 fun r w' => r = .returned (.int .i64 c) ∧ Below W.heap.size W w' := fun w4 h4 => (kM w4 (hBW.trans (h4.mono hBW.size))).mono fun r w' ⟨e1, o2⟩ => ⟨e1, h4.trans (o2.mono h4.size)⟩
  have HKM : Hid (∀ w4, Below W.heap.size W w4 → Calls Tryz.prog 78 #[.agg #[.bool na, .slice ua un uc, .int .i64 ea], .agg #[.bool nb, .slice va vn vc, .int .i64 eb]] w4 fun r w' => r = .returned (.int .i64 c) ∧ Below W.heap.size W w') := kM'
  obtain ⟨⟨a0, a1, a2⟩, -⟩ := box_cells29 hA
  obtain ⟨⟨b0, b1, b2⟩, -⟩ := box_cells29 hBb
  have HK : Hid (∀ w', Below W.heap.size W w' → ((w'.cell? ⟨w.heap.size, 0, none⟩ = some (.bool na) ∧ w'.cell? ⟨w.heap.size, 1, none⟩ = some (.slice ua un uc) ∧ w'.cell? ⟨w.heap.size, 2, none⟩ = some (.int .i64 ea)) ∧ (w'.cell? ⟨w.heap.size + 1, 0, none⟩ = some (.bool nb) ∧ w'.cell? ⟨w.heap.size + 1, 1, none⟩ = some (.slice va vn vc) ∧ w'.cell? ⟨w.heap.size + 1, 2, none⟩ = some (.int .i64 eb)))) := fun w' hb => ⟨(box_cells29 (box_later hA hb (by omega))).1, (box_cells29 (box_later hBb hb (by omega))).1⟩
  have HRD : Hid (∀ w', Below W.heap.size W w' → Below W.heap.size W w'.drew) := fun w' h => h.trans ⟨rfl, rfl, rfl, Nat.le_refl _, fun _ _ => rfl⟩
  have hBR : Below W.heap.size W W.drew := (Below.refl _ _).drew
  have hse : (sa == sb) = true := by simp; omega
  have hse2 : (sa != sb) = false := by simp; omega
  obtain ⟨d, hd⟩ : ∃ d, d = -c := ⟨_, rfl⟩
  have hdw : IntKind.i64.wrap d = d := by rw [IntKind.wrap_i64]; omega
  have hd1 : ¬ d < 0 := by omega
  have hd2 : ¬ 0 < d := by omega
  have hdn : -c = d := hd.symm
  clear kA kB kM kM' hA hBb hsz hBW hd hc hc3 hc4 hse0
  go_enter Tryz.func32, Tryz.ntmps32
  go_upto_region 1 with fail
  rw [← hW]
  clear hW
  go_cut [5, 6] from 8 to 11 (fun u v w' => u = .int .i64 sa ∧ v = .int .i64 sb ∧ Hid (Below W.heap.size W w'))
  case first =>
    go_region_held3 (fun w' => ((w'.cell? ⟨w.heap.size, 0, none⟩ = some (.bool na) ∧ w'.cell? ⟨w.heap.size, 1, none⟩ = some (.slice ua un uc) ∧ w'.cell? ⟨w.heap.size, 2, none⟩ = some (.int .i64 ea)) ∧ (w'.cell? ⟨w.heap.size + 1, 0, none⟩ = some (.bool nb) ∧ w'.cell? ⟨w.heap.size + 1, 1, none⟩ = some (.slice va vn vc) ∧ w'.cell? ⟨w.heap.size + 1, 2, none⟩ = some (.int .i64 eb)))) (first | (with_reducible assumption) | exact ⟨⟨a0, a1, a2⟩, b0, b1, b2⟩ | (refine HK.out _ ?_; with_reducible assumption) | go_keep)
      (first | (go_at_call 77; first | (with_reducible refine (kA' _ (by first | (with_reducible assumption) | exact hBR)).mono ?_; rintro r w5 ⟨rfl, hb5⟩) | (with_reducible refine (kB' _ (by first | (with_reducible assumption) | exact hBR)).mono ?_; rintro r w6 ⟨rfl, hb6⟩)))
    all_goals go_wp2_with fail
    all_goals go_meet
    all_goals exact ⟨rfl, rfl, by first | exact hb6 | exact hb5⟩
  case rest =>
    obtain ⟨rfl, rfl, hc⟩ := hcut
    obtain ⟨W2, rfl⟩ : ∃ W2 : World, W2 = wc := ⟨_, rfl⟩
    clear a0 a1 a2 b0 b1 b2 kA' kB' hBR
    have kM' := HKM.out W2 hc.out
    obtain ⟨⟨a0, a1, a2⟩, b0, b1, b2⟩ := HK.out W2 hc.out
    go_wp2_with fail
    refine kM'.mono ?_
    rintro r w7 ⟨rfl, hb7⟩
    have HL7 : Hid (Below W.heap.size W w7) := hb7
    clear kM' HK HKM a0 a1 a2 b0 b1 b2 hb7
    go_wp2
    go_ret
    exact ⟨rfl, HX.out.trans (HL7.out.mono HX.out.size)⟩
end Go.Proofs.YtcoclopllbfjcaaGreatDoor
/- The document's Order and Cmp, joined. -/
namespace Go.Proofs.YtcoclopllbfjcaaGreatDoor
set_option linter.unusedVariables false
set_option linter.unusedSimpArgs false
open Go.RowKit

theorem magI_sign {x y : Nat} {ea eb : Int} : cmpI (magI x ea y eb) 0 = cmpI (x * 2 ^ (ea - min ea eb).toNat : Nat) (y * 2 ^ (eb - min ea eb).toNat : Nat) := by
  unfold magI
  by_cases h0 : x = 0 ∨ y = 0
  · rw [if_pos h0]
    by_cases hx : x = 0
    · subst hx
      rw [dlen_zero, Nat.zero_mul]
      by_cases hy : y = 0
      · subst hy; rw [dlen_zero, Nat.zero_mul]; rfl
      · have h1 : dlen y ≠ 0 := fun e => hy (dlen_eq_zero.1 e)
        have h2 : 0 < y * 2 ^ (eb - min ea eb).toNat := Nat.mul_pos (by omega) (Nat.two_pow_pos _)
        unfold cmpI
        rw [if_pos (by omega), if_pos (by omega)]
    · have hy : y = 0 := by omega
      subst hy
      rw [dlen_zero, Nat.zero_mul]
      have h1 : dlen x ≠ 0 := fun e => hx (dlen_eq_zero.1 e)
      have h2 : 0 < x * 2 ^ (ea - min ea eb).toNat := Nat.mul_pos (by omega) (Nat.two_pow_pos _)
      unfold cmpI
      rw [if_neg (by omega), if_pos (by omega), if_neg (by omega), if_pos (by omega)]
  · rw [if_neg h0]
    have hx0 : x ≠ 0 := fun e => h0 (.inl e)
    have hy0 : y ≠ 0 := fun e => h0 (.inr e)
    by_cases ht : (bl x : Int) + ea = bl y + eb
    · rw [if_pos ht]
      rcases cmpI_cases (x * 2 ^ (ea - min ea eb).toNat : Nat) (y * 2 ^ (eb - min ea eb).toNat : Nat) with h | h | h <;> rw [h.2] <;> rfl
    · rw [if_neg ht]
      rcases cmpI_cases (bl x + ea) (bl y + eb) with h | h | h
      · have := top_lt (x := x) (k := (ea - min ea eb).toNat) (l := (eb - min ea eb).toNat) hy0 (by omega)
        unfold cmpI; rw [if_pos (by omega), if_pos (by omega)]
      · have := top_lt (x := y) (y := x) (k := (eb - min ea eb).toNat) (l := (ea - min ea eb).toNat) hx0 (by omega)
        unfold cmpI; rw [if_neg (by omega), if_pos (by omega), if_neg (by omega), if_pos (by omega)]
      · exact absurd h.1 ht
theorem magI_le {x y : Nat} {ea eb : Int} (hx : dlen x ≤ 400000) (hy : dlen y ≤ 400000) (ha : -2000000 ≤ ea ∧ ea ≤ 2000000) (hb : -2000000 ≤ eb ∧ eb ≤ 2000000) : -90000000000 ≤ magI x ea y eb ∧ magI x ea y eb ≤ 90000000000 := by
  have b1 := bl_le_dlen x
  have b2 := bl_le_dlen y
  unfold magI
  split
  · omega
  · split
    · rcases cmpI_cases (x * 2 ^ (ea - min ea eb).toNat : Nat) (y * 2 ^ (eb - min ea eb).toNat : Nat) with h | h | h <;> rw [h.2] <;> omega
    · omega
/-- Order answers as Cmp -/
theorem rorder {na nb : Bool} {ua va : Option Addr} {uc vc x y : Nat} {ea eb : Int} {w : World} (h1 : Arg w ua (dlen x) uc x) (h2 : Arg w va (dlen y) vc y) (hx : dlen x ≤ 400000) (hy : dlen y ≤ 400000) (ha : -2000000 ≤ ea ∧ ea ≤ 2000000) (hb : -2000000 ≤ eb ∧ eb ≤ 2000000) :
    Calls Tryz.prog 32 #[.agg #[.bool na, .slice ua (dlen x) uc, .int .i64 ea], .agg #[.bool nb, .slice va (dlen y) vc, .int .i64 eb]] w fun r w' => r = .returned (.int .i64 (ordN na x ea nb y eb)) ∧ Below w.heap.size w w' := by
  have kA : ∀ W, Below w.heap.size w W → Calls Tryz.prog 77 #[.agg #[.bool na, .slice ua (dlen x) uc, .int .i64 ea]] W fun r w' => r = .returned (.int .i64 (sgI na (dlen x))) ∧ Below W.heap.size W w' := fun W hW => rsgn (by omega)
  have kB : ∀ W, Below w.heap.size w W → Calls Tryz.prog 77 #[.agg #[.bool nb, .slice va (dlen y) vc, .int .i64 eb]] W fun r w' => r = .returned (.int .i64 (sgI nb (dlen y))) ∧ Below W.heap.size W w' := fun W hW => rsgn (by omega)
  have kM : ∀ W, Below w.heap.size w W → Calls Tryz.prog 78 #[.agg #[.bool na, .slice ua (dlen x) uc, .int .i64 ea], .agg #[.bool nb, .slice va (dlen y) vc, .int .i64 eb]] W fun r w' => r = .returned (.int .i64 (magI x ea y eb)) ∧ Below W.heap.size W w' := fun W hW => rmag (h1.later hW) (h2.later hW) hx hy ha hb
  have hl := magI_le (ea := ea) (eb := eb) hx hy ha hb
  have hm := magI_sign (x := x) (y := y) (ea := ea) (eb := eb)
  unfold ordN
  rw [← hm]
  generalize hsa : sgI na (dlen x) = sa at *
  generalize hsb : sgI nb (dlen y) = sb at *
  generalize magI x ea y eb = c at *
  by_cases hs : sa = sb
  · rw [if_pos hs]
    have hs3 : sa = 0 ∨ sa = -1 ∨ sa = 1 := by
      rw [← hsa]; unfold sgI
      split
      · exact .inl rfl
      · split
        · exact .inr (.inl rfl)
        · exact .inr (.inr rfl)
    by_cases hsn : sa < 0
    · have hs1 : sa = -1 := by omega
      rcases cmpI_cases c 0 with h | h | h
      · rw [h.2, show sa * -1 = 1 by omega]; exact rorder_nl na nb ua va _ uc _ vc ea eb sa sb c w hs hsn h.1 hl.1 hl.2 kA kB kM
      · rw [h.2, show sa * 1 = -1 by omega]; exact rorder_ng na nb ua va _ uc _ vc ea eb sa sb c w hs hsn h.1 hl.1 hl.2 kA kB kM
      · rw [h.2, Int.mul_zero]; exact rorder_ne na nb ua va _ uc _ vc ea eb sa sb c w hs hsn h.1 hl.1 hl.2 kA kB kM
    · by_cases h0 : sa = 0
      · have hc0 : c = 0 := by
          have hdx : dlen x = 0 := by
            apply Decidable.byContradiction
            intro hne
            rw [h0, sgI_pos hne] at hsa
            cases na <;> simp at hsa
          have hdy : dlen y = 0 := by
            apply Decidable.byContradiction
            intro hne
            rw [← hs, h0, sgI_pos hne] at hsb
            cases nb <;> simp at hsb
          have ex : x = 0 := dlen_eq_zero.1 hdx
          have ey : y = 0 := dlen_eq_zero.1 hdy
          subst ex; subst ey
          rw [Nat.zero_mul, Nat.zero_mul] at hm
          rcases cmpI_cases c 0 with h | h | h
          · rw [h.2] at hm; exact absurd hm (by decide)
          · rw [h.2] at hm; exact absurd hm (by decide)
          · exact h.1
        rw [show sa * cmpI c 0 = 0 by rw [h0, Int.zero_mul]]
        exact rorder_pe na nb ua va _ uc _ vc ea eb sa sb c w hs (by omega) hc0 hl.1 hl.2 kA kB kM
      · have hs1 : sa = 1 := by omega
        rw [show sa * cmpI c 0 = cmpI c 0 by rw [hs1, Int.one_mul]]
        rcases cmpI_cases c 0 with h | h | h
        · rw [h.2]; exact rorder_pl na nb ua va _ uc _ vc ea eb sa sb c w hs (by omega) h.1 hl.1 hl.2 kA kB kM
        · rw [h.2]; exact rorder_pg na nb ua va _ uc _ vc ea eb sa sb c w hs (by omega) h.1 hl.1 hl.2 kA kB kM
        · rw [h.2]; exact rorder_pe na nb ua va _ uc _ vc ea eb sa sb c w hs (by omega) h.1 hl.1 hl.2 kA kB kM
  · rw [if_neg hs]
    unfold cmpI
    by_cases hlt : sa < sb
    · rw [if_pos hlt]; exact rorder_lt na nb ua va _ uc _ vc ea eb sa sb c w hlt kA kB
    · rw [if_neg hlt, if_pos (by omega)]; exact rorder_gt na nb ua va _ uc _ vc ea eb sa sb c w hlt hs kA kB
end Go.Proofs.YtcoclopllbfjcaaGreatDoor
/- The document's root, rounded: the program's float. -/
namespace Go.Proofs.YtcoclopllbfjcaaGreatDoor
set_option linter.unusedVariables false
set_option linter.unusedSimpArgs false
open Go.RowKit Go.Fl64

end Go.Proofs.YtcoclopllbfjcaaGreatDoor
/- Square roots of numbers: the program's and the document's are one float; Sqrt of floats. -/
namespace Go.Proofs.YtcoclopllbfjcaaGreatDoor
set_option linter.unusedVariables false
set_option linter.unusedSimpArgs false
open Go.RowKit Go.Fl64

end Go.Proofs.YtcoclopllbfjcaaGreatDoor
/- Hypot of floats, on both sides. -/
namespace Go.Proofs.YtcoclopllbfjcaaGreatDoor
set_option linter.unusedVariables false
set_option linter.unusedSimpArgs false
open Go.RowKit Go.Fl64

theorem dn_store {w : World} {A : Value} {t : Bool × Nat × Int} {g : Nat} (h : DN w A t) (hg : w.heap[g]? = some (.cells #[.bool false, .slice none 0 0, .int .i64 0] 45 (0, 0))) (a b c : Value) : DN (((w.setCell ⟨g, 0, none⟩ a).setCell ⟨g, 1, none⟩ b).setCell ⟨g, 2, none⟩ c) A t := by
  obtain ⟨ao, cap, h1, h2⟩ := h
  exact ⟨ao, cap, h1, h2.nil, at_box h2.at_ rfl hg (by simp) (by simp) (by simp) a b c, h2.le, h2.small⟩
/-- a number of the document in its box, made since a world -/
def BxD (w3 wc : World) (g : Nat) (s : Bool) (ao : Option Addr) (n cap : Nat) (ex : Int) (t : Bool × Nat × Int) : Prop := wc.heap[g]? = some (.cells #[.bool s, .slice ao n cap, .int .i64 ex] 45 (0, 0)) ∧ w3.heap.size ≤ g ∧ Below w3.heap.size w3 wc ∧ DN wc (.agg #[.bool s, .slice ao n cap, .int .i64 ex]) t
theorem BxD.new {w3 w7 : World} {s : Bool} {ao : Option Addr} {n cap : Nat} {ex : Int} {t : Bool × Nat × Int} (hn : DN w7 (.agg #[.bool s, .slice ao n cap, .int .i64 ex]) t) (hb : Below w3.heap.size w3 w7) : BxD w3 (w7.alloc (.cells #[.bool s, .slice ao n cap, .int .i64 ex] 45)) w7.heap.size s ao n cap ex t :=
  ⟨heap_alloc_new _ _, hb.size, hb.alloc hb.size _, hn.later ((Below.refl _ _).alloc (Nat.le_refl _) _)⟩
theorem BxD.put {w3 w7 : World} {g : Nat} {s : Bool} {ao : Option Addr} {n cap : Nat} {ex : Int} {t : Bool × Nat × Int} (hn : DN w7 (.agg #[.bool s, .slice ao n cap, .int .i64 ex]) t) (hb : Below w3.heap.size w3 w7) (hg : w3.heap.size ≤ g) (hbx : w7.heap[g]? = some (.cells #[.bool false, .slice none 0 0, .int .i64 0] 45 (0, 0))) :
    BxD w3 (((w7.setCell ⟨g, 0, none⟩ (.bool s)).setCell ⟨g, 1, none⟩ (.slice ao n cap)).setCell ⟨g, 2, none⟩ (.int .i64 ex)) g s ao n cap ex t :=
  ⟨store3_29 _ _ _ hbx, hg, below_store3 hb hg _ _ _, dn_store hn hbx _ _ _⟩

end Go.Proofs.YtcoclopllbfjcaaGreatDoor
/- sums.Row. -/
namespace Go.Proofs.YtcoclopllbfjcaaGreatDoor
set_option linter.unusedVariables false
set_option linter.unusedSimpArgs false
open Go.RowKit Go.Fl64

end Go.Proofs.YtcoclopllbfjcaaGreatDoor
/- sums.Kept. -/
namespace Go.Proofs.YtcoclopllbfjcaaGreatDoor
set_option linter.unusedVariables false
set_option linter.unusedSimpArgs false
open Go.RowKit Go.Fl64

end Go.Proofs.YtcoclopllbfjcaaGreatDoor
/- sums.Halves. -/
namespace Go.Proofs.YtcoclopllbfjcaaGreatDoor
set_option linter.unusedVariables false
set_option linter.unusedSimpArgs false
open Go.RowKit Go.Fl64

end Go.Proofs.YtcoclopllbfjcaaGreatDoor
/- sums.anyNaN, sums.allFinite, sums.allMinusNought. -/
namespace Go.Proofs.YtcoclopllbfjcaaGreatDoor
set_option linter.unusedVariables false
set_option linter.unusedSimpArgs false
open Go.RowKit Go.Fl64

end Go.Proofs.YtcoclopllbfjcaaGreatDoor
/- sums.checked of one list. -/
namespace Go.Proofs.YtcoclopllbfjcaaGreatDoor
set_option linter.unusedVariables false
set_option linter.unusedSimpArgs false
open Go.RowKit Go.Fl64

end Go.Proofs.YtcoclopllbfjcaaGreatDoor
/- A float made whole, with a sign: what the law's own test asks. -/
namespace Go.Proofs.YtcoclopllbfjcaaGreatDoor
set_option linter.unusedVariables false
set_option linter.unusedSimpArgs false
open Go.RowKit Go.Fl64

end Go.Proofs.YtcoclopllbfjcaaGreatDoor
/- The program's leastRest: the least that is left. -/
namespace Go.Proofs.YtcoclopllbfjcaaGreatDoor
set_option linter.unusedVariables false
set_option linter.unusedSimpArgs false
open Go.RowKit Go.Fl64

/-- a number in its box, made since a world -/
def BxP (w3 wc : World) (g : Nat) (s : Bool) (ao : Option Addr) (n cap : Nat) (ex : Int) (t : Bool × Nat × Int) : Prop := wc.heap[g]? = some (.cells #[.bool s, .slice ao n cap, .int .i64 ex] 96 (0, 0)) ∧ w3.heap.size ≤ g ∧ Below w3.heap.size w3 wc ∧ PN wc (.agg #[.bool s, .slice ao n cap, .int .i64 ex]) t
theorem BxP.new {w3 w7 : World} {s : Bool} {ao : Option Addr} {n cap : Nat} {ex : Int} {t : Bool × Nat × Int} (hn : PN w7 (.agg #[.bool s, .slice ao n cap, .int .i64 ex]) t) (hb : Below w3.heap.size w3 w7) : BxP w3 (w7.alloc (.cells #[.bool s, .slice ao n cap, .int .i64 ex] 96)) w7.heap.size s ao n cap ex t :=
  ⟨heap_alloc_new _ _, hb.size, hb.alloc hb.size _, hn.later ((Below.refl _ _).alloc (Nat.le_refl _) _)⟩
theorem BxP.put {w3 w7 : World} {g : Nat} {s : Bool} {ao : Option Addr} {n cap : Nat} {ex : Int} {t : Bool × Nat × Int} (hn : PN w7 (.agg #[.bool s, .slice ao n cap, .int .i64 ex]) t) (hb : Below w3.heap.size w3 w7) (hg : w3.heap.size ≤ g) (hbx : w7.heap[g]? = some (.cells #[.bool false, .slice none 0 0, .int .i64 0] 96 (0, 0))) :
    BxP w3 (((w7.setCell ⟨g, 0, none⟩ (.bool s)).setCell ⟨g, 1, none⟩ (.slice ao n cap)).setCell ⟨g, 2, none⟩ (.int .i64 ex)) g s ao n cap ex t :=
  ⟨store3 _ _ _ hbx, hg, below_store3 hb hg _ _ _, pn_store hn hbx _ _ _⟩

end Go.Proofs.YtcoclopllbfjcaaGreatDoor
/- The program's leastRest: its other ways out. -/
namespace Go.Proofs.YtcoclopllbfjcaaGreatDoor
set_option linter.unusedVariables false
set_option linter.unusedSimpArgs false
open Go.RowKit Go.Fl64

end Go.Proofs.YtcoclopllbfjcaaGreatDoor
/- The law's own test of layer 3: it answers true. -/
namespace Go.Proofs.YtcoclopllbfjcaaGreatDoor
set_option linter.unusedVariables false
set_option linter.unusedSimpArgs false
open Go.RowKit Go.Fl64

end Go.Proofs.YtcoclopllbfjcaaGreatDoor
/- The program's odd: whether a whole number is odd. -/
namespace Go.Proofs.YtcoclopllbfjcaaGreatDoor
set_option linter.unusedVariables false
set_option linter.unusedSimpArgs false
open Go.RowKit Go.Fl64

end Go.Proofs.YtcoclopllbfjcaaGreatDoor
/- What is left of a division to the nearest: in numbers. -/
namespace Go.Proofs.YtcoclopllbfjcaaGreatDoor
set_option linter.unusedVariables false
set_option linter.unusedSimpArgs false
open Go.RowKit Go.Fl64

end Go.Proofs.YtcoclopllbfjcaaGreatDoor
/- The program's leastRest: what it answers, in numbers. -/
namespace Go.Proofs.YtcoclopllbfjcaaGreatDoor
set_option linter.unusedVariables false
set_option linter.unusedSimpArgs false
open Go.RowKit Go.Fl64

theorem vz_cnF {K : Nat} {lo hi : Int} {s : Bool} {z : Nat} {e : Int} (h : Fits lo hi z e) (hK : 0 ≤ lo + K) : vz K (cn s z e).1 (cn s z e).2.1 (cn s z e).2.2 = vz K s z e := by
  rcases h with h | ⟨h, -, -⟩
  · subst h; rw [show cn s 0 e = (false, 0, 0) from if_pos rfl, vz_zero, vz_zero]
  · exact vz_cn (by omega)
end Go.Proofs.YtcoclopllbfjcaaGreatDoor
/- The program's leastRest: what is left of a division to the nearest. -/
namespace Go.Proofs.YtcoclopllbfjcaaGreatDoor
set_option linter.unusedVariables false
set_option linter.unusedSimpArgs false
open Go.RowKit Go.Fl64

end Go.Proofs.YtcoclopllbfjcaaGreatDoor
/- The program's leastRest and Rest. -/
namespace Go.Proofs.YtcoclopllbfjcaaGreatDoor
set_option linter.unusedVariables false
set_option linter.unusedSimpArgs false
open Go.RowKit Go.Fl64

end Go.Proofs.YtcoclopllbfjcaaGreatDoor
/- The program's Rest, all its ways out. -/
namespace Go.Proofs.YtcoclopllbfjcaaGreatDoor
set_option linter.unusedVariables false
set_option linter.unusedSimpArgs false
open Go.RowKit Go.Fl64

end Go.Proofs.YtcoclopllbfjcaaGreatDoor
/- The document's Rest, walked over what it calls. -/
namespace Go.Proofs.YtcoclopllbfjcaaGreatDoor
set_option linter.unusedVariables false
set_option linter.unusedSimpArgs false
open Go.RowKit Go.Fl64

end Go.Proofs.YtcoclopllbfjcaaGreatDoor
/- The document's Over, Scaled, Less of numbers in their shortest form. -/
namespace Go.Proofs.YtcoclopllbfjcaaGreatDoor
set_option linter.unusedVariables false
set_option linter.unusedSimpArgs false
open Go.RowKit Go.Fl64

end Go.Proofs.YtcoclopllbfjcaaGreatDoor
/- The exact sum of a list in numbers: how great it can be. -/
namespace Go.Proofs.YtcoclopllbfjcaaGreatDoor
set_option linter.unusedVariables false
set_option linter.unusedSimpArgs false
open Go.RowKit Go.Fl64

theorem vz_tS {K : Nat} {lo hi : Int} {t1 t2 : Bool × Nat × Int} (h1 : Fits lo hi t1.2.1 t1.2.2) (h2 : Fits lo hi t2.2.1 t2.2.2) (e1 : 0 ≤ t1.2.2 + K) (e2 : 0 ≤ t2.2.2 + K) (hK : 0 ≤ lo + K) : vz K (tS t1 t2).1 (tS t1 t2).2.1 (tS t1 t2).2.2 = vz K t1.1 t1.2.1 t1.2.2 + vz K t2.1 t2.2.1 t2.2.2 := by
  unfold tS
  rw [vz_cnF (Fits.sum h1 h2) hK, vz_sumN e1 e2]

end Go.Proofs.YtcoclopllbfjcaaGreatDoor
/- Numbers written in base 16. -/
namespace Go.Proofs.YtcoclopllbfjcaaGreatDoor
set_option linter.unusedVariables false
set_option linter.unusedSimpArgs false
open Go.RowKit

end Go.Proofs.YtcoclopllbfjcaaGreatDoor
/- strings.Repeat of the sign for nought. -/
namespace Go.Proofs.YtcoclopllbfjcaaGreatDoor
set_option linter.unusedVariables false
set_option linter.unusedSimpArgs false
open Go.RowKit

end Go.Proofs.YtcoclopllbfjcaaGreatDoor
/- Show, of any number. -/
namespace Go.Proofs.YtcoclopllbfjcaaGreatDoor
set_option linter.unusedVariables false
set_option linter.unusedSimpArgs false
open Go.RowKit

end Go.Proofs.YtcoclopllbfjcaaGreatDoor
/- Sign, Bits, Top, Cmp, Show: refused; Bits, Top; Show of nought. -/
namespace Go.Proofs.YtcoclopllbfjcaaGreatDoor
set_option linter.unusedVariables false
set_option linter.unusedSimpArgs false
open Go.RowKit

end Go.Proofs.YtcoclopllbfjcaaGreatDoor
/- The document's decimal. -/
namespace Go.Proofs.YtcoclopllbfjcaaGreatDoor
set_option linter.unusedVariables false
set_option linter.unusedSimpArgs false
open Go.RowKit

end Go.Proofs.YtcoclopllbfjcaaGreatDoor
/- The document's hex. -/
namespace Go.Proofs.YtcoclopllbfjcaaGreatDoor
set_option linter.unusedVariables false
set_option linter.unusedSimpArgs false
open Go.RowKit

/-- a row of bytes that was made here -/
def OB (w wr : World) (v : Value) (L : List UInt8) : Prop := wr.ownsRow w.heap.size 5 1 v L.length (Lib.byteCells L) ∧ Below w.heap.size w wr
theorem OB.shape {w wr : World} {v : Value} {L : List UInt8} (h : OB w wr v L) : ∃ ao cap, v = .slice ao L.length cap := by
  obtain ⟨⟨-, h | ⟨g, cap, cur, h, -⟩⟩, -⟩ := h
  · exact ⟨none, 0, by rw [h.1, h.2]⟩
  · exact ⟨_, _, h⟩
end Go.Proofs.YtcoclopllbfjcaaGreatDoor
/- The document's Show. -/
namespace Go.Proofs.YtcoclopllbfjcaaGreatDoor
set_option linter.unusedVariables false
set_option linter.unusedSimpArgs false
open Go.RowKit

end Go.Proofs.YtcoclopllbfjcaaGreatDoor
/- The document's Neg, Abs. -/
namespace Go.Proofs.YtcoclopllbfjcaaGreatDoor
set_option linter.unusedVariables false
set_option linter.unusedSimpArgs false
open Go.RowKit

end Go.Proofs.YtcoclopllbfjcaaGreatDoor
/- DyadAsks: the calls of both sides joined. -/
namespace Go.Proofs.YtcoclopllbfjcaaGreatDoor
set_option linter.unusedVariables false
set_option linter.unusedSimpArgs false
open Go.RowKit

/-- what the program holds -/
theorem PI.open {na : Bool} {un x : Nat} {ea : Int} {W : World} {X : Value} (hX : PI na un x ea W X) : ∃ pa pc, X = .agg #[.bool na, .slice pa un pc, .int .i64 ea] ∧ At W pa un x := by
  obtain ⟨v, b, rfl, d1⟩ := hX
  obtain ⟨pa, pc, rfl, p1, p2⟩ := d1.at
  exact ⟨pa, pc, rfl, p2⟩
theorem PI.is {na : Bool} {x : Nat} {ea : Int} {W : World} {X : Value} (hX : PI na (dlen x) x ea W X) : ∃ pa pc, X = .agg #[.bool na, .slice pa (dlen x) pc, .int .i64 ea] ∧ Is W (.slice pa (dlen x) pc) x := by
  obtain ⟨v, b, rfl, d1⟩ := hX
  obtain ⟨pa, pc, e1, i1⟩ := dn_pn (s := na) (e := ea) d1
  exact ⟨pa, pc, e1, i1⟩

end Go.Proofs.YtcoclopllbfjcaaGreatDoor
/- DyadOrder. -/
namespace Go.Proofs.YtcoclopllbfjcaaGreatDoor
set_option linter.unusedVariables false
set_option linter.unusedSimpArgs false
open Go.RowKit Go.Fl64

/-- what is rounded of two numbers is in their order -/
theorem ord_round {K : Nat} (hK : 70000 ≤ K) {s t : Bool} {x y : Nat} {e f m : Int} (hx : Ok (s, x, e)) (hy : Ok (t, y, f)) (hm : 1 ≤ m ∧ m ≤ 3) (h : vz K s x e ≤ vz K t y f) : stp (tfF s true x e m) ≤ stp (tfF t true y f m) := by
  have f1 := hx.facts
  have f2 := hy.facts
  simp only at f1 f2
  rw [tf_bdy hm, tf_bdy hm, (stp_sig (bdy_le _ _ _)).1, (stp_sig (bdy_le _ _ _)).1]
  rw [vz_VA, vz_VA] at h
  have z1 : VA K x e = 0 → x = 0 := fun h0 => Decidable.byContradiction fun hne => by have := VA_ne (K := K) (e := e) hne; omega
  have z2 : VA K y f = 0 → y = 0 := fun h0 => Decidable.byContradiction fun hne => by have := VA_ne (K := K) (e := f) hne; omega
  cases s
  · cases t
    · simp only [sv] at h ⊢
      have := bdy_mono hK f1.2.1 f2.2.1 (wyN_ways false m) (show VA K x e ≤ VA K y f by simpa using h)
      simpa using this
    · simp only [sv] at h
      have h1 : VA K y f = 0 := by simp at h; omega
      have := f2.2.2.2.1 (z2 h1)
      simp at this
  · cases t
    · have h1 : (0 : Int) ≤ ((bdy x e (wyN true m) : Nat) : Int) := Int.natCast_nonneg _
      have h2 : (0 : Int) ≤ ((bdy y f (wyN false m) : Nat) : Int) := Int.natCast_nonneg _
      show -((bdy x e (wyN true m) : Nat) : Int) ≤ ((bdy y f (wyN false m) : Nat) : Int)
      omega
    · simp only [sv] at h ⊢
      have := bdy_mono hK f2.2.1 f1.2.1 (wyN_ways true m) (show VA K y f ≤ VA K x e by simp at h; omega)
      simp
      exact_mod_cast this
theorem order_modes {K : Nat} (hK : 70000 ≤ K) {s : Bool} {x : Nat} {e : Int} (hx : Ok (s, x, e)) : stp (tfF s true x e 1) ≤ stp (tfF s true x e 2) ∧ stp (tfF s true x e 2) ≤ stp (tfF s true x e 3) ∧
    (mag (tfF s true x e 1) < 9218868437227405312 → vz K (nN (tfF s true x e 1)) (nM (tfF s true x e 1)) (Ie.sE (tfF s true x e 1)) ≤ vz K s x e) ∧
    (mag (tfF s true x e 3) < 9218868437227405312 → vz K s x e ≤ vz K (nN (tfF s true x e 3)) (nM (tfF s true x e 3)) (Ie.sE (tfF s true x e 3))) ∧
    (stp (tfF s true x e 1) = stp (tfF s true x e 3) → mag (tfF s true x e 1) < 9218868437227405312 → vz K (nN (tfF s true x e 1)) (nM (tfF s true x e 1)) (Ie.sE (tfF s true x e 1)) = vz K s x e) := by
  have f1 := hx.facts
  simp only at f1
  obtain ⟨o1, o2, o3, o4, o5, o6⟩ := bdy_order hK (x := x) (e := e) f1.2.1
  have w1 : tfF s true x e 1 = sig s (bdy x e (if s then 2 else 0)) := by rw [tf_bdy (by omega)]; cases s <;> rfl
  have w2 : tfF s true x e 2 = sig s (bdy x e 1) := by rw [tf_bdy (by omega)]; rfl
  have w3 : tfF s true x e 3 = sig s (bdy x e (if s then 0 else 2)) := by rw [tf_bdy (by omega)]; cases s <;> rfl
  have s1 := stp_sig (s := s) (bdy_le x e (if s then 2 else 0))
  have s2 := stp_sig (s := s) (bdy_le x e 1)
  have s3 := stp_sig (s := s) (bdy_le x e (if s then 0 else 2))
  have m1 := mag_sig (s := s) (bdy_le x e (if s then 2 else 0))
  have m3 := mag_sig (s := s) (bdy_le x e (if s then 0 else 2))
  rw [w1, w2, w3, s1.1, s2.1, s3.1, m1.1, m3.1]
  refine ⟨?_, ?_, fun hf => ?_, fun hf => ?_, fun he hf => ?_⟩
  · cases s <;> simp [sv] <;> omega
  · cases s <;> simp [sv] <;> omega
  · rw [vz_num hK (by rw [m1.1]; exact hf), m1.1, m1.2.1, vz_VA]
    cases s
    · simp only [sv]; simp; exact_mod_cast o4
    · simp only [sv]; simp; exact_mod_cast o5 hf
  · rw [vz_num hK (by rw [m3.1]; exact hf), m3.1, m3.2.1, vz_VA]
    cases s
    · simp only [sv]; simp; exact_mod_cast o5 hf
    · simp only [sv]; simp; exact_mod_cast o4
  · rw [vz_num hK (by rw [m1.1]; exact hf), m1.1, m1.2.1, vz_VA]
    cases s
    · have he' : bdy x e 0 = bdy x e 2 := by simp [sv] at he; exact_mod_cast he
      show sv false (bv (bdy x e 0) * UU K) = sv false (VA K x e)
      rw [o6 he']
    · have he' : bdy x e 0 = bdy x e 2 := by simp [sv] at he; have h2 : bdy x e 2 = bdy x e 0 := by exact_mod_cast he
                                             exact h2.symm
      show sv true (bv (bdy x e 2) * UU K) = sv true (VA K x e)
      rw [o6 he', he']
end Go.Proofs.YtcoclopllbfjcaaGreatDoor
/- The program's Fma of floats. -/
namespace Go.Proofs.YtcoclopllbfjcaaGreatDoor
set_option linter.unusedVariables false
set_option linter.unusedSimpArgs false
open Go.RowKit Go.Fl64

end Go.Proofs.YtcoclopllbfjcaaGreatDoor
/- The document's Fma of floats. -/
namespace Go.Proofs.YtcoclopllbfjcaaGreatDoor
set_option linter.unusedVariables false
set_option linter.unusedSimpArgs false
open Go.RowKit Go.Fl64

end Go.Proofs.YtcoclopllbfjcaaGreatDoor
/- The law's own test answers true; RoundSums. -/
namespace Go.Proofs.YtcoclopllbfjcaaGreatDoor
set_option linter.unusedVariables false
set_option linter.unusedSimpArgs false
open Go.RowKit Go.Fl64

end Go.Proofs.YtcoclopllbfjcaaGreatDoor
/- Fma of floats: the program and the document answer alike. -/
namespace Go.Proofs.YtcoclopllbfjcaaGreatDoor
set_option linter.unusedVariables false
set_option linter.unusedSimpArgs false
open Go.RowKit Go.Fl64

end Go.Proofs.YtcoclopllbfjcaaGreatDoor
/- What is rounded down and up are the same or neighbours; the float above. -/
namespace Go.Proofs.YtcoclopllbfjcaaGreatDoor
set_option linter.unusedVariables false
set_option linter.unusedSimpArgs false
open Go.RowKit Go.Fl64

theorem Rounds.step {A u b0 b2 : Nat} (h0 : Rounds A u b0 0) (h2 : Rounds A u b2 2) : b0 ≤ b2 ∧ b2 ≤ b0 + 1 := by
  obtain ⟨c0, ⟨p1, p2⟩, q0, -, -⟩ := h0.fl
  obtain ⟨c2, ⟨r1, r2⟩, -, s2, -⟩ := h2.fl
  have e0 := q0 rfl
  have e2 := s2 rfl
  have h1 := floor_mono (Nat.le_refl A) p1 r2
  have h3 := floor_mono (Nat.le_refl A) r1 p2
  have : c0 = c2 := by omega
  subst this
  rw [e0, e2]
  split <;> omega
end Go.Proofs.YtcoclopllbfjcaaGreatDoor
/- The law's 'between': in order, the same or neighbours, on both sides of the exact value. -/
namespace Go.Proofs.YtcoclopllbfjcaaGreatDoor
set_option linter.unusedVariables false
set_option linter.unusedSimpArgs false
open Go.RowKit Go.Fl64

end Go.Proofs.YtcoclopllbfjcaaGreatDoor
/- RoundHolds: the law's walk. -/
namespace Go.Proofs.YtcoclopllbfjcaaGreatDoor
set_option linter.unusedVariables false
set_option linter.unusedSimpArgs false
open Go.RowKit Go.Fl64

end Go.Proofs.YtcoclopllbfjcaaGreatDoor
