/- Own work: contracts of the program's functions, part 16: RE3 RE4 RE6 RD2 L12 L15 SF1 SF2 SF3 SF4 SG1 SG2. -/
import Derived.Test.YtajeodimbfppiaaGreatDoorA15
import Derived.Test.YtajeodimbfppiaaGreatDoorA9
import Derived.Test.YtajeodimbfppiaaGreatDoorA10
import Derived.Test.YtajeodimbfppiaaGreatDoorA11

/- The document's magnitude, Order, Cmp, joined. -/
namespace Go.Proofs.YtajeodimbfppiaaGreatDoor
set_option linter.unusedVariables false
set_option linter.unusedSimpArgs false
open Go.RowKit

/-- what magnitude answers -/
def magI (x : Nat) (ea : Int) (y : Nat) (eb : Int) : Int := if x = 0 ∨ y = 0 then (dlen x : Int) - dlen y else if (bl x : Int) + ea = bl y + eb then cmpI (x * 2 ^ (ea - min ea eb).toNat : Nat) (y * 2 ^ (eb - min ea eb).toNat : Nat) else (bl x : Int) + ea - (bl y + eb)
theorem rmag {na nb : Bool} {ua va : Option Addr} {uc vc x y : Nat} {ea eb : Int} {w : World} (h1 : Arg w ua (dlen x) uc x) (h2 : Arg w va (dlen y) vc y) (hx : dlen x ≤ 400000) (hy : dlen y ≤ 400000) (ha : -2000000 ≤ ea ∧ ea ≤ 2000000) (hb : -2000000 ≤ eb ∧ eb ≤ 2000000) :
    Calls Tryz.prog 76 #[.agg #[.bool na, .slice ua (dlen x) uc, .int .i64 ea], .agg #[.bool nb, .slice va (dlen y) vc, .int .i64 eb]] w fun r w' => r = .returned (.int .i64 (magI x ea y eb)) ∧ Below w.heap.size w w' := by
  unfold magI
  by_cases h0 : x = 0 ∨ y = 0
  · rw [if_pos h0]
    exact rmag_0 na nb ua va _ uc _ vc ea eb w (h0.imp (fun h => by rw [h, dlen_zero]) (fun h => by rw [h, dlen_zero])) (by omega) (by omega)
  · rw [if_neg h0]
    have hx0 : x ≠ 0 := fun e => h0 (.inl e)
    have hy0 : y ≠ 0 := fun e => h0 (.inr e)
    have b1 := bl_le_dlen x
    have b2 := bl_le_dlen y
    have kA : ∀ W, Below w.heap.size w W → Calls Tryz.prog 96 #[.agg #[.bool na, .slice ua (dlen x) uc, .int .i64 ea]] W fun r w' => r = .returned (.int .i64 (bl x + ea)) ∧ Below W.heap.size W w' := fun W hW => rhigh (h1.later hW).at_ hx0 (by omega) (by omega)
    have kB : ∀ W, Below w.heap.size w W → Calls Tryz.prog 96 #[.agg #[.bool nb, .slice va (dlen y) vc, .int .i64 eb]] W fun r w' => r = .returned (.int .i64 (bl y + eb)) ∧ Below W.heap.size W w' := fun W hW => rhigh (h2.later hW).at_ hy0 (by omega) (by omega)
    by_cases ht : (bl x : Int) + ea = bl y + eb
    · rw [if_pos ht]
      rw [← ht] at kB
      have l1 : dlen (x * 2 ^ (ea - min ea eb).toNat) ≤ 760000 := by have := shl_len (x := x) (k := (ea - min ea eb).toNat) rfl; omega
      have l2 : dlen (y * 2 ^ (eb - min ea eb).toNat) ≤ 760000 := by have := shl_len (x := y) (k := (eb - min ea eb).toNat) rfl; omega
      refine rmag_2 na nb ua va _ uc _ vc _ _ ea eb _ w (len_ne (n := 0) hx0) (len_ne (n := 0) hy0) (by omega) (by omega) (by omega) (by omega) (by omega) (by omega) kA kB (fun W i hW hi => ?_) (fun W i hW hi => ?_)
      · have hik : i = (((ea - min ea eb).toNat : Nat) : Int) := by omega
        rw [hik]
        exact rup ⟨ua, uc, rfl, h1.le, (h1.later hW).at_⟩ _ (by omega) (by omega)
      · have hik : i = (((eb - min ea eb).toNat : Nat) : Int) := by omega
        rw [hik]
        exact rup ⟨va, vc, rfl, h2.le, (h2.later hW).at_⟩ _ (by omega) (by omega)
    · rw [if_neg ht]
      exact rmag_1 na nb ua va _ uc _ vc ea eb _ _ w (len_ne (n := 0) hx0) (len_ne (n := 0) hy0) (by omega) (by omega) (by omega) (by omega) ht kA kB
set_option maxHeartbeats 4000000 in
set_option maxRecDepth 200000 in
theorem rorder_lt (na nb : Bool) (ua va : Option Addr) (un uc vn vc : Nat) (ea eb sa sb c : Int) (w : World) (hs : sa < sb)
    (kA : ∀ W, Below w.heap.size w W → Calls Tryz.prog 64 #[.agg #[.bool na, .slice ua un uc, .int .i64 ea]] W fun r w' => r = .returned (.int .i64 sa) ∧ Below W.heap.size W w')
    (kB : ∀ W, Below w.heap.size w W → Calls Tryz.prog 64 #[.agg #[.bool nb, .slice va vn vc, .int .i64 eb]] W fun r w' => r = .returned (.int .i64 sb) ∧ Below W.heap.size W w') :
    Calls Tryz.prog 34 #[.agg #[.bool na, .slice ua un uc, .int .i64 ea], .agg #[.bool nb, .slice va vn vc, .int .i64 eb]] w fun r w' => r = .returned (.int .i64 (-1)) ∧ Below w.heap.size w w' := by
  obtain ⟨W, hW⟩ : ∃ W, W = (w.alloc (.cells #[.bool na, .slice ua un uc, .int .i64 ea] 38)).alloc (.cells #[.bool nb, .slice va vn vc, .int .i64 eb] 38) := ⟨_, rfl⟩
  obtain ⟨hA, hBb, hsz, hBW⟩ := two29 _ _ hW
  have HX : Hid (Below w.heap.size w W) := hBW
  have kA' : ∀ w4, Below W.heap.size W w4 → Calls Tryz.prog 64 #[.agg #[.bool na, .slice ua un uc, .int .i64 ea]] w4 fun r w' => r = .returned (.int .i64 sa) ∧ Below W.heap.size W w' := fun w4 h4 => (kA w4 (hBW.trans (h4.mono hBW.size))).mono fun r w' ⟨e1, o2⟩ => ⟨e1, h4.trans (o2.mono h4.size)⟩
  have kB' : ∀ w4, Below W.heap.size W w4 → Calls Tryz.prog 64 #[.agg #[.bool nb, .slice va vn vc, .int .i64 eb]] w4 fun r w' => r = .returned (.int .i64 sb) ∧ Below W.heap.size W w' := fun w4 h4 => (kB w4 (hBW.trans (h4.mono hBW.size))).mono fun r w' ⟨e1, o2⟩ => ⟨e1, h4.trans (o2.mono h4.size)⟩
  obtain ⟨⟨a0, a1, a2⟩, -⟩ := box_cells29 hA
  obtain ⟨⟨b0, b1, b2⟩, -⟩ := box_cells29 hBb
  have HK : Hid (∀ w', Below W.heap.size W w' → ((w'.cell? ⟨w.heap.size, 0, none⟩ = some (.bool na) ∧ w'.cell? ⟨w.heap.size, 1, none⟩ = some (.slice ua un uc) ∧ w'.cell? ⟨w.heap.size, 2, none⟩ = some (.int .i64 ea)) ∧ (w'.cell? ⟨w.heap.size + 1, 0, none⟩ = some (.bool nb) ∧ w'.cell? ⟨w.heap.size + 1, 1, none⟩ = some (.slice va vn vc) ∧ w'.cell? ⟨w.heap.size + 1, 2, none⟩ = some (.int .i64 eb)))) := fun w' hb => ⟨(box_cells29 (box_later hA hb (by omega))).1, (box_cells29 (box_later hBb hb (by omega))).1⟩
  have HRD : Hid (∀ w', Below W.heap.size W w' → Below W.heap.size W w'.drew) := fun w' h => h.trans ⟨rfl, rfl, rfl, Nat.le_refl _, fun _ _ => rfl⟩
  have hBR : Below W.heap.size W W.drew := (Below.refl _ _).drew
  have hne : (sa == sb) = false := by simp; omega
  have hne2 : (sa != sb) = true := by simp; omega
  clear kA kB hA hBb hsz hBW 
  go_enter Tryz.func34, Tryz.ntmps34
  go_upto_region 1 with fail
  rw [← hW]
  clear hW
  go_cut [5, 6] from 8 to 11 (fun u v w' => u = .int .i64 sa ∧ v = .int .i64 sb ∧ Hid (Below W.heap.size W w'))
  case first =>
    go_region_held3 (fun w' => ((w'.cell? ⟨w.heap.size, 0, none⟩ = some (.bool na) ∧ w'.cell? ⟨w.heap.size, 1, none⟩ = some (.slice ua un uc) ∧ w'.cell? ⟨w.heap.size, 2, none⟩ = some (.int .i64 ea)) ∧ (w'.cell? ⟨w.heap.size + 1, 0, none⟩ = some (.bool nb) ∧ w'.cell? ⟨w.heap.size + 1, 1, none⟩ = some (.slice va vn vc) ∧ w'.cell? ⟨w.heap.size + 1, 2, none⟩ = some (.int .i64 eb)))) (first | (with_reducible assumption) | exact ⟨⟨a0, a1, a2⟩, b0, b1, b2⟩ | (refine HK.out _ ?_; with_reducible assumption) | go_keep)
      (first | (go_at_call 64; first | (with_reducible refine (kA' _ (by first | (with_reducible assumption) | exact hBR)).mono ?_; rintro r w5 ⟨rfl, hb5⟩) | (with_reducible refine (kB' _ (by first | (with_reducible assumption) | exact hBR)).mono ?_; rintro r w6 ⟨rfl, hb6⟩)))
    all_goals go_wp2_with fail
    all_goals go_meet
    all_goals exact ⟨rfl, rfl, by first | exact hb6 | exact hb5⟩
  case rest =>
    obtain ⟨rfl, rfl, hc⟩ := hcut
    obtain ⟨W2, rfl⟩ : ∃ W2 : World, W2 = wc := ⟨_, rfl⟩
    clear a0 a1 a2 b0 b1 b2 kA' kB' hBR
    go_wp2
    go_ret; exact ⟨rfl, HX.out.trans (hc.out.mono HX.out.size)⟩
set_option maxHeartbeats 4000000 in
set_option maxRecDepth 200000 in
theorem rorder_gt (na nb : Bool) (ua va : Option Addr) (un uc vn vc : Nat) (ea eb sa sb c : Int) (w : World) (hs : ¬ sa < sb) (hn : sa ≠ sb)
    (kA : ∀ W, Below w.heap.size w W → Calls Tryz.prog 64 #[.agg #[.bool na, .slice ua un uc, .int .i64 ea]] W fun r w' => r = .returned (.int .i64 sa) ∧ Below W.heap.size W w')
    (kB : ∀ W, Below w.heap.size w W → Calls Tryz.prog 64 #[.agg #[.bool nb, .slice va vn vc, .int .i64 eb]] W fun r w' => r = .returned (.int .i64 sb) ∧ Below W.heap.size W w') :
    Calls Tryz.prog 34 #[.agg #[.bool na, .slice ua un uc, .int .i64 ea], .agg #[.bool nb, .slice va vn vc, .int .i64 eb]] w fun r w' => r = .returned (.int .i64 (1)) ∧ Below w.heap.size w w' := by
  obtain ⟨W, hW⟩ : ∃ W, W = (w.alloc (.cells #[.bool na, .slice ua un uc, .int .i64 ea] 38)).alloc (.cells #[.bool nb, .slice va vn vc, .int .i64 eb] 38) := ⟨_, rfl⟩
  obtain ⟨hA, hBb, hsz, hBW⟩ := two29 _ _ hW
  have HX : Hid (Below w.heap.size w W) := hBW
  have kA' : ∀ w4, Below W.heap.size W w4 → Calls Tryz.prog 64 #[.agg #[.bool na, .slice ua un uc, .int .i64 ea]] w4 fun r w' => r = .returned (.int .i64 sa) ∧ Below W.heap.size W w' := fun w4 h4 => (kA w4 (hBW.trans (h4.mono hBW.size))).mono fun r w' ⟨e1, o2⟩ => ⟨e1, h4.trans (o2.mono h4.size)⟩
  have kB' : ∀ w4, Below W.heap.size W w4 → Calls Tryz.prog 64 #[.agg #[.bool nb, .slice va vn vc, .int .i64 eb]] w4 fun r w' => r = .returned (.int .i64 sb) ∧ Below W.heap.size W w' := fun w4 h4 => (kB w4 (hBW.trans (h4.mono hBW.size))).mono fun r w' ⟨e1, o2⟩ => ⟨e1, h4.trans (o2.mono h4.size)⟩
  obtain ⟨⟨a0, a1, a2⟩, -⟩ := box_cells29 hA
  obtain ⟨⟨b0, b1, b2⟩, -⟩ := box_cells29 hBb
  have HK : Hid (∀ w', Below W.heap.size W w' → ((w'.cell? ⟨w.heap.size, 0, none⟩ = some (.bool na) ∧ w'.cell? ⟨w.heap.size, 1, none⟩ = some (.slice ua un uc) ∧ w'.cell? ⟨w.heap.size, 2, none⟩ = some (.int .i64 ea)) ∧ (w'.cell? ⟨w.heap.size + 1, 0, none⟩ = some (.bool nb) ∧ w'.cell? ⟨w.heap.size + 1, 1, none⟩ = some (.slice va vn vc) ∧ w'.cell? ⟨w.heap.size + 1, 2, none⟩ = some (.int .i64 eb)))) := fun w' hb => ⟨(box_cells29 (box_later hA hb (by omega))).1, (box_cells29 (box_later hBb hb (by omega))).1⟩
  have HRD : Hid (∀ w', Below W.heap.size W w' → Below W.heap.size W w'.drew) := fun w' h => h.trans ⟨rfl, rfl, rfl, Nat.le_refl _, fun _ _ => rfl⟩
  have hBR : Below W.heap.size W W.drew := (Below.refl _ _).drew
  have hne : (sa == sb) = false := by simp; omega
  have hne2 : (sa != sb) = true := by simp; omega
  clear kA kB hA hBb hsz hBW hn
  go_enter Tryz.func34, Tryz.ntmps34
  go_upto_region 1 with fail
  rw [← hW]
  clear hW
  go_cut [5, 6] from 8 to 11 (fun u v w' => u = .int .i64 sa ∧ v = .int .i64 sb ∧ Hid (Below W.heap.size W w'))
  case first =>
    go_region_held3 (fun w' => ((w'.cell? ⟨w.heap.size, 0, none⟩ = some (.bool na) ∧ w'.cell? ⟨w.heap.size, 1, none⟩ = some (.slice ua un uc) ∧ w'.cell? ⟨w.heap.size, 2, none⟩ = some (.int .i64 ea)) ∧ (w'.cell? ⟨w.heap.size + 1, 0, none⟩ = some (.bool nb) ∧ w'.cell? ⟨w.heap.size + 1, 1, none⟩ = some (.slice va vn vc) ∧ w'.cell? ⟨w.heap.size + 1, 2, none⟩ = some (.int .i64 eb)))) (first | (with_reducible assumption) | exact ⟨⟨a0, a1, a2⟩, b0, b1, b2⟩ | (refine HK.out _ ?_; with_reducible assumption) | go_keep)
      (first | (go_at_call 64; first | (with_reducible refine (kA' _ (by first | (with_reducible assumption) | exact hBR)).mono ?_; rintro r w5 ⟨rfl, hb5⟩) | (with_reducible refine (kB' _ (by first | (with_reducible assumption) | exact hBR)).mono ?_; rintro r w6 ⟨rfl, hb6⟩)))
    all_goals go_wp2_with fail
    all_goals go_meet
    all_goals exact ⟨rfl, rfl, by first | exact hb6 | exact hb5⟩
  case rest =>
    obtain ⟨rfl, rfl, hc⟩ := hcut
    obtain ⟨W2, rfl⟩ : ∃ W2 : World, W2 = wc := ⟨_, rfl⟩
    clear a0 a1 a2 b0 b1 b2 kA' kB' hBR
    go_wp2
    go_ret; exact ⟨rfl, HX.out.trans (hc.out.mono HX.out.size)⟩
set_option maxHeartbeats 4000000 in
set_option maxRecDepth 200000 in
theorem rorder_pl (na nb : Bool) (ua va : Option Addr) (un uc vn vc : Nat) (ea eb sa sb c : Int) (w : World) (hse0 : sa = sb) (hs : 0 ≤ sa) (hc : c < 0) (hc3 : -90000000000 ≤ c) (hc4 : c ≤ 90000000000)
    (kA : ∀ W, Below w.heap.size w W → Calls Tryz.prog 64 #[.agg #[.bool na, .slice ua un uc, .int .i64 ea]] W fun r w' => r = .returned (.int .i64 sa) ∧ Below W.heap.size W w')
    (kB : ∀ W, Below w.heap.size w W → Calls Tryz.prog 64 #[.agg #[.bool nb, .slice va vn vc, .int .i64 eb]] W fun r w' => r = .returned (.int .i64 sb) ∧ Below W.heap.size W w')
    (kM : ∀ W, Below w.heap.size w W → Calls Tryz.prog 76 #[.agg #[.bool na, .slice ua un uc, .int .i64 ea], .agg #[.bool nb, .slice va vn vc, .int .i64 eb]] W fun r w' => r = .returned (.int .i64 c) ∧ Below W.heap.size W w') :
    Calls Tryz.prog 34 #[.agg #[.bool na, .slice ua un uc, .int .i64 ea], .agg #[.bool nb, .slice va vn vc, .int .i64 eb]] w fun r w' => r = .returned (.int .i64 (-1)) ∧ Below w.heap.size w w' := by
  obtain ⟨W, hW⟩ : ∃ W, W = (w.alloc (.cells #[.bool na, .slice ua un uc, .int .i64 ea] 38)).alloc (.cells #[.bool nb, .slice va vn vc, .int .i64 eb] 38) := ⟨_, rfl⟩
  obtain ⟨hA, hBb, hsz, hBW⟩ := two29 _ _ hW
  have HX : Hid (Below w.heap.size w W) := hBW
  have kA' : ∀ w4, Below W.heap.size W w4 → Calls Tryz.prog 64 #[.agg #[.bool na, .slice ua un uc, .int .i64 ea]] w4 fun r w' => r = .returned (.int .i64 sa) ∧ Below W.heap.size W w' := fun w4 h4 => (kA w4 (hBW.trans (h4.mono hBW.size))).mono fun r w' ⟨e1, o2⟩ => ⟨e1, h4.trans (o2.mono h4.size)⟩
  have kB' : ∀ w4, Below W.heap.size W w4 → Calls Tryz.prog 64 #[.agg #[.bool nb, .slice va vn vc, .int .i64 eb]] w4 fun r w' => r = .returned (.int .i64 sb) ∧ Below W.heap.size W w' := fun w4 h4 => (kB w4 (hBW.trans (h4.mono hBW.size))).mono fun r w' ⟨e1, o2⟩ => ⟨e1, h4.trans (o2.mono h4.size)⟩
  have kM' : ∀ w4, Below W.heap.size W w4 → Calls Tryz.prog 76 #[.agg #[.bool na, .slice ua un uc, .int .i64 ea], .agg #[.bool nb, .slice va vn vc, .int .i64 eb]] w4 fun r w' => r = .returned (.int .i64 c) ∧ Below W.heap.size W w' := fun w4 h4 => (kM w4 (hBW.trans (h4.mono hBW.size))).mono fun r w' ⟨e1, o2⟩ => ⟨e1, h4.trans (o2.mono h4.size)⟩
  have HKM : Hid (∀ w4, Below W.heap.size W w4 → Calls Tryz.prog 76 #[.agg #[.bool na, .slice ua un uc, .int .i64 ea], .agg #[.bool nb, .slice va vn vc, .int .i64 eb]] w4 fun r w' => r = .returned (.int .i64 c) ∧ Below W.heap.size W w') := kM'
  obtain ⟨⟨a0, a1, a2⟩, -⟩ := box_cells29 hA
  obtain ⟨⟨b0, b1, b2⟩, -⟩ := box_cells29 hBb
  have HK : Hid (∀ w', Below W.heap.size W w' → ((w'.cell? ⟨w.heap.size, 0, none⟩ = some (.bool na) ∧ w'.cell? ⟨w.heap.size, 1, none⟩ = some (.slice ua un uc) ∧ w'.cell? ⟨w.heap.size, 2, none⟩ = some (.int .i64 ea)) ∧ (w'.cell? ⟨w.heap.size + 1, 0, none⟩ = some (.bool nb) ∧ w'.cell? ⟨w.heap.size + 1, 1, none⟩ = some (.slice va vn vc) ∧ w'.cell? ⟨w.heap.size + 1, 2, none⟩ = some (.int .i64 eb)))) := fun w' hb => ⟨(box_cells29 (box_later hA hb (by omega))).1, (box_cells29 (box_later hBb hb (by omega))).1⟩
  have HRD : Hid (∀ w', Below W.heap.size W w' → Below W.heap.size W w'.drew) := fun w' h => h.trans ⟨rfl, rfl, rfl, Nat.le_refl _, fun _ _ => rfl⟩
  have hBR : Below W.heap.size W W.drew := (Below.refl _ _).drew
  have hse : (sa == sb) = true := by simp; omega
  have hse2 : (sa != sb) = false := by simp; omega
  have hs1 : ¬ sa < 0 := by omega
  clear kA kB kM kM' hA hBb hsz hBW hc3 hc4 hse0
  go_enter Tryz.func34, Tryz.ntmps34
  go_upto_region 1 with fail
  rw [← hW]
  clear hW
  go_cut [5, 6] from 8 to 11 (fun u v w' => u = .int .i64 sa ∧ v = .int .i64 sb ∧ Hid (Below W.heap.size W w'))
  case first =>
    go_region_held3 (fun w' => ((w'.cell? ⟨w.heap.size, 0, none⟩ = some (.bool na) ∧ w'.cell? ⟨w.heap.size, 1, none⟩ = some (.slice ua un uc) ∧ w'.cell? ⟨w.heap.size, 2, none⟩ = some (.int .i64 ea)) ∧ (w'.cell? ⟨w.heap.size + 1, 0, none⟩ = some (.bool nb) ∧ w'.cell? ⟨w.heap.size + 1, 1, none⟩ = some (.slice va vn vc) ∧ w'.cell? ⟨w.heap.size + 1, 2, none⟩ = some (.int .i64 eb)))) (first | (with_reducible assumption) | exact ⟨⟨a0, a1, a2⟩, b0, b1, b2⟩ | (refine HK.out _ ?_; with_reducible assumption) | go_keep)
      (first | (go_at_call 64; first | (with_reducible refine (kA' _ (by first | (with_reducible assumption) | exact hBR)).mono ?_; rintro r w5 ⟨rfl, hb5⟩) | (with_reducible refine (kB' _ (by first | (with_reducible assumption) | exact hBR)).mono ?_; rintro r w6 ⟨rfl, hb6⟩)))
    all_goals go_wp2_with fail
    all_goals go_meet
    all_goals exact ⟨rfl, rfl, by first | exact hb6 | exact hb5⟩
  case rest =>
    obtain ⟨rfl, rfl, hc⟩ := hcut
    obtain ⟨W2, rfl⟩ : ∃ W2 : World, W2 = wc := ⟨_, rfl⟩
    clear a0 a1 a2 b0 b1 b2 kA' kB' hBR
    have kM' := HKM.out W2 hc.out
    obtain ⟨⟨a0, a1, a2⟩, b0, b1, b2⟩ := HK.out W2 hc.out
    go_wp2_with fail
    refine kM'.mono ?_
    rintro r w7 ⟨rfl, hb7⟩
    have HL7 : Hid (Below W.heap.size W w7) := hb7
    clear kM' HK HKM a0 a1 a2 b0 b1 b2 hb7
    go_wp2
    go_ret
    exact ⟨rfl, HX.out.trans (HL7.out.mono HX.out.size)⟩
set_option maxHeartbeats 4000000 in
set_option maxRecDepth 200000 in
theorem rorder_pg (na nb : Bool) (ua va : Option Addr) (un uc vn vc : Nat) (ea eb sa sb c : Int) (w : World) (hse0 : sa = sb) (hs : 0 ≤ sa) (hc : 0 < c) (hc3 : -90000000000 ≤ c) (hc4 : c ≤ 90000000000)
    (kA : ∀ W, Below w.heap.size w W → Calls Tryz.prog 64 #[.agg #[.bool na, .slice ua un uc, .int .i64 ea]] W fun r w' => r = .returned (.int .i64 sa) ∧ Below W.heap.size W w')
    (kB : ∀ W, Below w.heap.size w W → Calls Tryz.prog 64 #[.agg #[.bool nb, .slice va vn vc, .int .i64 eb]] W fun r w' => r = .returned (.int .i64 sb) ∧ Below W.heap.size W w')
    (kM : ∀ W, Below w.heap.size w W → Calls Tryz.prog 76 #[.agg #[.bool na, .slice ua un uc, .int .i64 ea], .agg #[.bool nb, .slice va vn vc, .int .i64 eb]] W fun r w' => r = .returned (.int .i64 c) ∧ Below W.heap.size W w') :
    Calls Tryz.prog 34 #[.agg #[.bool na, .slice ua un uc, .int .i64 ea], .agg #[.bool nb, .slice va vn vc, .int .i64 eb]] w fun r w' => r = .returned (.int .i64 (1)) ∧ Below w.heap.size w w' := by
  obtain ⟨W, hW⟩ : ∃ W, W = (w.alloc (.cells #[.bool na, .slice ua un uc, .int .i64 ea] 38)).alloc (.cells #[.bool nb, .slice va vn vc, .int .i64 eb] 38) := ⟨_, rfl⟩
  obtain ⟨hA, hBb, hsz, hBW⟩ := two29 _ _ hW
  have HX : Hid (Below w.heap.size w W) := hBW
  have kA' : ∀ w4, Below W.heap.size W w4 → Calls Tryz.prog 64 #[.agg #[.bool na, .slice ua un uc, .int .i64 ea]] w4 fun r w' => r = .returned (.int .i64 sa) ∧ Below W.heap.size W w' := fun w4 h4 => (kA w4 (hBW.trans (h4.mono hBW.size))).mono fun r w' ⟨e1, o2⟩ => ⟨e1, h4.trans (o2.mono h4.size)⟩
  have kB' : ∀ w4, Below W.heap.size W w4 → Calls Tryz.prog 64 #[.agg #[.bool nb, .slice va vn vc, .int .i64 eb]] w4 fun r w' => r = .returned (.int .i64 sb) ∧ Below W.heap.size W w' := fun w4 h4 => (kB w4 (hBW.trans (h4.mono hBW.size))).mono fun r w' ⟨e1, o2⟩ => ⟨e1, h4.trans (o2.mono h4.size)⟩
  have kM' : ∀ w4, Below W.heap.size W w4 → Calls Tryz.prog 76 #[.agg #[.bool na, .slice ua un uc, .int .i64 ea], .agg #[.bool nb, .slice va vn vc, .int .i64 eb]] w4 fun r w' => r = .returned (.int .i64 c) ∧ Below W.heap.size W w' := fun w4 h4 => (kM w4 (hBW.trans (h4.mono hBW.size))).mono fun r w' ⟨e1, o2⟩ => ⟨e1, h4.trans (o2.mono h4.size)⟩
  have HKM : Hid (∀ w4, Below W.heap.size W w4 → Calls Tryz.prog 76 #[.agg #[.bool na, .slice ua un uc, .int .i64 ea], .agg #[.bool nb, .slice va vn vc, .int .i64 eb]] w4 fun r w' => r = .returned (.int .i64 c) ∧ Below W.heap.size W w') := kM'
  obtain ⟨⟨a0, a1, a2⟩, -⟩ := box_cells29 hA
  obtain ⟨⟨b0, b1, b2⟩, -⟩ := box_cells29 hBb
  have HK : Hid (∀ w', Below W.heap.size W w' → ((w'.cell? ⟨w.heap.size, 0, none⟩ = some (.bool na) ∧ w'.cell? ⟨w.heap.size, 1, none⟩ = some (.slice ua un uc) ∧ w'.cell? ⟨w.heap.size, 2, none⟩ = some (.int .i64 ea)) ∧ (w'.cell? ⟨w.heap.size + 1, 0, none⟩ = some (.bool nb) ∧ w'.cell? ⟨w.heap.size + 1, 1, none⟩ = some (.slice va vn vc) ∧ w'.cell? ⟨w.heap.size + 1, 2, none⟩ = some (.int .i64 eb)))) := fun w' hb => ⟨(box_cells29 (box_later hA hb (by omega))).1, (box_cells29 (box_later hBb hb (by omega))).1⟩
  have HRD : Hid (∀ w', Below W.heap.size W w' → Below W.heap.size W w'.drew) := fun w' h => h.trans ⟨rfl, rfl, rfl, Nat.le_refl _, fun _ _ => rfl⟩
  have hBR : Below W.heap.size W W.drew := (Below.refl _ _).drew
  have hse : (sa == sb) = true := by simp; omega
  have hse2 : (sa != sb) = false := by simp; omega
  have hs1 : ¬ sa < 0 := by omega
  have hc1 : ¬ c < 0 := by omega
  clear kA kB kM kM' hA hBb hsz hBW hc3 hc4 hse0
  go_enter Tryz.func34, Tryz.ntmps34
  go_upto_region 1 with fail
  rw [← hW]
  clear hW
  go_cut [5, 6] from 8 to 11 (fun u v w' => u = .int .i64 sa ∧ v = .int .i64 sb ∧ Hid (Below W.heap.size W w'))
  case first =>
    go_region_held3 (fun w' => ((w'.cell? ⟨w.heap.size, 0, none⟩ = some (.bool na) ∧ w'.cell? ⟨w.heap.size, 1, none⟩ = some (.slice ua un uc) ∧ w'.cell? ⟨w.heap.size, 2, none⟩ = some (.int .i64 ea)) ∧ (w'.cell? ⟨w.heap.size + 1, 0, none⟩ = some (.bool nb) ∧ w'.cell? ⟨w.heap.size + 1, 1, none⟩ = some (.slice va vn vc) ∧ w'.cell? ⟨w.heap.size + 1, 2, none⟩ = some (.int .i64 eb)))) (first | (with_reducible assumption) | exact ⟨⟨a0, a1, a2⟩, b0, b1, b2⟩ | (refine HK.out _ ?_; with_reducible assumption) | go_keep)
      (first | (go_at_call 64; first | (with_reducible refine (kA' _ (by first | (with_reducible assumption) | exact hBR)).mono ?_; rintro r w5 ⟨rfl, hb5⟩) | (with_reducible refine (kB' _ (by first | (with_reducible assumption) | exact hBR)).mono ?_; rintro r w6 ⟨rfl, hb6⟩)))
    all_goals go_wp2_with fail
    all_goals go_meet
    all_goals exact ⟨rfl, rfl, by first | exact hb6 | exact hb5⟩
  case rest =>
    obtain ⟨rfl, rfl, hc⟩ := hcut
    obtain ⟨W2, rfl⟩ : ∃ W2 : World, W2 = wc := ⟨_, rfl⟩
    clear a0 a1 a2 b0 b1 b2 kA' kB' hBR
    have kM' := HKM.out W2 hc.out
    obtain ⟨⟨a0, a1, a2⟩, b0, b1, b2⟩ := HK.out W2 hc.out
    go_wp2_with fail
    refine kM'.mono ?_
    rintro r w7 ⟨rfl, hb7⟩
    have HL7 : Hid (Below W.heap.size W w7) := hb7
    clear kM' HK HKM a0 a1 a2 b0 b1 b2 hb7
    go_wp2
    go_ret
    exact ⟨rfl, HX.out.trans (HL7.out.mono HX.out.size)⟩
set_option maxHeartbeats 4000000 in
set_option maxRecDepth 200000 in
theorem rorder_pe (na nb : Bool) (ua va : Option Addr) (un uc vn vc : Nat) (ea eb sa sb c : Int) (w : World) (hse0 : sa = sb) (hs : 0 ≤ sa) (hc : c = 0) (hc3 : -90000000000 ≤ c) (hc4 : c ≤ 90000000000)
    (kA : ∀ W, Below w.heap.size w W → Calls Tryz.prog 64 #[.agg #[.bool na, .slice ua un uc, .int .i64 ea]] W fun r w' => r = .returned (.int .i64 sa) ∧ Below W.heap.size W w')
    (kB : ∀ W, Below w.heap.size w W → Calls Tryz.prog 64 #[.agg #[.bool nb, .slice va vn vc, .int .i64 eb]] W fun r w' => r = .returned (.int .i64 sb) ∧ Below W.heap.size W w')
    (kM : ∀ W, Below w.heap.size w W → Calls Tryz.prog 76 #[.agg #[.bool na, .slice ua un uc, .int .i64 ea], .agg #[.bool nb, .slice va vn vc, .int .i64 eb]] W fun r w' => r = .returned (.int .i64 c) ∧ Below W.heap.size W w') :
    Calls Tryz.prog 34 #[.agg #[.bool na, .slice ua un uc, .int .i64 ea], .agg #[.bool nb, .slice va vn vc, .int .i64 eb]] w fun r w' => r = .returned (.int .i64 (0)) ∧ Below w.heap.size w w' := by
  obtain ⟨W, hW⟩ : ∃ W, W = (w.alloc (.cells #[.bool na, .slice ua un uc, .int .i64 ea] 38)).alloc (.cells #[.bool nb, .slice va vn vc, .int .i64 eb] 38) := ⟨_, rfl⟩
  obtain ⟨hA, hBb, hsz, hBW⟩ := two29 _ _ hW
  have HX : Hid (Below w.heap.size w W) := hBW
  have kA' : ∀ w4, Below W.heap.size W w4 → Calls Tryz.prog 64 #[.agg #[.bool na, .slice ua un uc, .int .i64 ea]] w4 fun r w' => r = .returned (.int .i64 sa) ∧ Below W.heap.size W w' := fun w4 h4 => (kA w4 (hBW.trans (h4.mono hBW.size))).mono fun r w' ⟨e1, o2⟩ => ⟨e1, h4.trans (o2.mono h4.size)⟩
  have kB' : ∀ w4, Below W.heap.size W w4 → Calls Tryz.prog 64 #[.agg #[.bool nb, .slice va vn vc, .int .i64 eb]] w4 fun r w' => r = .returned (.int .i64 sb) ∧ Below W.heap.size W w' := fun w4 h4 => (kB w4 (hBW.trans (h4.mono hBW.size))).mono fun r w' ⟨e1, o2⟩ => ⟨e1, h4.trans (o2.mono h4.size)⟩
  have kM' : ∀ w4, Below W.heap.size W w4 → Calls Tryz.prog 76 #[.agg #[.bool na, .slice ua un uc, .int .i64 ea], .agg #[.bool nb, .slice va vn vc, .int .i64 eb]] w4 fun r w' => r = .returned (.int .i64 c) ∧ Below W.heap.size W w' := fun w4 h4 => (kM w4 (hBW.trans (h4.mono hBW.size))).mono fun r w' ⟨e1, o2⟩ => ⟨e1, h4.trans (o2.mono h4.size)⟩
  have HKM : Hid (∀ w4, Below W.heap.size W w4 → Calls Tryz.prog 76 #[.agg #[.bool na, .slice ua un uc, .int .i64 ea], .agg #[.bool nb, .slice va vn vc, .int .i64 eb]] w4 fun r w' => r = .returned (.int .i64 c) ∧ Below W.heap.size W w') := kM'
  obtain ⟨⟨a0, a1, a2⟩, -⟩ := box_cells29 hA
  obtain ⟨⟨b0, b1, b2⟩, -⟩ := box_cells29 hBb
  have HK : Hid (∀ w', Below W.heap.size W w' → ((w'.cell? ⟨w.heap.size, 0, none⟩ = some (.bool na) ∧ w'.cell? ⟨w.heap.size, 1, none⟩ = some (.slice ua un uc) ∧ w'.cell? ⟨w.heap.size, 2, none⟩ = some (.int .i64 ea)) ∧ (w'.cell? ⟨w.heap.size + 1, 0, none⟩ = some (.bool nb) ∧ w'.cell? ⟨w.heap.size + 1, 1, none⟩ = some (.slice va vn vc) ∧ w'.cell? ⟨w.heap.size + 1, 2, none⟩ = some (.int .i64 eb)))) := fun w' hb => ⟨(box_cells29 (box_later hA hb (by omega))).1, (box_cells29 (box_later hBb hb (by omega))).1⟩
  have HRD : Hid (∀ w', Below W.heap.size W w' → Below W.heap.size W w'.drew) := fun w' h => h.trans ⟨rfl, rfl, rfl, Nat.le_refl _, fun _ _ => rfl⟩
  have hBR : Below W.heap.size W W.drew := (Below.refl _ _).drew
  have hse : (sa == sb) = true := by simp; omega
  have hse2 : (sa != sb) = false := by simp; omega
  have hs1 : ¬ sa < 0 := by omega
  have hc1 : ¬ c < 0 := by omega
  have hc2 : ¬ 0 < c := by omega
  clear kA kB kM kM' hA hBb hsz hBW hc3 hc4 hc hse0
  go_enter Tryz.func34, Tryz.ntmps34
  go_upto_region 1 with fail
  rw [← hW]
  clear hW
  go_cut [5, 6] from 8 to 11 (fun u v w' => u = .int .i64 sa ∧ v = .int .i64 sb ∧ Hid (Below W.heap.size W w'))
  case first =>
    go_region_held3 (fun w' => ((w'.cell? ⟨w.heap.size, 0, none⟩ = some (.bool na) ∧ w'.cell? ⟨w.heap.size, 1, none⟩ = some (.slice ua un uc) ∧ w'.cell? ⟨w.heap.size, 2, none⟩ = some (.int .i64 ea)) ∧ (w'.cell? ⟨w.heap.size + 1, 0, none⟩ = some (.bool nb) ∧ w'.cell? ⟨w.heap.size + 1, 1, none⟩ = some (.slice va vn vc) ∧ w'.cell? ⟨w.heap.size + 1, 2, none⟩ = some (.int .i64 eb)))) (first | (with_reducible assumption) | exact ⟨⟨a0, a1, a2⟩, b0, b1, b2⟩ | (refine HK.out _ ?_; with_reducible assumption) | go_keep)
      (first | (go_at_call 64; first | (with_reducible refine (kA' _ (by first | (with_reducible assumption) | exact hBR)).mono ?_; rintro r w5 ⟨rfl, hb5⟩) | (with_reducible refine (kB' _ (by first | (with_reducible assumption) | exact hBR)).mono ?_; rintro r w6 ⟨rfl, hb6⟩)))
    all_goals go_wp2_with fail
    all_goals go_meet
    all_goals exact ⟨rfl, rfl, by first | exact hb6 | exact hb5⟩
  case rest =>
    obtain ⟨rfl, rfl, hc⟩ := hcut
    obtain ⟨W2, rfl⟩ : ∃ W2 : World, W2 = wc := ⟨_, rfl⟩
    clear a0 a1 a2 b0 b1 b2 kA' kB' hBR
    have kM' := HKM.out W2 hc.out
    obtain ⟨⟨a0, a1, a2⟩, b0, b1, b2⟩ := HK.out W2 hc.out
    go_wp2_with fail
    refine kM'.mono ?_
    rintro r w7 ⟨rfl, hb7⟩
    have HL7 : Hid (Below W.heap.size W w7) := hb7
    clear kM' HK HKM a0 a1 a2 b0 b1 b2 hb7
    go_wp2
    go_ret
    exact ⟨rfl, HX.out.trans (HL7.out.mono HX.out.size)⟩
set_option maxHeartbeats 4000000 in
set_option maxRecDepth 200000 in
theorem rorder_nl (na nb : Bool) (ua va : Option Addr) (un uc vn vc : Nat) (ea eb sa sb c : Int) (w : World) (hse0 : sa = sb) (hs : sa < 0) (hc : c < 0) (hc3 : -90000000000 ≤ c) (hc4 : c ≤ 90000000000)
    (kA : ∀ W, Below w.heap.size w W → Calls Tryz.prog 64 #[.agg #[.bool na, .slice ua un uc, .int .i64 ea]] W fun r w' => r = .returned (.int .i64 sa) ∧ Below W.heap.size W w')
    (kB : ∀ W, Below w.heap.size w W → Calls Tryz.prog 64 #[.agg #[.bool nb, .slice va vn vc, .int .i64 eb]] W fun r w' => r = .returned (.int .i64 sb) ∧ Below W.heap.size W w')
    (kM : ∀ W, Below w.heap.size w W → Calls Tryz.prog 76 #[.agg #[.bool na, .slice ua un uc, .int .i64 ea], .agg #[.bool nb, .slice va vn vc, .int .i64 eb]] W fun r w' => r = .returned (.int .i64 c) ∧ Below W.heap.size W w') :
    Calls Tryz.prog 34 #[.agg #[.bool na, .slice ua un uc, .int .i64 ea], .agg #[.bool nb, .slice va vn vc, .int .i64 eb]] w fun r w' => r = .returned (.int .i64 (1)) ∧ Below w.heap.size w w' := by
  obtain ⟨W, hW⟩ : ∃ W, W = (w.alloc (.cells #[.bool na, .slice ua un uc, .int .i64 ea] 38)).alloc (.cells #[.bool nb, .slice va vn vc, .int .i64 eb] 38) := ⟨_, rfl⟩
  obtain ⟨hA, hBb, hsz, hBW⟩ := two29 _ _ hW
  have HX : Hid (Below w.heap.size w W) := hBW
  have kA' : ∀ w4, Below W.heap.size W w4 → Calls Tryz.prog 64 #[.agg #[.bool na, .slice ua un uc, .int .i64 ea]] w4 fun r w' => r = .returned (.int .i64 sa) ∧ Below W.heap.size W w' := fun w4 h4 => (kA w4 (hBW.trans (h4.mono hBW.size))).mono fun r w' ⟨e1, o2⟩ => ⟨e1, h4.trans (o2.mono h4.size)⟩
  have kB' : ∀ w4, Below W.heap.size W w4 → Calls Tryz.prog 64 #[.agg #[.bool nb, .slice va vn vc, .int .i64 eb]] w4 fun r w' => r = .returned (.int .i64 sb) ∧ Below W.heap.size W w' := fun w4 h4 => (kB w4 (hBW.trans (h4.mono hBW.size))).mono fun r w' ⟨e1, o2⟩ => ⟨e1, h4.trans (o2.mono h4.size)⟩
  have kM' : ∀ w4, Below W.heap.size W w4 → Calls Tryz.prog 76 #[.agg #[.bool na, .slice ua un uc, .int .i64 ea], .agg #[.bool nb, .slice va vn vc, .int .i64 eb]] w4 fun r w' => r = .returned (.int .i64 c) ∧ Below W.heap.size W w' := fun w4 h4 => (kM w4 (hBW.trans (h4.mono hBW.size))).mono fun r w' ⟨e1, o2⟩ => ⟨e1, h4.trans (o2.mono h4.size)⟩
  have HKM : Hid (∀ w4, Below W.heap.size W w4 → Calls Tryz.prog 76 #[.agg #[.bool na, .slice ua un uc, .int .i64 ea], .agg #[.bool nb, .slice va vn vc, .int .i64 eb]] w4 fun r w' => r = .returned (.int .i64 c) ∧ Below W.heap.size W w') := kM'
  obtain ⟨⟨a0, a1, a2⟩, -⟩ := box_cells29 hA
  obtain ⟨⟨b0, b1, b2⟩, -⟩ := box_cells29 hBb
  have HK : Hid (∀ w', Below W.heap.size W w' → ((w'.cell? ⟨w.heap.size, 0, none⟩ = some (.bool na) ∧ w'.cell? ⟨w.heap.size, 1, none⟩ = some (.slice ua un uc) ∧ w'.cell? ⟨w.heap.size, 2, none⟩ = some (.int .i64 ea)) ∧ (w'.cell? ⟨w.heap.size + 1, 0, none⟩ = some (.bool nb) ∧ w'.cell? ⟨w.heap.size + 1, 1, none⟩ = some (.slice va vn vc) ∧ w'.cell? ⟨w.heap.size + 1, 2, none⟩ = some (.int .i64 eb)))) := fun w' hb => ⟨(box_cells29 (box_later hA hb (by omega))).1, (box_cells29 (box_later hBb hb (by omega))).1⟩
  have HRD : Hid (∀ w', Below W.heap.size W w' → Below W.heap.size W w'.drew) := fun w' h => h.trans ⟨rfl, rfl, rfl, Nat.le_refl _, fun _ _ => rfl⟩
  have hBR : Below W.heap.size W W.drew := (Below.refl _ _).drew
  have hse : (sa == sb) = true := by simp; omega
  have hse2 : (sa != sb) = false := by simp; omega
  obtain ⟨d, hd⟩ : ∃ d, d = -c := ⟨_, rfl⟩
  have hdw : IntKind.i64.wrap d = d := by rw [IntKind.wrap_i64]; omega
  have hd1 : ¬ d < 0 := by omega
  have hd2 : 0 < d := by omega
  have hdn : -c = d := hd.symm
  clear kA kB kM kM' hA hBb hsz hBW hd hc hc3 hc4 hse0
  go_enter Tryz.func34, Tryz.ntmps34
  go_upto_region 1 with fail
  rw [← hW]
  clear hW
  go_cut [5, 6] from 8 to 11 (fun u v w' => u = .int .i64 sa ∧ v = .int .i64 sb ∧ Hid (Below W.heap.size W w'))
  case first =>
    go_region_held3 (fun w' => ((w'.cell? ⟨w.heap.size, 0, none⟩ = some (.bool na) ∧ w'.cell? ⟨w.heap.size, 1, none⟩ = some (.slice ua un uc) ∧ w'.cell? ⟨w.heap.size, 2, none⟩ = some (.int .i64 ea)) ∧ (w'.cell? ⟨w.heap.size + 1, 0, none⟩ = some (.bool nb) ∧ w'.cell? ⟨w.heap.size + 1, 1, none⟩ = some (.slice va vn vc) ∧ w'.cell? ⟨w.heap.size + 1, 2, none⟩ = some (.int .i64 eb)))) (first | (with_reducible assumption) | exact ⟨⟨a0, a1, a2⟩, b0, b1, b2⟩ | (refine HK.out _ ?_; with_reducible assumption) | go_keep)
      (first | (go_at_call 64; first | (with_reducible refine (kA' _ (by first | (with_reducible assumption) | exact hBR)).mono ?_; rintro r w5 ⟨rfl, hb5⟩) | (with_reducible refine (kB' _ (by first | (with_reducible assumption) | exact hBR)).mono ?_; rintro r w6 ⟨rfl, hb6⟩)))
    all_goals go_wp2_with fail
    all_goals go_meet
    all_goals exact ⟨rfl, rfl, by first | exact hb6 | exact hb5⟩
  case rest =>
    obtain ⟨rfl, rfl, hc⟩ := hcut
    obtain ⟨W2, rfl⟩ : ∃ W2 : World, W2 = wc := ⟨_, rfl⟩
    clear a0 a1 a2 b0 b1 b2 kA' kB' hBR
    have kM' := HKM.out W2 hc.out
    obtain ⟨⟨a0, a1, a2⟩, b0, b1, b2⟩ := HK.out W2 hc.out
    go_wp2_with fail
    refine kM'.mono ?_
    rintro r w7 ⟨rfl, hb7⟩
    have HL7 : Hid (Below W.heap.size W w7) := hb7
    clear kM' HK HKM a0 a1 a2 b0 b1 b2 hb7
    go_wp2
    go_ret
    exact ⟨rfl, HX.out.trans (HL7.out.mono HX.out.size)⟩
set_option maxHeartbeats 4000000 in
set_option maxRecDepth 200000 in
theorem rorder_ng (na nb : Bool) (ua va : Option Addr) (un uc vn vc : Nat) (ea eb sa sb c : Int) (w : World) (hse0 : sa = sb) (hs : sa < 0) (hc : 0 < c) (hc3 : -90000000000 ≤ c) (hc4 : c ≤ 90000000000)
    (kA : ∀ W, Below w.heap.size w W → Calls Tryz.prog 64 #[.agg #[.bool na, .slice ua un uc, .int .i64 ea]] W fun r w' => r = .returned (.int .i64 sa) ∧ Below W.heap.size W w')
    (kB : ∀ W, Below w.heap.size w W → Calls Tryz.prog 64 #[.agg #[.bool nb, .slice va vn vc, .int .i64 eb]] W fun r w' => r = .returned (.int .i64 sb) ∧ Below W.heap.size W w')
    (kM : ∀ W, Below w.heap.size w W → Calls Tryz.prog 76 #[.agg #[.bool na, .slice ua un uc, .int .i64 ea], .agg #[.bool nb, .slice va vn vc, .int .i64 eb]] W fun r w' => r = .returned (.int .i64 c) ∧ Below W.heap.size W w') :
    Calls Tryz.prog 34 #[.agg #[.bool na, .slice ua un uc, .int .i64 ea], .agg #[.bool nb, .slice va vn vc, .int .i64 eb]] w fun r w' => r = .returned (.int .i64 (-1)) ∧ Below w.heap.size w w' := by
  obtain ⟨W, hW⟩ : ∃ W, W = (w.alloc (.cells #[.bool na, .slice ua un uc, .int .i64 ea] 38)).alloc (.cells #[.bool nb, .slice va vn vc, .int .i64 eb] 38) := ⟨_, rfl⟩
  obtain ⟨hA, hBb, hsz, hBW⟩ := two29 _ _ hW
  have HX : Hid (Below w.heap.size w W) := hBW
  have kA' : ∀ w4, Below W.heap.size W w4 → Calls Tryz.prog 64 #[.agg #[.bool na, .slice ua un uc, .int .i64 ea]] w4 fun r w' => r = .returned (.int .i64 sa) ∧ Below W.heap.size W w' := fun w4 h4 => (kA w4 (hBW.trans (h4.mono hBW.size))).mono fun r w' ⟨e1, o2⟩ => ⟨e1, h4.trans (o2.mono h4.size)⟩
  have kB' : ∀ w4, Below W.heap.size W w4 → Calls Tryz.prog 64 #[.agg #[.bool nb, .slice va vn vc, .int .i64 eb]] w4 fun r w' => r = .returned (.int .i64 sb) ∧ Below W.heap.size W w' := fun w4 h4 => (kB w4 (hBW.trans (h4.mono hBW.size))).mono fun r w' ⟨e1, o2⟩ => ⟨e1, h4.trans (o2.mono h4.size)⟩
  have kM' : ∀ w4, Below W.heap.size W w4 → Calls Tryz.prog 76 #[.agg #[.bool na, .slice ua un uc, .int .i64 ea], .agg #[.bool nb, .slice va vn vc, .int .i64 eb]] w4 fun r w' => r = .returned (.int .i64 c) ∧ Below W.heap.size W w' := fun w4 h4 => (kM w4 (hBW.trans (h4.mono hBW.size))).mono fun r w' ⟨e1, o2⟩ => ⟨e1, h4.trans (o2.mono h4.size)⟩
  have HKM : Hid (∀ w4, Below W.heap.size W w4 → Calls Tryz.prog 76 #[.agg #[.bool na, .slice ua un uc, .int .i64 ea], .agg #[.bool nb, .slice va vn vc, .int .i64 eb]] w4 fun r w' => r = .returned (.int .i64 c) ∧ Below W.heap.size W w') := kM'
  obtain ⟨⟨a0, a1, a2⟩, -⟩ := box_cells29 hA
  obtain ⟨⟨b0, b1, b2⟩, -⟩ := box_cells29 hBb
  have HK : Hid (∀ w', Below W.heap.size W w' → ((w'.cell? ⟨w.heap.size, 0, none⟩ = some (.bool na) ∧ w'.cell? ⟨w.heap.size, 1, none⟩ = some (.slice ua un uc) ∧ w'.cell? ⟨w.heap.size, 2, none⟩ = some (.int .i64 ea)) ∧ (w'.cell? ⟨w.heap.size + 1, 0, none⟩ = some (.bool nb) ∧ w'.cell? ⟨w.heap.size + 1, 1, none⟩ = some (.slice va vn vc) ∧ w'.cell? ⟨w.heap.size + 1, 2, none⟩ = some (.int .i64 eb)))) := fun w' hb => ⟨(box_cells29 (box_later hA hb (by omega))).1, (box_cells29 (box_later hBb hb (by omega))).1⟩
  have HRD : Hid (∀ w', Below W.heap.size W w' → Below W.heap.size W w'.drew) := fun w' h => h.trans ⟨rfl, rfl, rfl, Nat.le_refl _, fun _ _ => rfl⟩
  have hBR : Below W.heap.size W W.drew := (Below.refl _ _).drew
  have hse : (sa == sb) = true := by simp; omega
  have hse2 : (sa != sb) = false := by simp; omega
  obtain ⟨d, hd⟩ : ∃ d, d = -c := ⟨_, rfl⟩
  have hdw : IntKind.i64.wrap d = d := by rw [IntKind.wrap_i64]; omega
  have hd1 : d < 0 := by omega
  have hdn : -c = d := hd.symm
  clear kA kB kM kM' hA hBb hsz hBW hd hc hc3 hc4 hse0
  go_enter Tryz.func34, Tryz.ntmps34
  go_upto_region 1 with fail
  rw [← hW]
  clear hW
  go_cut [5, 6] from 8 to 11 (fun u v w' => u = .int .i64 sa ∧ v = .int .i64 sb ∧ Hid (Below W.heap.size W w'))
  case first =>
    go_region_held3 (fun w' => ((w'.cell? ⟨w.heap.size, 0, none⟩ = some (.bool na) ∧ w'.cell? ⟨w.heap.size, 1, none⟩ = some (.slice ua un uc) ∧ w'.cell? ⟨w.heap.size, 2, none⟩ = some (.int .i64 ea)) ∧ (w'.cell? ⟨w.heap.size + 1, 0, none⟩ = some (.bool nb) ∧ w'.cell? ⟨w.heap.size + 1, 1, none⟩ = some (.slice va vn vc) ∧ w'.cell? ⟨w.heap.size + 1, 2, none⟩ = some (.int .i64 eb)))) (first | (with_reducible assumption) | exact ⟨⟨a0, a1, a2⟩, b0, b1, b2⟩ | (refine HK.out _ ?_; with_reducible assumption) | go_keep)
      (first | (go_at_call 64; first | (with_reducible refine (kA' _ (by first | (with_reducible assumption) | exact hBR)).mono ?_; rintro r w5 ⟨rfl, hb5⟩) | (with_reducible refine (kB' _ (by first | (with_reducible assumption) | exact hBR)).mono ?_; rintro r w6 ⟨rfl, hb6⟩)))
    all_goals go_wp2_with fail
    all_goals go_meet
    all_goals exact ⟨rfl, rfl, by first | exact hb6 | exact hb5⟩
  case rest =>
    obtain ⟨rfl, rfl, hc⟩ := hcut
    obtain ⟨W2, rfl⟩ : ∃ W2 : World, W2 = wc := ⟨_, rfl⟩
    clear a0 a1 a2 b0 b1 b2 kA' kB' hBR
    have kM' := HKM.out W2 hc.out
    obtain ⟨⟨a0, a1, a2⟩, b0, b1, b2⟩ := HK.out W2 hc.out
    go_wp2_with fail
    refine kM'.mono ?_
    rintro r w7 ⟨rfl, hb7⟩
    have HL7 : Hid (Below W.heap.size W w7) := hb7
    clear kM' HK HKM a0 a1 a2 b0 b1 b2 hb7
    go_wp2
    go_ret
    exact ⟨rfl, HX.out.trans (HL7.out.mono HX.out.size)⟩
set_option maxHeartbeats 4000000 in
set_option maxRecDepth 200000 in
theorem rorder_ne (na nb : Bool) (ua va : Option Addr) (un uc vn vc : Nat) (ea eb sa sb c : Int) (w : World) (hse0 : sa = sb) (hs : sa < 0) (hc : c = 0) (hc3 : -90000000000 ≤ c) (hc4 : c ≤ 90000000000)
    (kA : ∀ W, Below w.heap.size w W → Calls Tryz.prog 64 #[.agg #[.bool na, .slice ua un uc, .int .i64 ea]] W fun r w' => r = .returned (.int .i64 sa) ∧ Below W.heap.size W w')
    (kB : ∀ W, Below w.heap.size w W → Calls Tryz.prog 64 #[.agg #[.bool nb, .slice va vn vc, .int .i64 eb]] W fun r w' => r = .returned (.int .i64 sb) ∧ Below W.heap.size W w')
    (kM : ∀ W, Below w.heap.size w W → Calls Tryz.prog 76 #[.agg #[.bool na, .slice ua un uc, .int .i64 ea], .agg #[.bool nb, .slice va vn vc, .int .i64 eb]] W fun r w' => r = .returned (.int .i64 c) ∧ Below W.heap.size W w') :
    Calls Tryz.prog 34 #[.agg #[.bool na, .slice ua un uc, .int .i64 ea], .agg #[.bool nb, .slice va vn vc, .int .i64 eb]] w fun r w' => r = .returned (.int .i64 (0)) ∧ Below w.heap.size w w' := by
  obtain ⟨W, hW⟩ : ∃ W, W = (w.alloc (.cells #[.bool na, .slice ua un uc, .int .i64 ea] 38)).alloc (.cells #[.bool nb, .slice va vn vc, .int .i64 eb] 38) := ⟨_, rfl⟩
  obtain ⟨hA, hBb, hsz, hBW⟩ := two29 _ _ hW
  have HX : Hid (Below w.heap.size w W) := hBW
  have kA' : ∀ w4, Below W.heap.size W w4 → Calls Tryz.prog 64 #[.agg #[.bool na, .slice ua un uc, .int .i64 ea]] w4 fun r w' => r = .returned (.int .i64 sa) ∧ Below W.heap.size W w' := fun w4 h4 => (kA w4 (hBW.trans (h4.mono hBW.size))).mono fun r w' ⟨e1, o2⟩ => ⟨e1, h4.trans (o2.mono h4.size)⟩
  have kB' : ∀ w4, Below W.heap.size W w4 → Calls Tryz.prog 64 #[.agg #[.bool nb, .slice va vn vc, .int .i64 eb]] w4 fun r w' => r = .returned (.int .i64 sb) ∧ Below W.heap.size W w' := fun w4 h4 => (kB w4 (hBW.trans (h4.mono hBW.size))).mono fun r w' ⟨e1, o2⟩ => ⟨e1, h4.trans (o2.mono h4.size)⟩
  have kM' : ∀ w4, Below W.heap.size W w4 → Calls Tryz.prog 76 #[.agg #[.bool na, .slice ua un uc, .int .i64 ea], .agg #[.bool nb, .slice va vn vc, .int .i64 eb]] w4 fun r w' => r = .returned (.int .i64 c) ∧ Below W.heap.size W w' := fun w4 h4 => (kM w4 (hBW.trans (h4.mono hBW.size))).mono fun r w' ⟨e1, o2⟩ => ⟨e1, h4.trans (o2.mono h4.size)⟩
  have HKM : Hid (∀ w4, Below W.heap.size W w4 → Calls Tryz.prog 76 #[.agg #[.bool na, .slice ua un uc, .int .i64 ea], .agg #[.bool nb, .slice va vn vc, .int .i64 eb]] w4 fun r w' => r = .returned (.int .i64 c) ∧ Below W.heap.size W w') := kM'
  obtain ⟨⟨a0, a1, a2⟩, -⟩ := box_cells29 hA
  obtain ⟨⟨b0, b1, b2⟩, -⟩ := box_cells29 hBb
  have HK : Hid (∀ w', Below W.heap.size W w' → ((w'.cell? ⟨w.heap.size, 0, none⟩ = some (.bool na) ∧ w'.cell? ⟨w.heap.size, 1, none⟩ = some (.slice ua un uc) ∧ w'.cell? ⟨w.heap.size, 2, none⟩ = some (.int .i64 ea)) ∧ (w'.cell? ⟨w.heap.size + 1, 0, none⟩ = some (.bool nb) ∧ w'.cell? ⟨w.heap.size + 1, 1, none⟩ = some (.slice va vn vc) ∧ w'.cell? ⟨w.heap.size + 1, 2, none⟩ = some (.int .i64 eb)))) := fun w' hb => ⟨(box_cells29 (box_later hA hb (by omega))).1, (box_cells29 (box_later hBb hb (by omega))).1⟩
  have HRD : Hid (∀ w', Below W.heap.size W w' → Below W.heap.size W w'.drew) := fun w' h => h.trans ⟨rfl, rfl, rfl, Nat.le_refl _, fun _ _ => rfl⟩
  have hBR : Below W.heap.size W W.drew := (Below.refl _ _).drew
  have hse : (sa == sb) = true := by simp; omega
  have hse2 : (sa != sb) = false := by simp; omega
  obtain ⟨d, hd⟩ : ∃ d, d = -c := ⟨_, rfl⟩
  have hdw : IntKind.i64.wrap d = d := by rw [IntKind.wrap_i64]; omega
  have hd1 : ¬ d < 0 := by omega
  have hd2 : ¬ 0 < d := by omega
  have hdn : -c = d := hd.symm
  clear kA kB kM kM' hA hBb hsz hBW hd hc hc3 hc4 hse0
  go_enter Tryz.func34, Tryz.ntmps34
  go_upto_region 1 with fail
  rw [← hW]
  clear hW
  go_cut [5, 6] from 8 to 11 (fun u v w' => u = .int .i64 sa ∧ v = .int .i64 sb ∧ Hid (Below W.heap.size W w'))
  case first =>
    go_region_held3 (fun w' => ((w'.cell? ⟨w.heap.size, 0, none⟩ = some (.bool na) ∧ w'.cell? ⟨w.heap.size, 1, none⟩ = some (.slice ua un uc) ∧ w'.cell? ⟨w.heap.size, 2, none⟩ = some (.int .i64 ea)) ∧ (w'.cell? ⟨w.heap.size + 1, 0, none⟩ = some (.bool nb) ∧ w'.cell? ⟨w.heap.size + 1, 1, none⟩ = some (.slice va vn vc) ∧ w'.cell? ⟨w.heap.size + 1, 2, none⟩ = some (.int .i64 eb)))) (first | (with_reducible assumption) | exact ⟨⟨a0, a1, a2⟩, b0, b1, b2⟩ | (refine HK.out _ ?_; with_reducible assumption) | go_keep)
      (first | (go_at_call 64; first | (with_reducible refine (kA' _ (by first | (with_reducible assumption) | exact hBR)).mono ?_; rintro r w5 ⟨rfl, hb5⟩) | (with_reducible refine (kB' _ (by first | (with_reducible assumption) | exact hBR)).mono ?_; rintro r w6 ⟨rfl, hb6⟩)))
    all_goals go_wp2_with fail
    all_goals go_meet
    all_goals exact ⟨rfl, rfl, by first | exact hb6 | exact hb5⟩
  case rest =>
    obtain ⟨rfl, rfl, hc⟩ := hcut
    obtain ⟨W2, rfl⟩ : ∃ W2 : World, W2 = wc := ⟨_, rfl⟩
    clear a0 a1 a2 b0 b1 b2 kA' kB' hBR
    have kM' := HKM.out W2 hc.out
    obtain ⟨⟨a0, a1, a2⟩, b0, b1, b2⟩ := HK.out W2 hc.out
    go_wp2_with fail
    refine kM'.mono ?_
    rintro r w7 ⟨rfl, hb7⟩
    have HL7 : Hid (Below W.heap.size W w7) := hb7
    clear kM' HK HKM a0 a1 a2 b0 b1 b2 hb7
    go_wp2
    go_ret
    exact ⟨rfl, HX.out.trans (HL7.out.mono HX.out.size)⟩
end Go.Proofs.YtajeodimbfppiaaGreatDoor

/- The document's Order and Cmp, joined. -/
namespace Go.Proofs.YtajeodimbfppiaaGreatDoor
set_option linter.unusedVariables false
set_option linter.unusedSimpArgs false
open Go.RowKit

theorem magI_sign {x y : Nat} {ea eb : Int} : cmpI (magI x ea y eb) 0 = cmpI (x * 2 ^ (ea - min ea eb).toNat : Nat) (y * 2 ^ (eb - min ea eb).toNat : Nat) := by
  unfold magI
  by_cases h0 : x = 0 ∨ y = 0
  · rw [if_pos h0]
    by_cases hx : x = 0
    · subst hx
      rw [dlen_zero, Nat.zero_mul]
      by_cases hy : y = 0
      · subst hy; rw [dlen_zero, Nat.zero_mul]; rfl
      · have h1 : dlen y ≠ 0 := fun e => hy (dlen_eq_zero.1 e)
        have h2 : 0 < y * 2 ^ (eb - min ea eb).toNat := Nat.mul_pos (by omega) (Nat.two_pow_pos _)
        unfold cmpI
        rw [if_pos (by omega), if_pos (by omega)]
    · have hy : y = 0 := by omega
      subst hy
      rw [dlen_zero, Nat.zero_mul]
      have h1 : dlen x ≠ 0 := fun e => hx (dlen_eq_zero.1 e)
      have h2 : 0 < x * 2 ^ (ea - min ea eb).toNat := Nat.mul_pos (by omega) (Nat.two_pow_pos _)
      unfold cmpI
      rw [if_neg (by omega), if_pos (by omega), if_neg (by omega), if_pos (by omega)]
  · rw [if_neg h0]
    have hx0 : x ≠ 0 := fun e => h0 (.inl e)
    have hy0 : y ≠ 0 := fun e => h0 (.inr e)
    by_cases ht : (bl x : Int) + ea = bl y + eb
    · rw [if_pos ht]
      rcases cmpI_cases (x * 2 ^ (ea - min ea eb).toNat : Nat) (y * 2 ^ (eb - min ea eb).toNat : Nat) with h | h | h <;> rw [h.2] <;> rfl
    · rw [if_neg ht]
      rcases cmpI_cases (bl x + ea) (bl y + eb) with h | h | h
      · have := top_lt (x := x) (k := (ea - min ea eb).toNat) (l := (eb - min ea eb).toNat) hy0 (by omega)
        unfold cmpI; rw [if_pos (by omega), if_pos (by omega)]
      · have := top_lt (x := y) (y := x) (k := (eb - min ea eb).toNat) (l := (ea - min ea eb).toNat) hx0 (by omega)
        unfold cmpI; rw [if_neg (by omega), if_pos (by omega), if_neg (by omega), if_pos (by omega)]
      · exact absurd h.1 ht
theorem magI_le {x y : Nat} {ea eb : Int} (hx : dlen x ≤ 400000) (hy : dlen y ≤ 400000) (ha : -2000000 ≤ ea ∧ ea ≤ 2000000) (hb : -2000000 ≤ eb ∧ eb ≤ 2000000) : -90000000000 ≤ magI x ea y eb ∧ magI x ea y eb ≤ 90000000000 := by
  have b1 := bl_le_dlen x
  have b2 := bl_le_dlen y
  unfold magI
  split
  · omega
  · split
    · rcases cmpI_cases (x * 2 ^ (ea - min ea eb).toNat : Nat) (y * 2 ^ (eb - min ea eb).toNat : Nat) with h | h | h <;> rw [h.2] <;> omega
    · omega
/-- Order answers as Cmp -/
theorem rorder {na nb : Bool} {ua va : Option Addr} {uc vc x y : Nat} {ea eb : Int} {w : World} (h1 : Arg w ua (dlen x) uc x) (h2 : Arg w va (dlen y) vc y) (hx : dlen x ≤ 400000) (hy : dlen y ≤ 400000) (ha : -2000000 ≤ ea ∧ ea ≤ 2000000) (hb : -2000000 ≤ eb ∧ eb ≤ 2000000) :
    Calls Tryz.prog 34 #[.agg #[.bool na, .slice ua (dlen x) uc, .int .i64 ea], .agg #[.bool nb, .slice va (dlen y) vc, .int .i64 eb]] w fun r w' => r = .returned (.int .i64 (ordN na x ea nb y eb)) ∧ Below w.heap.size w w' := by
  have kA : ∀ W, Below w.heap.size w W → Calls Tryz.prog 64 #[.agg #[.bool na, .slice ua (dlen x) uc, .int .i64 ea]] W fun r w' => r = .returned (.int .i64 (sgI na (dlen x))) ∧ Below W.heap.size W w' := fun W hW => rsgn (by omega)
  have kB : ∀ W, Below w.heap.size w W → Calls Tryz.prog 64 #[.agg #[.bool nb, .slice va (dlen y) vc, .int .i64 eb]] W fun r w' => r = .returned (.int .i64 (sgI nb (dlen y))) ∧ Below W.heap.size W w' := fun W hW => rsgn (by omega)
  have kM : ∀ W, Below w.heap.size w W → Calls Tryz.prog 76 #[.agg #[.bool na, .slice ua (dlen x) uc, .int .i64 ea], .agg #[.bool nb, .slice va (dlen y) vc, .int .i64 eb]] W fun r w' => r = .returned (.int .i64 (magI x ea y eb)) ∧ Below W.heap.size W w' := fun W hW => rmag (h1.later hW) (h2.later hW) hx hy ha hb
  have hl := magI_le (ea := ea) (eb := eb) hx hy ha hb
  have hm := magI_sign (x := x) (y := y) (ea := ea) (eb := eb)
  unfold ordN
  rw [← hm]
  generalize hsa : sgI na (dlen x) = sa at *
  generalize hsb : sgI nb (dlen y) = sb at *
  generalize magI x ea y eb = c at *
  by_cases hs : sa = sb
  · rw [if_pos hs]
    have hs3 : sa = 0 ∨ sa = -1 ∨ sa = 1 := by
      rw [← hsa]; unfold sgI
      split
      · exact .inl rfl
      · split
        · exact .inr (.inl rfl)
        · exact .inr (.inr rfl)
    by_cases hsn : sa < 0
    · have hs1 : sa = -1 := by omega
      rcases cmpI_cases c 0 with h | h | h
      · rw [h.2, show sa * -1 = 1 by omega]; exact rorder_nl na nb ua va _ uc _ vc ea eb sa sb c w hs hsn h.1 hl.1 hl.2 kA kB kM
      · rw [h.2, show sa * 1 = -1 by omega]; exact rorder_ng na nb ua va _ uc _ vc ea eb sa sb c w hs hsn h.1 hl.1 hl.2 kA kB kM
      · rw [h.2, Int.mul_zero]; exact rorder_ne na nb ua va _ uc _ vc ea eb sa sb c w hs hsn h.1 hl.1 hl.2 kA kB kM
    · by_cases h0 : sa = 0
      · have hc0 : c = 0 := by
          have hdx : dlen x = 0 := by
            apply Decidable.byContradiction
            intro hne
            rw [h0, sgI_pos hne] at hsa
            cases na <;> simp at hsa
          have hdy : dlen y = 0 := by
            apply Decidable.byContradiction
            intro hne
            rw [← hs, h0, sgI_pos hne] at hsb
            cases nb <;> simp at hsb
          have ex : x = 0 := dlen_eq_zero.1 hdx
          have ey : y = 0 := dlen_eq_zero.1 hdy
          subst ex; subst ey
          rw [Nat.zero_mul, Nat.zero_mul] at hm
          rcases cmpI_cases c 0 with h | h | h
          · rw [h.2] at hm; exact absurd hm (by decide)
          · rw [h.2] at hm; exact absurd hm (by decide)
          · exact h.1
        rw [show sa * cmpI c 0 = 0 by rw [h0, Int.zero_mul]]
        exact rorder_pe na nb ua va _ uc _ vc ea eb sa sb c w hs (by omega) hc0 hl.1 hl.2 kA kB kM
      · have hs1 : sa = 1 := by omega
        rw [show sa * cmpI c 0 = cmpI c 0 by rw [hs1, Int.one_mul]]
        rcases cmpI_cases c 0 with h | h | h
        · rw [h.2]; exact rorder_pl na nb ua va _ uc _ vc ea eb sa sb c w hs (by omega) h.1 hl.1 hl.2 kA kB kM
        · rw [h.2]; exact rorder_pg na nb ua va _ uc _ vc ea eb sa sb c w hs (by omega) h.1 hl.1 hl.2 kA kB kM
        · rw [h.2]; exact rorder_pe na nb ua va _ uc _ vc ea eb sa sb c w hs (by omega) h.1 hl.1 hl.2 kA kB kM
  · rw [if_neg hs]
    unfold cmpI
    by_cases hlt : sa < sb
    · rw [if_pos hlt]; exact rorder_lt na nb ua va _ uc _ vc ea eb sa sb c w hlt kA kB
    · rw [if_neg hlt, if_pos (by omega)]; exact rorder_gt na nb ua va _ uc _ vc ea eb sa sb c w hlt hs kA kB
end Go.Proofs.YtajeodimbfppiaaGreatDoor

/- The document's Show. -/
namespace Go.Proofs.YtajeodimbfppiaaGreatDoor
set_option linter.unusedVariables false
set_option linter.unusedSimpArgs false
open Go.RowKit

end Go.Proofs.YtajeodimbfppiaaGreatDoor

/- The document's Neg, Abs. -/
namespace Go.Proofs.YtajeodimbfppiaaGreatDoor
set_option linter.unusedVariables false
set_option linter.unusedSimpArgs false
open Go.RowKit

end Go.Proofs.YtajeodimbfppiaaGreatDoor

/- DyadAsks: the calls of both sides joined. -/
namespace Go.Proofs.YtajeodimbfppiaaGreatDoor
set_option linter.unusedVariables false
set_option linter.unusedSimpArgs false
open Go.RowKit

/-- what the program holds -/
theorem PI.open {na : Bool} {un x : Nat} {ea : Int} {W : World} {X : Value} (hX : PI na un x ea W X) : ∃ pa pc, X = .agg #[.bool na, .slice pa un pc, .int .i64 ea] ∧ At W pa un x := by
  obtain ⟨v, b, rfl, d1⟩ := hX
  obtain ⟨pa, pc, rfl, p1, p2⟩ := d1.at
  exact ⟨pa, pc, rfl, p2⟩
theorem PI.is {na : Bool} {x : Nat} {ea : Int} {W : World} {X : Value} (hX : PI na (dlen x) x ea W X) : ∃ pa pc, X = .agg #[.bool na, .slice pa (dlen x) pc, .int .i64 ea] ∧ Is W (.slice pa (dlen x) pc) x := by
  obtain ⟨v, b, rfl, d1⟩ := hX
  obtain ⟨pa, pc, e1, i1⟩ := dn_pn (s := na) (e := ea) d1
  exact ⟨pa, pc, e1, i1⟩

end Go.Proofs.YtajeodimbfppiaaGreatDoor

/- DyadOrder. -/
namespace Go.Proofs.YtajeodimbfppiaaGreatDoor
set_option linter.unusedVariables false
set_option linter.unusedSimpArgs false
open Go.RowKit Go.Fl64

end Go.Proofs.YtajeodimbfppiaaGreatDoor

/- What is rounded down and up are the same or neighbours; the float above. -/
namespace Go.Proofs.YtajeodimbfppiaaGreatDoor
set_option linter.unusedVariables false
set_option linter.unusedSimpArgs false
open Go.RowKit Go.Fl64

theorem Rounds.step {A u b0 b2 : Nat} (h0 : Rounds A u b0 0) (h2 : Rounds A u b2 2) : b0 ≤ b2 ∧ b2 ≤ b0 + 1 := by
  obtain ⟨c0, ⟨p1, p2⟩, q0, -, -⟩ := h0.fl
  obtain ⟨c2, ⟨r1, r2⟩, -, s2, -⟩ := h2.fl
  have e0 := q0 rfl
  have e2 := s2 rfl
  have h1 := floor_mono (Nat.le_refl A) p1 r2
  have h3 := floor_mono (Nat.le_refl A) r1 p2
  have : c0 = c2 := by omega
  subst this
  rw [e0, e2]
  split <;> omega
theorem bdy_step {x : Nat} {e : Int} (he : -65536 ≤ e) : bdy x e 2 ≤ bdy x e 0 + 1 := by
  by_cases hx : x = 0
  · unfold bdy; rw [if_pos hx, if_pos hx]; omega
  · obtain ⟨h1, h2⟩ := Rounds.step (VA_rounds (K := 70000) (by omega) hx he) (VA_rounds (K := 70000) (by omega) hx he)
    unfold bdy
    rw [if_neg hx, if_neg hx]
    by_cases g0 : rwb x e 0 < 9218868437227405312
    · rw [if_pos g0]
      by_cases g2 : rwb x e 2 < 9218868437227405312
      · rw [if_pos g2]; omega
      · rw [if_neg g2, if_neg (by decide)]; omega
    · rw [if_neg g0, if_pos rfl, if_neg (by omega), if_neg (by decide)]; omega
/-- the float above -/
def nxF (a : Nat) : Nat := if mag a = 0 then 1 else if neg a then a - 1 else a + 1
theorem nxF_stp {a : Nat} (ha : a < 18446744073709551616) (hn : isNaN a = false) (hi : a ≠ 9218868437227405312) : stp (nxF a) = stp a + 1 ∧ isNaN (nxF a) = false ∧ nxF a < 18446744073709551616 := by
  have hm : mag a ≤ 9218868437227405312 := by unfold isNaN at hn; simp at hn; omega
  unfold nxF
  by_cases h0 : mag a = 0
  · rw [if_pos h0]
    have : stp a = 0 := by unfold stp sgn; rw [h0]; simp
    rw [this]
    exact ⟨by decide, by decide, by decide⟩
  · rw [if_neg h0]
    by_cases hg : 9223372036854775808 ≤ a
    · have e : neg a = true := decide_eq_true hg
      have hma : mag a = a - 9223372036854775808 := by unfold mag; omega
      rw [e, if_pos rfl]
      have h1 : neg (a - 1) = true := decide_eq_true (by omega)
      have h2 : mag (a - 1) = mag a - 1 := by unfold mag; omega
      refine ⟨?_, nan_no (by rw [h2]; omega), by omega⟩
      unfold stp sgn
      rw [e, h1, h2, if_pos rfl, if_pos rfl]
      omega
    · have e : neg a = false := decide_eq_false hg
      have hma : mag a = a := by unfold mag; omega
      rw [e, if_neg (by decide)]
      have h1 : neg (a + 1) = false := decide_eq_false (by omega)
      have h2 : mag (a + 1) = mag a + 1 := by unfold mag; omega
      refine ⟨?_, nan_no (by rw [h2]; omega), by omega⟩
      unfold stp sgn
      rw [e, h1, h2, if_neg (by decide), if_neg (by decide)]
      omega
theorem dnext (a : Nat) (ha : a < 18446744073709551616) (hn : isNaN a = false) (hi : a ≠ 9218868437227405312) (w : World) : Calls Tryz.prog 33 #[.float .f64 a] w fun r w' => r = .returned (.float .f64 (nxF a)) ∧ w' = w := by
  have kb := Ie.dbits a
  have kn := Ie.dnan a ha
  rw [hn] at kn
  have km := Ie.dmag a ha
  have ks := Ie.dneg a ha
  have hi' : ((a : Int) == 9218868437227405312) = false := by simp; omega
  have hm : mag a ≤ 9218868437227405312 := by unfold isNaN at hn; simp at hn; omega
  unfold nxF
  by_cases h0 : mag a = 0
  · rw [if_pos h0]
    rw [h0] at km
    clear hn hi hm ha h0
    go_enter Tryz.func33, Tryz.ntmps33
    go_wp2_with (first | (go_at_call 75; refine (kb _).mono ?_; rintro e w' ⟨rfl, hw⟩; rw [hw]; clear hw w') | (go_at_call 35; refine (kn _).mono ?_; rintro e w' ⟨rfl, hw⟩; rw [hw]; clear hw w') | (go_at_call 65; refine (km _).mono ?_; rintro e w' ⟨rfl, hw⟩; rw [hw]; clear hw w') | (go_at_call 74; refine (Ie.dof _ _).mono ?_; rintro e w' ⟨rfl, hw⟩; rw [hw]; clear hw w'))
    go_ret
    exact ⟨rfl, rfl⟩
  · rw [if_neg h0]
    have hz : ((mag a : Int) == 0) = false := by simp; omega
    cases hs : neg a
    · rw [hs] at ks
      rw [if_neg (by decide)]
      have hw1 : IntKind.u64.wrap ((a : Int) + 1) = ((a + 1 : Nat) : Int) := by
        have : ¬ 9223372036854775808 ≤ a := by unfold neg at hs; simpa using hs
        rw [IntKind.wrap_u64]; omega
      clear hn hi hm ha h0 hs
      go_enter Tryz.func33, Tryz.ntmps33
      go_wp2_with (first | (go_at_call 75; refine (kb _).mono ?_; rintro e w' ⟨rfl, hw⟩; rw [hw]; clear hw w') | (go_at_call 35; refine (kn _).mono ?_; rintro e w' ⟨rfl, hw⟩; rw [hw]; clear hw w') | (go_at_call 65; refine (km _).mono ?_; rintro e w' ⟨rfl, hw⟩; rw [hw]; clear hw w') | (go_at_call 47; refine (ks _).mono ?_; rintro e w' ⟨rfl, hw⟩; rw [hw]; clear hw w') | (go_at_call 74; refine (Ie.dof _ _).mono ?_; rintro e w' ⟨rfl, hw⟩; rw [hw]; clear hw w'))
      go_ret
      exact ⟨rfl, rfl⟩
    · rw [hs] at ks
      rw [if_pos rfl]
      have hw1 : IntKind.u64.wrap ((a : Int) - 1) = ((a - 1 : Nat) : Int) := by
        have : 9223372036854775808 ≤ a := by unfold neg at hs; simpa using hs
        rw [IntKind.wrap_u64]; omega
      clear hn hi hm ha h0 hs
      go_enter Tryz.func33, Tryz.ntmps33
      go_wp2_with (first | (go_at_call 75; refine (kb _).mono ?_; rintro e w' ⟨rfl, hw⟩; rw [hw]; clear hw w') | (go_at_call 35; refine (kn _).mono ?_; rintro e w' ⟨rfl, hw⟩; rw [hw]; clear hw w') | (go_at_call 65; refine (km _).mono ?_; rintro e w' ⟨rfl, hw⟩; rw [hw]; clear hw w') | (go_at_call 47; refine (ks _).mono ?_; rintro e w' ⟨rfl, hw⟩; rw [hw]; clear hw w') | (go_at_call 74; refine (Ie.dof _ _).mono ?_; rintro e w' ⟨rfl, hw⟩; rw [hw]; clear hw w'))
      go_ret
      exact ⟨rfl, rfl⟩
end Go.Proofs.YtajeodimbfppiaaGreatDoor

/- The law's 'between': in order, the same or neighbours, on both sides of the exact value. -/
namespace Go.Proofs.YtajeodimbfppiaaGreatDoor
set_option linter.unusedVariables false
set_option linter.unusedSimpArgs false
open Go.RowKit Go.Fl64

theorem o_eq {a b : Nat} (ha : a < 18446744073709551616) (hb : b < 18446744073709551616) (na : isNaN a = false) (nb : isNaN b = false) : (FloatKind.f64.format.order a b == some Ordering.eq) = decide (stp a = stp b) := by
  rw [ord_eq a b ha hb]; unfold Fl64.eq; rw [na, nb]; simp
theorem o_ne {a b : Nat} (ha : a < 18446744073709551616) (hb : b < 18446744073709551616) (na : isNaN a = false) (nb : isNaN b = false) : (FloatKind.f64.format.order a b != some Ordering.eq) = decide (stp a ≠ stp b) := by
  rw [bne, o_eq ha hb na nb]; simp


end Go.Proofs.YtajeodimbfppiaaGreatDoor

/- RoundHolds: the law's walk. -/
namespace Go.Proofs.YtajeodimbfppiaaGreatDoor
set_option linter.unusedVariables false
set_option linter.unusedSimpArgs false
open Go.RowKit Go.Fl64

end Go.Proofs.YtajeodimbfppiaaGreatDoor

/- RoundHolds. -/
namespace Go.Proofs.YtajeodimbfppiaaGreatDoor
set_option linter.unusedVariables false
set_option linter.unusedSimpArgs false
open Go.RowKit Go.Fl64

theorem dorder {t1 t2 : Bool × Nat × Int} {X Y : Value} {w : World} (o1 : Ok t1) (o2 : Ok t2) (h1 : DN w X t1) (h2 : DN w Y t2) : Calls Tryz.prog 34 #[X, Y] w fun r w' => r = .returned (.int .i64 (ordN t1.1 t1.2.1 t1.2.2 t2.1 t2.2.1 t2.2.2)) ∧ Below w.heap.size w w' := by
  obtain ⟨ao, cap, rfl, a1⟩ := h1
  obtain ⟨ao', cap', rfl, a2⟩ := h2
  obtain ⟨f1, f2, f3, -, -⟩ := o1.facts
  obtain ⟨g1, g2, g3, -, -⟩ := o2.facts
  exact rorder a1 a2 (by omega) (by omega) (by omega) (by omega)

/-- a finite float's number, by its bits -/
theorem vz_tF {a : Nat} (ha : a < 18446744073709551616) (hf : mag a < 9218868437227405312) : vz 70000 (tF a).1 (tF a).2.1 (tF a).2.2 = sv (neg a) (bv (mag a) * UU 70000) := by
  obtain ⟨m, hm, -⟩ := sM_lt a ha
  have e : nM a = m := by unfold nM; rw [hm]; rfl
  have hE : -1074 ≤ Ie.sE a := by
    by_cases h0 : mag a = 0
    · rw [(num_zero h0).2]; omega
    · exact (num_parts hf h0).2.2.1
  rw [← cn_parts a m ha hf hm, vz_cn (by omega), ← vz_num (K := 70000) (by omega) hf, e]
  unfold nN
  by_cases h0 : mag a = 0
  · have : nM a = 0 := (num_zero h0).1
    rw [← e, this]
    unfold vz
    rw [sv_zero, sv_zero]
  · rw [if_neg h0]

theorem fin_of {a : Nat} (hn : isNaN a = false) (h : Ie.isInf a = false) : mag a < 9218868437227405312 := by
  have h1 := Ie.isInf_not.1 h
  unfold isNaN at hn
  simp at hn
  omega
theorem cmpI_le {a b : Int} (h : a ≤ b) : cmpI a b ≤ 0 := by
  unfold cmpI
  split
  · omega
  · split <;> omega

end Go.Proofs.YtajeodimbfppiaaGreatDoor

/- What a root or a quotient rounded down and up is held against. -/
namespace Go.Proofs.YtajeodimbfppiaaGreatDoor
set_option linter.unusedVariables false
set_option linter.unusedSimpArgs false
open Go.RowKit Go.Fl64

/-- a number with digits laid behind it, the last one set: it rounds as 'not exact' -/
theorem tf_fine {s : Bool} {q D r : Nat} {h m : Int} (hq : 64 ≤ bl q) (hr0 : r ≠ 0) (hr : r < 2 ^ D) : tfF s false q h m = tfF s true (q * 2 ^ D + r) (h - D) m := by
  have hp := Nat.two_pow_pos D
  have e1 : (q * 2 ^ D + r) / 2 ^ D = q := by rw [Nat.add_comm, Nat.add_mul_div_right _ _ hp, Nat.div_eq_of_lt hr, Nat.zero_add]
  have e2 : (q * 2 ^ D + r) % 2 ^ D = r := by rw [Nat.add_comm, Nat.add_mul_mod_self_right, Nat.mod_eq_of_lt hr]
  have := tf_cut (s := s) (Z := q * 2 ^ D + r) (n := D) (E := h - D) (m := m) (by rw [e1]; exact hq) (by rw [e2]; exact hr0)
  rw [e1, show h - (D : Int) + (D : Int) = h by omega] at this
  exact this.symm

theorem mult_le {a b P : Nat} (ha : P ∣ a) (hb : P ∣ b) (h : a < b + P) : a ≤ b := by
  obtain ⟨c, rfl⟩ := ha
  obtain ⟨d, rfl⟩ := hb
  rcases Nat.lt_or_ge d c with hlt | hge
  · have : P * (d + 1) ≤ P * c := Nat.mul_le_mul_left P hlt
    rw [Nat.mul_add, Nat.mul_one] at this
    omega
  · exact Nat.mul_le_mul_left P hge
theorem mult_le2 {a b c : Nat} (ha : 2 ^ (c + 1) ∣ a) (hb : 2 ^ (c + 1) ∣ b) (h : a ≤ b + 2 ^ c) : a ≤ b := by
  refine mult_le ha hb ?_
  have h1 : 2 ^ (c + 1) = 2 * 2 ^ c := by rw [Nat.pow_succ]; omega
  have h2 := Nat.two_pow_pos c
  omega
theorem pow_dvd' {a b : Nat} (h : a ≤ b) : 2 ^ a ∣ 2 ^ b := Nat.pow_dvd_pow 2 h

theorem UU_dvd {c K : Nat} (h : c + 1 ≤ K - 1074) : 2 ^ (c + 1) ∣ UU K := pow_dvd' h
/-- rounded down: not above -/
theorem tf_down {q : Nat} {h : Int} (ex : Bool) (hq : 64 ≤ bl q) (h1 : -40000 ≤ h) (h2 : h ≤ 70000) : bv (mag (tfF false ex q h 1)) * UU 70000 ≤ q * 2 ^ (h + 70000).toNat ∧ mag (tfF false ex q h 1) < 9218868437227405312 := by
  obtain ⟨c, hc⟩ : ∃ c : Nat, c = 4464 := ⟨_, rfl⟩
  cases ex
  · have e := tf_fine (s := false) (q := q) (D := (h + 65536).toNat) (r := 1) (h := h) (m := 1) hq (by omega) (Nat.one_lt_two_pow (by omega))
    have eh : h - ((h + 65536).toNat : Int) = -65536 := by omega
    rw [eh] at e
    rw [e, tf_bdy (by omega), show wyN false 1 = 0 from rfl, (mag_sig (bdy_le _ _ _)).1]
    obtain ⟨-, -, o3, o4, -, -⟩ := bdy_order (K := 70000) (by omega) (x := q * 2 ^ (h + 65536).toNat + 1) (e := -65536) (by omega)
    refine ⟨?_, o3⟩
    unfold VA at o4
    rw [show ((-65536 : Int) + ((70000 : Nat) : Int)).toNat = c by rw [hc]; decide, Nat.add_mul, Nat.mul_assoc, ← Nat.pow_add, show (h + 65536).toNat + c = (h + 70000).toNat by omega, Nat.one_mul] at o4
    refine mult_le2 (c := c) ?_ ?_ o4
    · exact Nat.dvd_mul_left_of_dvd (UU_dvd (by omega)) _
    · exact Nat.dvd_mul_left_of_dvd (pow_dvd' (by omega)) _
  · rw [tf_bdy (by omega), show wyN false 1 = 0 from rfl, (mag_sig (bdy_le _ _ _)).1]
    obtain ⟨-, -, o3, o4, -, -⟩ := bdy_order (K := 70000) (by omega) (x := q) (e := h) (by omega)
    refine ⟨?_, o3⟩
    unfold VA at o4
    exact o4
/-- rounded up: not below -/
theorem tf_above {q : Nat} {h : Int} (ex : Bool) (hq : 64 ≤ bl q) (h1 : -40000 ≤ h) (h2 : h ≤ 70000) (hf : mag (tfF false ex q h 3) < 9218868437227405312) : (if ex then q else q + 1) * 2 ^ (h + 70000).toNat ≤ bv (mag (tfF false ex q h 3)) * UU 70000 := by
  obtain ⟨c, hc⟩ : ∃ c : Nat, c = 4464 := ⟨_, rfl⟩
  cases ex
  · have hD : 1 < 2 ^ (h + 65536).toNat := Nat.one_lt_two_pow (by omega)
    have e := tf_fine (s := false) (q := q) (D := (h + 65536).toNat) (r := 2 ^ (h + 65536).toNat - 1) (h := h) (m := 3) hq (by omega) (by omega)
    have eh : h - ((h + 65536).toNat : Int) = -65536 := by omega
    rw [eh] at e
    rw [e, tf_bdy (by omega), show wyN false 3 = 2 from rfl, (mag_sig (bdy_le _ _ _)).1] at hf ⊢
    obtain ⟨-, -, -, -, o5, -⟩ := bdy_order (K := 70000) (by omega) (x := q * 2 ^ (h + 65536).toNat + (2 ^ (h + 65536).toNat - 1)) (e := -65536) (by omega)
    have o5' := o5 hf
    unfold VA at o5'
    rw [show ((-65536 : Int) + ((70000 : Nat) : Int)).toNat = c by rw [hc]; decide] at o5'
    rw [if_neg (by decide)]
    refine mult_le2 (c := c) ?_ ?_ ?_
    · exact Nat.dvd_mul_left_of_dvd (pow_dvd' (by omega)) _
    · exact Nat.dvd_mul_left_of_dvd (UU_dvd (by omega)) _
    · have e2 : (q * 2 ^ (h + 65536).toNat + (2 ^ (h + 65536).toNat - 1)) * 2 ^ c + 2 ^ c = (q + 1) * 2 ^ (h + 70000).toNat := by
        rw [show (h + 70000).toNat = (h + 65536).toNat + c by omega, Nat.pow_add, ← Nat.mul_assoc]
        have : q * 2 ^ (h + 65536).toNat + (2 ^ (h + 65536).toNat - 1) + 1 = (q + 1) * 2 ^ (h + 65536).toNat := by rw [Nat.add_mul]; omega
        rw [← this, Nat.add_mul _ 1, Nat.one_mul]
      rw [← e2]
      exact Nat.add_le_add_right o5' _
  · rw [tf_bdy (by omega), show wyN false 3 = 2 from rfl, (mag_sig (bdy_le _ _ _)).1] at hf ⊢
    obtain ⟨-, -, -, -, o5, -⟩ := bdy_order (K := 70000) (by omega) (x := q) (e := h) (by omega)
    have o5' := o5 hf
    unfold VA at o5'
    rw [if_pos rfl]
    exact o5'
/-- the two are the same or neighbours -/
theorem tf_pair {q : Nat} {h : Int} (ex : Bool) (hq : 64 ≤ bl q) (h1 : -40000 ≤ h) : stp (tfF false ex q h 1) ≤ stp (tfF false ex q h 3) ∧ stp (tfF false ex q h 3) ≤ stp (tfF false ex q h 1) + 1 ∧ isNaN (tfF false ex q h 1) = false ∧ isNaN (tfF false ex q h 3) = false := by
  have key : ∀ (x : Nat) (e : Int), -65536 ≤ e → stp (tfF false true x e 1) ≤ stp (tfF false true x e 3) ∧ stp (tfF false true x e 3) ≤ stp (tfF false true x e 1) + 1 ∧ isNaN (tfF false true x e 1) = false ∧ isNaN (tfF false true x e 3) = false := fun x e he => by
    obtain ⟨o1, o2, -⟩ := bdy_order (K := 70000) (by omega) (x := x) (e := e) he
    have o3 := bdy_step (x := x) he
    rw [tf_bdy (by omega), tf_bdy (by omega), show wyN false 1 = 0 from rfl, show wyN false 3 = 2 from rfl, (stp_sig (bdy_le _ _ _)).1, (stp_sig (bdy_le _ _ _)).1]
    refine ⟨?_, ?_, nan_sig (bdy_le _ _ _), nan_sig (bdy_le _ _ _)⟩
    · show ((bdy x e 0 : Nat) : Int) ≤ ((bdy x e 2 : Nat) : Int); omega
    · show ((bdy x e 2 : Nat) : Int) ≤ ((bdy x e 0 : Nat) : Int) + 1; omega
  cases ex
  · rw [tf_sticky hq, tf_sticky hq]; exact key _ _ (by omega)
  · exact key _ _ (by omega)
end Go.Proofs.YtajeodimbfppiaaGreatDoor

/- Roots and quotients of floats, rounded down and up: squared, multiplied, they lie on both sides. -/
namespace Go.Proofs.YtajeodimbfppiaaGreatDoor
set_option linter.unusedVariables false
set_option linter.unusedSimpArgs false
open Go.RowKit Go.Fl64

/-- a number's size in units of 2 ^ -K, of one that is not below nought -/
theorem vz_pos {K x : Nat} {e : Int} : vz K false x e = ((x * 2 ^ (e + K).toNat : Nat) : Int) := by
  unfold vz sv
  simp
/-- the float of a finite one that is not below nought -/
theorem vz_flt {a : Nat} (ha : a < 18446744073709551616) (hf : mag a < 9218868437227405312) (hn : neg a = false) : vz 70000 (tF a).1 (tF a).2.1 (tF a).2.2 = ((bv (mag a) * UU 70000 : Nat) : Int) := by
  rw [vz_tF ha hf, hn]; rfl
theorem vz_tM {t1 t2 : Bool × Nat × Int} (o1 : Ok t1) (o2 : Ok t2) : vz (70000 + 70000) (tM t1 t2).1 (tM t1 t2).2.1 (tM t1 t2).2.2 = vz 70000 t1.1 t1.2.1 t1.2.2 * vz 70000 t2.1 t2.2.1 t2.2.2 := by
  have f1 := o1.facts
  have f2 := o2.facts
  unfold tM
  rw [vz_cn (by omega), vz_mul (by omega) (by omega)]
theorem ordN_le {t1 t2 : Bool × Nat × Int} {K : Nat} (h1 : 0 ≤ t1.2.2 + K) (h2 : 0 ≤ t2.2.2 + K) (h : vz K t1.1 t1.2.1 t1.2.2 ≤ vz K t2.1 t2.2.1 t2.2.2) : ordN t1.1 t1.2.1 t1.2.2 t2.1 t2.2.1 t2.2.2 ≤ 0 := by
  rw [ordN_vz h1 h2]; exact cmpI_le h
theorem ordN_ge {t1 t2 : Bool × Nat × Int} {K : Nat} (h1 : 0 ≤ t1.2.2 + K) (h2 : 0 ≤ t2.2.2 + K) (h : vz K t2.1 t2.2.1 t2.2.2 ≤ vz K t1.1 t1.2.1 t1.2.2) : 0 ≤ ordN t1.1 t1.2.1 t1.2.2 t2.1 t2.2.1 t2.2.2 := by
  rw [ordN_vz h1 h2]
  unfold cmpI
  split
  · omega
  · split <;> omega

theorem sq_le {q x k A C : Nat} (h : q * q ≤ x * 2 ^ k) (hC : C = k + A + A) : (q * 2 ^ A) * (q * 2 ^ A) ≤ x * 2 ^ C := by
  have e1 : (q * 2 ^ A) * (q * 2 ^ A) = (q * q) * (2 ^ A * 2 ^ A) := Nat.mul_mul_mul_comm _ _ _ _
  have e2 : x * 2 ^ C = (x * 2 ^ k) * (2 ^ A * 2 ^ A) := by rw [hC, Nat.pow_add, Nat.pow_add, Nat.mul_assoc, Nat.mul_assoc]
  rw [e1, e2]
  exact Nat.mul_le_mul_right _ h
theorem sq_ge {Z x k A C : Nat} (h : x * 2 ^ k ≤ Z * Z) (hC : C = k + A + A) : x * 2 ^ C ≤ (Z * 2 ^ A) * (Z * 2 ^ A) := by
  have e1 : (Z * 2 ^ A) * (Z * 2 ^ A) = (Z * Z) * (2 ^ A * 2 ^ A) := Nat.mul_mul_mul_comm _ _ _ _
  have e2 : x * 2 ^ C = (x * 2 ^ k) * (2 ^ A * 2 ^ A) := by rw [hC, Nat.pow_add, Nat.pow_add, Nat.mul_assoc, Nat.mul_assoc]
  rw [e1, e2]
  exact Nat.mul_le_mul_right _ h
theorem tf_pos {ex : Bool} {q : Nat} {h m : Int} (hm : 1 ≤ m ∧ m ≤ 3) (hq : 64 ≤ bl q) : neg (tfF false ex q h m) = false ∧ tfF false ex q h m < 18446744073709551616 := by
  refine ⟨?_, tfF_lt' hm⟩
  cases ex
  · rw [tf_sticky hq, tf_bdy hm]; exact (mag_sig (bdy_le _ _ _)).2.1
  · rw [tf_bdy hm]; exact (mag_sig (bdy_le _ _ _)).2.1
theorem bdy_602 : bdy 1 602 2 < 9218868437227405312 := by decide +kernel
/-- a value of no more than 2 ^ 600 rounds to a finite float -/
theorem tf_fin {ex : Bool} {q K : Nat} {h : Int} (hK : K = 70000) (hq : 64 ≤ bl q) (h1 : -40000 ≤ h) (hv : q * 2 ^ (h + K).toNat ≤ 2 ^ (600 + K)) : mag (tfF false ex q h 3) < 9218868437227405312 := by
  have key : ∀ (x : Nat) (e : Int), -65536 ≤ e → VA K x e ≤ 2 ^ (602 + K) → mag (tfF false true x e 3) < 9218868437227405312 := fun x e he hb => by
    rw [tf_bdy (by omega), show wyN false 3 = 2 from rfl, (mag_sig (bdy_le _ _ _)).1]
    have hm := bdy_mono (K := K) (by omega) (x := x) (y := 1) (e := e) (f := 602) (way := 2) he (by omega) (by omega) (by
      have : VA K 1 602 = 2 ^ (602 + K) := by unfold VA; rw [Nat.one_mul]; congr 1
      rw [this]; exact hb)
    exact Nat.lt_of_le_of_lt hm bdy_602
  have hq0 : 1 ≤ q := by
    rcases Nat.eq_zero_or_pos q with h | h
    · rw [h] at hq; simp [bl] at hq
    · exact h
  have e4 : 2 ^ (602 + K) = 4 * 2 ^ (600 + K) := by rw [show 602 + K = (600 + K) + 2 by omega, Nat.pow_add]; omega
  have hpp := Nat.two_pow_pos (600 + K)
  cases ex
  · rw [tf_sticky hq]
    refine key _ _ (by omega) ?_
    unfold VA
    obtain ⟨A, hA⟩ : ∃ A : Nat, (h + K).toNat = A + 1 := ⟨(h + K).toNat - 1, by omega⟩
    rw [show (h - 1 + (K : Int)).toNat = A by omega]
    rw [hA, Nat.pow_succ] at hv
    have hp := Nat.two_pow_pos A
    have h3 : (2 * q + 1) * 2 ^ A ≤ (4 * q) * 2 ^ A := Nat.mul_le_mul_right _ (by omega)
    have h4 : (4 * q) * 2 ^ A = 2 * (q * (2 ^ A * 2)) := by rw [Nat.mul_assoc 4 q, show q * (2 ^ A * 2) = 2 * (q * 2 ^ A) by rw [← Nat.mul_assoc]; omega]; omega
    omega
  · refine key _ _ (by omega) ?_
    unfold VA
    omega

/-- the root, rounded -/
def sqV (a q : Nat) (m : Int) : Nat := tfF false (decide (q * q = (tF a).2.1 * 2 ^ sqK (tF a))) q (((tF a).2.2 - (sqK (tF a) : Int)).tdiv 2) m

theorem sq_facts {a q : Nat} (ha : a < 18446744073709551616) (hp : pln a = true) (hn : neg a = false) (a1 : q * q ≤ (tF a).2.1 * 2 ^ sqK (tF a)) (a2 : (tF a).2.1 * 2 ^ sqK (tF a) < (q + 1) * (q + 1)) :
    mag (sqV a q 1) < 9218868437227405312 ∧ mag (sqV a q 3) < 9218868437227405312 ∧ stp (sqV a q 1) ≤ stp (sqV a q 3) ∧ stp (sqV a q 3) ≤ stp (sqV a q 1) + 1 ∧ isNaN (sqV a q 1) = false ∧ isNaN (sqV a q 3) = false ∧ neg (sqV a q 1) = false ∧ neg (sqV a q 3) = false ∧
    ordN (tM (tF (sqV a q 1)) (tF (sqV a q 1))).1 (tM (tF (sqV a q 1)) (tF (sqV a q 1))).2.1 (tM (tF (sqV a q 1)) (tF (sqV a q 1))).2.2 (tF a).1 (tF a).2.1 (tF a).2.2 ≤ 0 ∧
    0 ≤ ordN (tM (tF (sqV a q 3)) (tF (sqV a q 3))).1 (tM (tF (sqV a q 3)) (tF (sqV a q 3))).2.1 (tM (tF (sqV a q 3)) (tF (sqV a q 3))).2.2 (tF a).1 (tF a).2.1 (tF a).2.2 := by
  obtain ⟨hf, h0⟩ := pln_true.1 hp
  have hx0 := tF_ne h0
  have hok := tF_ok a
  have hF := tF_fits a
  have hev := sqK_even (tF a)
  have hbig := sqK_big (tF a)
  have fa := hok.facts
  have hs := tF_pos hn
  have bx := bl_le_dlen (tF a).2.1
  have hB : bl ((tF a).2.1 * 2 ^ sqK (tF a)) = bl (tF a).2.1 + sqK (tF a) := bl_shl' hx0
  have q1 := bl_root_lo a2
  have hq64 : 64 ≤ bl q := by omega
  have hFa : -1074 ≤ (tF a).2.2 ∧ (tF a).2.2 ≤ 1025 ∧ (tF a).2.1 < 2 ^ (1025 - (tF a).2.2).toNat := hF.resolve_left hx0
  have hsk : (sqK (tF a) : Int) ≤ 129 := by unfold sqK; split <;> omega
  unfold sqV
  generalize hx : (tF a).2.1 = x at *
  generalize he : (tF a).2.2 = e at *
  generalize sqK (tF a) = k at *
  generalize hh : (e - (k : Int)).tdiv 2 = h at *
  have hh1 : -40000 ≤ h := by omega
  have hh2 : h ≤ 70000 := by omega
  obtain ⟨d1, d2⟩ := tf_down (decide (q * q = x * 2 ^ k)) hq64 hh1 hh2
  obtain ⟨p1, p2, p3, p4⟩ := tf_pair (decide (q * q = x * 2 ^ k)) hq64 hh1
  obtain ⟨n1, l1⟩ := tf_pos (ex := decide (q * q = x * 2 ^ k)) (q := q) (h := h) (m := 1) (by omega) hq64
  obtain ⟨n3, l3⟩ := tf_pos (ex := decide (q * q = x * 2 ^ k)) (q := q) (h := h) (m := 3) (by omega) hq64
  obtain ⟨K, hK⟩ : ∃ K : Nat, K = 70000 := ⟨_, rfl⟩
  have hA0 : ((h + (K : Int)).toNat : Int) = h + K := by omega
  have hC : (e + ((K + K : Nat) : Int)).toNat = k + (h + (K : Int)).toNat + (h + (K : Int)).toNat := by omega
  have d3 : mag (tfF false (decide (q * q = x * 2 ^ k)) q h 3) < 9218868437227405312 := by
    refine tf_fin hK hq64 hh1 ?_
    rcases Nat.lt_or_ge (2 ^ (600 + K)) (q * 2 ^ (h + (K : Int)).toNat) with hlt | hge
    · exfalso
      have g1 := sq_le a1 hC
      have g2 : 2 ^ (600 + K) * 2 ^ (600 + K) ≤ (q * 2 ^ (h + (K : Int)).toNat) * (q * 2 ^ (h + (K : Int)).toNat) := Nat.mul_le_mul (Nat.le_of_lt hlt) (Nat.le_of_lt hlt)
      have g3 : x * 2 ^ (e + ((K + K : Nat) : Int)).toNat < 2 ^ (1025 - e).toNat * 2 ^ (e + ((K + K : Nat) : Int)).toNat := Nat.mul_lt_mul_of_pos_right hFa.2.2 (Nat.two_pow_pos _)
      rw [← Nat.pow_add] at g2 g3
      have g4 : 2 ^ ((1025 - e).toNat + (e + ((K + K : Nat) : Int)).toNat) ≤ 2 ^ (600 + K + (600 + K)) := Nat.pow_le_pow_right (by omega) (by omega)
      omega
    · exact hge
  have hov : (tF a).1 = false := hs
  have vA : vz (70000 + 70000) (tF a).1 (tF a).2.1 (tF a).2.2 = ((x * 2 ^ (e + ((K + K : Nat) : Int)).toNat : Nat) : Int) := by
    rw [hs, hx, he, vz_pos, hK]
  have o1 := tF_ok (tfF false (decide (q * q = x * 2 ^ k)) q h 1)
  have o3 := tF_ok (tfF false (decide (q * q = x * 2 ^ k)) q h 3)
  have v1 := vz_tM o1 o1
  have v3 := vz_tM o3 o3
  rw [vz_flt l1 d2 n1] at v1
  rw [vz_flt l3 d3 n3] at v3
  have u3 := tf_above (decide (q * q = x * 2 ^ k)) hq64 hh1 hh2 d3
  rw [← hK] at d1 u3 v1 v3 vA
  rw [show (70000 : Int) = (K : Int) by omega] at d1 u3
  have M1 := (tM_ok (tM_okR (tfF false (decide (q * q = x * 2 ^ k)) q h 1) (tfF false (decide (q * q = x * 2 ^ k)) q h 1))).facts
  have M3 := (tM_ok (tM_okR (tfF false (decide (q * q = x * 2 ^ k)) q h 3) (tfF false (decide (q * q = x * 2 ^ k)) q h 3))).facts
  rw [← hx, ← he] at *
  refine ⟨d2, d3, p1, p2, p3, p4, n1, n3, ordN_le (K := K + K) (by omega) (by omega) ?_, ordN_ge (K := K + K) (by omega) (by omega) ?_⟩
  · rw [v1, vA]
    have g1 := sq_le a1 hC
    have g2 := Nat.mul_le_mul d1 d1
    exact_mod_cast Nat.le_trans g2 g1
  · rw [v3, vA]
    have g2 := Nat.mul_le_mul u3 u3
    have g1 : (tF a).2.1 * 2 ^ ((tF a).2.2 + ((K + K : Nat) : Int)).toNat ≤ ((if decide (q * q = (tF a).2.1 * 2 ^ k) = true then q else q + 1) * 2 ^ (h + (K : Int)).toNat) * ((if decide (q * q = (tF a).2.1 * 2 ^ k) = true then q else q + 1) * 2 ^ (h + (K : Int)).toNat) := by
      refine sq_ge ?_ hC
      by_cases hex : q * q = (tF a).2.1 * 2 ^ k
      · rw [if_pos (decide_eq_true hex)]; omega
      · rw [if_neg (by simpa using hex)]; omega
    exact_mod_cast Nat.le_trans g1 g2

theorem mu_le {Q y x k A B C : Nat} (h : Q * y ≤ x * 2 ^ k) (hC : C = k + A + B) : (Q * 2 ^ A) * (y * 2 ^ B) ≤ x * 2 ^ C := by
  have e1 : (Q * 2 ^ A) * (y * 2 ^ B) = (Q * y) * (2 ^ A * 2 ^ B) := Nat.mul_mul_mul_comm _ _ _ _
  have e2 : x * 2 ^ C = (x * 2 ^ k) * (2 ^ A * 2 ^ B) := by rw [hC, Nat.pow_add, Nat.pow_add, Nat.mul_assoc, Nat.mul_assoc]
  rw [e1, e2]
  exact Nat.mul_le_mul_right _ h
theorem mu_ge {Q y x k A B C : Nat} (h : x * 2 ^ k ≤ Q * y) (hC : C = k + A + B) : x * 2 ^ C ≤ (Q * 2 ^ A) * (y * 2 ^ B) := by
  have e1 : (Q * 2 ^ A) * (y * 2 ^ B) = (Q * y) * (2 ^ A * 2 ^ B) := Nat.mul_mul_mul_comm _ _ _ _
  have e2 : x * 2 ^ C = (x * 2 ^ k) * (2 ^ A * 2 ^ B) := by rw [hC, Nat.pow_add, Nat.pow_add, Nat.mul_assoc, Nat.mul_assoc]
  rw [e1, e2]
  exact Nat.mul_le_mul_right _ h

theorem quo_facts {a b : Nat} (ha : a < 18446744073709551616) (hb : b < 18446744073709551616) (pa : pln a = true) (pb : pln b = true) (na : neg a = false) (nb : neg b = false) :
    mag (rtF (tF a) (tF b) 1) < 9218868437227405312 ∧ stp (rtF (tF a) (tF b) 1) ≤ stp (rtF (tF a) (tF b) 3) ∧ stp (rtF (tF a) (tF b) 3) ≤ stp (rtF (tF a) (tF b) 1) + 1 ∧ isNaN (rtF (tF a) (tF b) 1) = false ∧ isNaN (rtF (tF a) (tF b) 3) = false ∧
    ordN (tM (tF (rtF (tF a) (tF b) 1)) (tF b)).1 (tM (tF (rtF (tF a) (tF b) 1)) (tF b)).2.1 (tM (tF (rtF (tF a) (tF b) 1)) (tF b)).2.2 (tF a).1 (tF a).2.1 (tF a).2.2 ≤ 0 ∧
    (mag (rtF (tF a) (tF b) 3) < 9218868437227405312 → 0 ≤ ordN (tM (tF (rtF (tF a) (tF b) 3)) (tF b)).1 (tM (tF (rtF (tF a) (tF b) 3)) (tF b)).2.1 (tM (tF (rtF (tF a) (tF b) 3)) (tF b)).2.2 (tF a).1 (tF a).2.1 (tF a).2.2) := by
  obtain ⟨hfa, ha0⟩ := pln_true.1 pa
  obtain ⟨hfb, hb0⟩ := pln_true.1 pb
  have hx0 := tF_ne ha0
  have hy0 := tF_ne hb0
  have oa := tF_ok a
  have ob := tF_ok b
  have fa := oa.facts
  have fb := ob.facts
  have sa := tF_pos na
  have sb := tF_pos nb
  have bx := bl_le_dlen (tF a).2.1
  have by' := bl_le_dlen (tF b).2.1
  have hFa : -1074 ≤ (tF a).2.2 ∧ (tF a).2.2 ≤ 1025 ∧ (tF a).2.1 < 2 ^ (1025 - (tF a).2.2).toNat := (tF_fits a).resolve_left hx0
  have hFb : -1074 ≤ (tF b).2.2 ∧ (tF b).2.2 ≤ 1025 ∧ (tF b).2.1 < 2 ^ (1025 - (tF b).2.2).toNat := (tF_fits b).resolve_left hy0
  have bxl : bl (tF a).2.1 ≤ (1025 - (tF a).2.2).toNat := (bl_le _ _).2 hFa.2.2
  have byl : bl (tF b).2.1 ≤ (1025 - (tF b).2.2).toNat := (bl_le _ _).2 hFb.2.2
  have hk : max 0 (64 + (bl (tF b).2.1 : Int) - (bl (tF a).2.1 : Int)) = (rtK (tF a) (tF b) : Int) := by unfold rtK; omega
  have hN : bl ((tF a).2.1 * 2 ^ rtK (tF a) (tF b)) = bl (tF a).2.1 + rtK (tF a) (tF b) := bl_shl' hx0
  have q1 := bl_quo_lo (N := (tF a).2.1 * 2 ^ rtK (tF a) (tF b)) hy0
  have h64 : 64 ≤ bl ((tF a).2.1 * 2 ^ rtK (tF a) (tF b) / (tF b).2.1) := by omega
  have er : ∀ m, rtF (tF a) (tF b) m = tfF false (decide ((tF a).2.1 * 2 ^ rtK (tF a) (tF b) % (tF b).2.1 = 0)) ((tF a).2.1 * 2 ^ rtK (tF a) (tF b) / (tF b).2.1) ((tF a).2.2 - (tF b).2.2 - rtK (tF a) (tF b)) m := fun m => by unfold rtF; rw [sa, sb]; rfl
  have hg1 : -40000 ≤ (tF a).2.2 - (tF b).2.2 - (rtK (tF a) (tF b) : Int) := by omega
  have hg2 : (tF a).2.2 - (tF b).2.2 - (rtK (tF a) (tF b) : Int) ≤ 70000 := by omega
  rw [er 1, er 3]
  have hQ1 : (tF a).2.1 * 2 ^ rtK (tF a) (tF b) / (tF b).2.1 * (tF b).2.1 ≤ (tF a).2.1 * 2 ^ rtK (tF a) (tF b) := Nat.div_mul_le_self _ _
  have hQ2 : (tF a).2.1 * 2 ^ rtK (tF a) (tF b) ≤ (if decide ((tF a).2.1 * 2 ^ rtK (tF a) (tF b) % (tF b).2.1 = 0) = true then (tF a).2.1 * 2 ^ rtK (tF a) (tF b) / (tF b).2.1 else (tF a).2.1 * 2 ^ rtK (tF a) (tF b) / (tF b).2.1 + 1) * (tF b).2.1 := by
    have hd := Nat.div_add_mod ((tF a).2.1 * 2 ^ rtK (tF a) (tF b)) (tF b).2.1
    have hm := Nat.mod_lt ((tF a).2.1 * 2 ^ rtK (tF a) (tF b)) (Nat.pos_of_ne_zero hy0)
    rw [Nat.mul_comm (tF b).2.1] at hd
    by_cases h0 : (tF a).2.1 * 2 ^ rtK (tF a) (tF b) % (tF b).2.1 = 0
    · rw [if_pos (decide_eq_true h0)]; omega
    · rw [if_neg (by simpa using h0), Nat.add_mul, Nat.one_mul]; omega
  generalize (tF a).2.1 * 2 ^ rtK (tF a) (tF b) / (tF b).2.1 = Q at *
  generalize decide ((tF a).2.1 * 2 ^ rtK (tF a) (tF b) % (tF b).2.1 = 0) = ex at *
  generalize hk' : rtK (tF a) (tF b) = k at *
  generalize hg : (tF a).2.2 - (tF b).2.2 - (k : Int) = g at *
  obtain ⟨d1, d2⟩ := tf_down ex h64 hg1 hg2
  obtain ⟨p1, p2, p3, p4⟩ := tf_pair ex h64 hg1
  obtain ⟨n1, l1⟩ := tf_pos (ex := ex) (q := Q) (h := g) (m := 1) (by omega) h64
  obtain ⟨n3, l3⟩ := tf_pos (ex := ex) (q := Q) (h := g) (m := 3) (by omega) h64
  obtain ⟨K, hK⟩ : ∃ K : Nat, K = 70000 := ⟨_, rfl⟩
  have hC : ((tF a).2.2 + ((K + K : Nat) : Int)).toNat = k + (g + (K : Int)).toNat + ((tF b).2.2 + (K : Int)).toNat := by omega
  have vA : vz (K + K) (tF a).1 (tF a).2.1 (tF a).2.2 = (((tF a).2.1 * 2 ^ ((tF a).2.2 + ((K + K : Nat) : Int)).toNat : Nat) : Int) := by
    rw [sa, vz_pos]
  have vB : vz K (tF b).1 (tF b).2.1 (tF b).2.2 = (((tF b).2.1 * 2 ^ ((tF b).2.2 + (K : Int)).toNat : Nat) : Int) := by
    rw [sb, vz_pos]
  have v1 := vz_tM (tF_ok (tfF false ex Q g 1)) ob
  have v3 := vz_tM (tF_ok (tfF false ex Q g 3)) ob
  rw [vz_flt l1 d2 n1] at v1
  rw [← hK] at v1 v3 d1
  rw [show (70000 : Int) = (K : Int) by omega] at d1
  rw [vB] at v1 v3
  have M1 := (tM_ok (tM_okR (tfF false ex Q g 1) b)).facts
  have M3 := (tM_ok (tM_okR (tfF false ex Q g 3) b)).facts
  refine ⟨d2, p1, p2, p3, p4, ordN_le (K := K + K) (by omega) (by omega) ?_, fun d3 => ordN_ge (K := K + K) (by omega) (by omega) ?_⟩
  · rw [v1, vA]
    have g1 := mu_le hQ1 hC
    have g2 := Nat.mul_le_mul_right ((tF b).2.1 * 2 ^ ((tF b).2.2 + (K : Int)).toNat) d1
    exact_mod_cast Nat.le_trans g2 g1
  · have u3 := tf_above ex h64 hg1 hg2 d3
    rw [hK, vz_flt l3 d3 n3, ← hK] at v3
    rw [← hK, show (70000 : Int) = (K : Int) by omega] at u3
    rw [v3, vA]
    have g1 := mu_ge hQ2 hC
    have g2 := Nat.mul_le_mul_right ((tF b).2.1 * 2 ^ ((tF b).2.2 + (K : Int)).toNat) u3
    exact_mod_cast Nat.le_trans g1 g2
end Go.Proofs.YtajeodimbfppiaaGreatDoor
