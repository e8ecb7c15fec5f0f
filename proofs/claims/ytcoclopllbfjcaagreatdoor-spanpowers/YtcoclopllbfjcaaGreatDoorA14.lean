/- Own work: contracts of the program's functions, part 14: RE3 RE4 SD2 UA8 UA9 UB1 UB2 UB3 SB4 SB5 SH5 SB6 SH6 SH7 SH8 SH9 SI1 SI2 SI3 SI4 UB4 HX W46 W47 W48 RE2 RE5 RE6 RD2 L12 L15 SE1 SE2 SB7 SE3 SF1 SF2 SF3 SF4 SN1 SN2. -/
import Derived.Test.YtcoclopllbfjcaaGreatDoorA13
import Derived.Test.YtcoclopllbfjcaaGreatDoorA8
import Derived.Test.YtcoclopllbfjcaaGreatDoorA12
import Derived.Test.YtcoclopllbfjcaaGreatDoorA9
import Derived.Test.YtcoclopllbfjcaaGreatDoorA3
import Derived.Test.YtcoclopllbfjcaaGreatDoorA11
import Derived.Test.YtcoclopllbfjcaaGreatDoorA10
import Derived.Test.YtcoclopllbfjcaaGreatDoorA5
import Derived.Test.YtcoclopllbfjcaaGreatDoorA6
import Derived.Lib.ItoaNum
import Derived.Test.YtcoclopllbfjcaaGreatDoorA7

set_option maxHeartbeats 16000000
namespace Go.Proofs.YtcoclopllbfjcaaGreatDoor
set_option linter.unusedVariables false
set_option linter.unusedSimpArgs false
open Go.RowKit
def magI (x : Nat) (ea : Int) (y : Nat) (eb : Int) : Int := if x = 0 ∨ y = 0 then (dlen x : Int) - dlen y else if (bl x : Int) + ea = bl y + eb then cmpI (x * 2 ^ (ea - min ea eb).toNat : Nat) (y * 2 ^ (eb - min ea eb).toNat : Nat) else (bl x : Int) + ea - (bl y + eb)
theorem rmag {na nb : Bool} {ua va : Option Addr} {uc vc x y : Nat} {ea eb : Int} {w : World} (h1 : Arg w ua (dlen x) uc x) (h2 : Arg w va (dlen y) vc y) (hx : dlen x ≤ 400000) (hy : dlen y ≤ 400000) (ha : -2000000 ≤ ea ∧ ea ≤ 2000000) (hb : -2000000 ≤ eb ∧ eb ≤ 2000000) :
    Calls Tryz.prog 78 #[.agg #[.bool na, .slice ua (dlen x) uc, .int .i64 ea], .agg #[.bool nb, .slice va (dlen y) vc, .int .i64 eb]] w fun r w' => r = .returned (.int .i64 (magI x ea y eb)) ∧ Below w.heap.size w w' := by
  unfold magI
  by_cases h0 : x = 0 ∨ y = 0
  · rw [if_pos h0]
    exact rmag_0 na nb ua va _ uc _ vc ea eb w (h0.imp (fun h => by rw [h, dlen_zero]) (fun h => by rw [h, dlen_zero])) (by omega) (by omega)
  · rw [if_neg h0]
    have hx0 : x ≠ 0 := fun e => h0 (.inl e)
    have hy0 : y ≠ 0 := fun e => h0 (.inr e)
    have b1 := bl_le_dlen x
    have b2 := bl_le_dlen y
    have kA : ∀ W, Below w.heap.size w W → Calls Tryz.prog 106 #[.agg #[.bool na, .slice ua (dlen x) uc, .int .i64 ea]] W fun r w' => r = .returned (.int .i64 (bl x + ea)) ∧ Below W.heap.size W w' := fun W hW => rhigh (h1.later hW).at_ hx0 (by omega) (by omega)
    have kB : ∀ W, Below w.heap.size w W → Calls Tryz.prog 106 #[.agg #[.bool nb, .slice va (dlen y) vc, .int .i64 eb]] W fun r w' => r = .returned (.int .i64 (bl y + eb)) ∧ Below W.heap.size W w' := fun W hW => rhigh (h2.later hW).at_ hy0 (by omega) (by omega)
    by_cases ht : (bl x : Int) + ea = bl y + eb
    · rw [if_pos ht]
      rw [← ht] at kB
      have l1 : dlen (x * 2 ^ (ea - min ea eb).toNat) ≤ 760000 := by have := shl_len (x := x) (k := (ea - min ea eb).toNat) rfl; omega
      have l2 : dlen (y * 2 ^ (eb - min ea eb).toNat) ≤ 760000 := by have := shl_len (x := y) (k := (eb - min ea eb).toNat) rfl; omega
      refine rmag_2 na nb ua va _ uc _ vc _ _ ea eb _ w (len_ne (n := 0) hx0) (len_ne (n := 0) hy0) (by omega) (by omega) (by omega) (by omega) (by omega) (by omega) kA kB (fun W i hW hi => ?_) (fun W i hW hi => ?_)
      · have hik : i = (((ea - min ea eb).toNat : Nat) : Int) := by omega
        rw [hik]
        exact rup ⟨ua, uc, rfl, h1.le, (h1.later hW).at_⟩ _ (by omega) (by omega)
      · have hik : i = (((eb - min ea eb).toNat : Nat) : Int) := by omega
        rw [hik]
        exact rup ⟨va, vc, rfl, h2.le, (h2.later hW).at_⟩ _ (by omega) (by omega)
    · rw [if_neg ht]
      exact rmag_1 na nb ua va _ uc _ vc ea eb _ _ w (len_ne (n := 0) hx0) (len_ne (n := 0) hy0) (by omega) (by omega) (by omega) (by omega) ht kA kB
set_option maxRecDepth 200000 in
theorem rorder_lt (na nb : Bool) (ua va : Option Addr) (un uc vn vc : Nat) (ea eb sa sb c : Int) (w : World) (hs : sa < sb)
    (kA : ∀ W, Below w.heap.size w W → Calls Tryz.prog 77 #[.agg #[.bool na, .slice ua un uc, .int .i64 ea]] W fun r w' => r = .returned (.int .i64 sa) ∧ Below W.heap.size W w')
    (kB : ∀ W, Below w.heap.size w W → Calls Tryz.prog 77 #[.agg #[.bool nb, .slice va vn vc, .int .i64 eb]] W fun r w' => r = .returned (.int .i64 sb) ∧ Below W.heap.size W w') :
    Calls Tryz.prog 32 #[.agg #[.bool na, .slice ua un uc, .int .i64 ea], .agg #[.bool nb, .slice va vn vc, .int .i64 eb]] w fun r w' => r = .returned (.int .i64 (-1)) ∧ Below w.heap.size w w' := by
  obtain ⟨W, hW⟩ : ∃ W, W = (w.alloc (.cells #[.bool na, .slice ua un uc, .int .i64 ea] 45)).alloc (.cells #[.bool nb, .slice va vn vc, .int .i64 eb] 45) := ⟨_, rfl⟩
  obtain ⟨hA, hBb, hsz, hBW⟩ := two29 _ _ hW
  have HX : Hid (Below w.heap.size w W) := hBW
  have kA' : ∀ w4, Below W.heap.size W w4 → Calls Tryz.prog 77 #[.agg #[.bool na, .slice ua un uc, .int .i64 ea]] w4 fun r w' => r = .returned (.int .i64 sa) ∧ Below W.heap.size W w' := fun w4 h4 => (kA w4 (hBW.trans (h4.mono hBW.size))).mono fun r w' ⟨e1, o2⟩ => ⟨e1, h4.trans (o2.mono h4.size)⟩
  have kB' : ∀ w4, Below W.heap.size W w4 → Calls Tryz.prog 77 #[.agg #[.bool nb, .slice va vn vc, .int .i64 eb]] w4 fun r w' => r = .returned (.int .i64 sb) ∧ Below W.heap.size W w' := fun w4 h4 => (kB w4 (hBW.trans (h4.mono hBW.size))).mono fun r w' ⟨e1, o2⟩ => ⟨e1, h4.trans (o2.mono h4.size)⟩
  obtain ⟨⟨a0, a1, a2⟩, -⟩ := box_cells29 hA
  obtain ⟨⟨b0, b1, b2⟩, -⟩ := box_cells29 hBb
  have HK : Hid (∀ w', Below W.heap.size W w' → ((w'.cell? ⟨w.heap.size, 0, none⟩ = some (.bool na) ∧ w'.cell? ⟨w.heap.size, 1, none⟩ = some (.slice ua un uc) ∧ w'.cell? ⟨w.heap.size, 2, none⟩ = some (.int .i64 ea)) ∧ (w'.cell? ⟨w.heap.size + 1, 0, none⟩ = some (.bool nb) ∧ w'.cell? ⟨w.heap.size + 1, 1, none⟩ = some (.slice va vn vc) ∧ w'.cell? ⟨w.heap.size + 1, 2, none⟩ = some (.int .i64 eb)))) := fun w' hb => ⟨(box_cells29 (box_later hA hb (by omega))).1, (box_cells29 (box_later hBb hb (by omega))).1⟩
  have HRD : Hid (∀ w', Below W.heap.size W w' → Below W.heap.size W w'.drew) := fun w' h => h.trans ⟨rfl, rfl, rfl, Nat.le_refl _, fun _ _ => rfl⟩
  have hBR : Below W.heap.size W W.drew := (Below.refl _ _).drew
  have hne : (sa == sb) = false := by simp; omega
  have hne2 : (sa != sb) = true := by simp; omega
  clear kA kB hA hBb hsz hBW 
  go_enter Tryz.func32, Tryz.ntmps32
  go_upto_region 1 with fail
  rw [← hW]
  clear hW
  go_cut [5, 6] from 8 to 11 (fun u v w' => u = .int .i64 sa ∧ v = .int .i64 sb ∧ Hid (Below W.heap.size W w'))
  case first =>
    go_region_held3 (fun w' => ((w'.cell? ⟨w.heap.size, 0, none⟩ = some (.bool na) ∧ w'.cell? ⟨w.heap.size, 1, none⟩ = some (.slice ua un uc) ∧ w'.cell? ⟨w.heap.size, 2, none⟩ = some (.int .i64 ea)) ∧ (w'.cell? ⟨w.heap.size + 1, 0, none⟩ = some (.bool nb) ∧ w'.cell? ⟨w.heap.size + 1, 1, none⟩ = some (.slice va vn vc) ∧ w'.cell? ⟨w.heap.size + 1, 2, none⟩ = some (.int .i64 eb)))) (first | (with_reducible assumption) | exact ⟨⟨a0, a1, a2⟩, b0, b1, b2⟩ | (refine HK.out _ ?_; with_reducible assumption) | go_keep)
      (first | (go_at_call 77; first | (with_reducible refine (kA' _ (by first | (with_reducible assumption) | exact hBR)).mono ?_; rintro r w5 ⟨rfl, hb5⟩) | (with_reducible refine (kB' _ (by first | (with_reducible assumption) | exact hBR)).mono ?_; rintro r w6 ⟨rfl, hb6⟩)))
    all_goals go_wp2_with fail
    all_goals go_meet
    all_goals exact ⟨rfl, rfl, by first | exact hb6 | exact hb5⟩
  case rest =>
    obtain ⟨rfl, rfl, hc⟩ := hcut
    obtain ⟨W2, rfl⟩ : ∃ W2 : World, W2 = wc := ⟨_, rfl⟩
    clear a0 a1 a2 b0 b1 b2 kA' kB' hBR
    go_wp2
    go_ret; exact ⟨rfl, HX.out.trans (hc.out.mono HX.out.size)⟩
set_option maxRecDepth 200000 in
theorem rorder_gt (na nb : Bool) (ua va : Option Addr) (un uc vn vc : Nat) (ea eb sa sb c : Int) (w : World) (hs : ¬ sa < sb) (hn : sa ≠ sb)
    (kA : ∀ W, Below w.heap.size w W → Calls Tryz.prog 77 #[.agg #[.bool na, .slice ua un uc, .int .i64 ea]] W fun r w' => r = .returned (.int .i64 sa) ∧ Below W.heap.size W w')
    (kB : ∀ W, Below w.heap.size w W → Calls Tryz.prog 77 #[.agg #[.bool nb, .slice va vn vc, .int .i64 eb]] W fun r w' => r = .returned (.int .i64 sb) ∧ Below W.heap.size W w') :
    Calls Tryz.prog 32 #[.agg #[.bool na, .slice ua un uc, .int .i64 ea], .agg #[.bool nb, .slice va vn vc, .int .i64 eb]] w fun r w' => r = .returned (.int .i64 (1)) ∧ Below w.heap.size w w' := by
  obtain ⟨W, hW⟩ : ∃ W, W = (w.alloc (.cells #[.bool na, .slice ua un uc, .int .i64 ea] 45)).alloc (.cells #[.bool nb, .slice va vn vc, .int .i64 eb] 45) := ⟨_, rfl⟩
  obtain ⟨hA, hBb, hsz, hBW⟩ := two29 _ _ hW
  have HX : Hid (Below w.heap.size w W) := hBW
  have kA' : ∀ w4, Below W.heap.size W w4 → Calls Tryz.prog 77 #[.agg #[.bool na, .slice ua un uc, .int .i64 ea]] w4 fun r w' => r = .returned (.int .i64 sa) ∧ Below W.heap.size W w' := fun w4 h4 => (kA w4 (hBW.trans (h4.mono hBW.size))).mono fun r w' ⟨e1, o2⟩ => ⟨e1, h4.trans (o2.mono h4.size)⟩
  have kB' : ∀ w4, Below W.heap.size W w4 → Calls Tryz.prog 77 #[.agg #[.bool nb, .slice va vn vc, .int .i64 eb]] w4 fun r w' => r = .returned (.int .i64 sb) ∧ Below W.heap.size W w' := fun w4 h4 => (kB w4 (hBW.trans (h4.mono hBW.size))).mono fun r w' ⟨e1, o2⟩ => ⟨e1, h4.trans (o2.mono h4.size)⟩
  obtain ⟨⟨a0, a1, a2⟩, -⟩ := box_cells29 hA
  obtain ⟨⟨b0, b1, b2⟩, -⟩ := box_cells29 hBb
  have HK : Hid (∀ w', Below W.heap.size W w' → ((w'.cell? ⟨w.heap.size, 0, none⟩ = some (.bool na) ∧ w'.cell? ⟨w.heap.size, 1, none⟩ = some (.slice ua un uc) ∧ w'.cell? ⟨w.heap.size, 2, none⟩ = some (.int .i64 ea)) ∧ (w'.cell? ⟨w.heap.size + 1, 0, none⟩ = some (.bool nb) ∧ w'.cell? ⟨w.heap.size + 1, 1, none⟩ = some (.slice va vn vc) ∧ w'.cell? ⟨w.heap.size + 1, 2, none⟩ = some (.int .i64 eb)))) := fun w' hb => ⟨(box_cells29 (box_later hA hb (by omega))).1, (box_cells29 (box_later hBb hb (by omega))).1⟩
  have HRD : Hid (∀ w', Below W.heap.size W w' → Below W.heap.size W w'.drew) := fun w' h => h.trans ⟨rfl, rfl, rfl, Nat.le_refl _, fun _ _ => rfl⟩
  have hBR : Below W.heap.size W W.drew := (Below.refl _ _).drew
  have hne : (sa == sb) = false := by simp; omega
  have hne2 : (sa != sb) = true := by simp; omega
  clear kA kB hA hBb hsz hBW hn
  go_enter Tryz.func32, Tryz.ntmps32
  go_upto_region 1 with fail
  rw [← hW]
  clear hW
  go_cut [5, 6] from 8 to 11 (fun u v w' => u = .int .i64 sa ∧ v = .int .i64 sb ∧ Hid (Below W.heap.size W w'))
  case first =>
    go_region_held3 (fun w' => ((w'.cell? ⟨w.heap.size, 0, none⟩ = some (.bool na) ∧ w'.cell? ⟨w.heap.size, 1, none⟩ = some (.slice ua un uc) ∧ w'.cell? ⟨w.heap.size, 2, none⟩ = some (.int .i64 ea)) ∧ (w'.cell? ⟨w.heap.size + 1, 0, none⟩ = some (.bool nb) ∧ w'.cell? ⟨w.heap.size + 1, 1, none⟩ = some (.slice va vn vc) ∧ w'.cell? ⟨w.heap.size + 1, 2, none⟩ = some (.int .i64 eb)))) (first | (with_reducible assumption) | exact ⟨⟨a0, a1, a2⟩, b0, b1, b2⟩ | (refine HK.out _ ?_; with_reducible assumption) | go_keep)
      (first | (go_at_call 77; first | (with_reducible refine (kA' _ (by first | (with_reducible assumption) | exact hBR)).mono ?_; rintro r w5 ⟨rfl, hb5⟩) | (with_reducible refine (kB' _ (by first | (with_reducible assumption) | exact hBR)).mono ?_; rintro r w6 ⟨rfl, hb6⟩)))
    all_goals go_wp2_with fail
    all_goals go_meet
    all_goals exact ⟨rfl, rfl, by first | exact hb6 | exact hb5⟩
  case rest =>
    obtain ⟨rfl, rfl, hc⟩ := hcut
    obtain ⟨W2, rfl⟩ : ∃ W2 : World, W2 = wc := ⟨_, rfl⟩
    clear a0 a1 a2 b0 b1 b2 kA' kB' hBR
    go_wp2
    go_ret; exact ⟨rfl, HX.out.trans (hc.out.mono HX.out.size)⟩
set_option maxRecDepth 200000 in
theorem rorder_pl (na nb : Bool) (ua va : Option Addr) (un uc vn vc : Nat) (ea eb sa sb c : Int) (w : World) (hse0 : sa = sb) (hs : 0 ≤ sa) (hc : c < 0) (hc3 : -90000000000 ≤ c) (hc4 : c ≤ 90000000000)
    (kA : ∀ W, Below w.heap.size w W → Calls Tryz.prog 77 #[.agg #[.bool na, .slice ua un uc, .int .i64 ea]] W fun r w' => r = .returned (.int .i64 sa) ∧ Below W.heap.size W w')
    (kB : ∀ W, Below w.heap.size w W → Calls Tryz.prog 77 #[.agg #[.bool nb, .slice va vn vc, .int .i64 eb]] W fun r w' => r = .returned (.int .i64 sb) ∧ Below W.heap.size W w')
    (kM : ∀ W, Below w.heap.size w W → Calls Tryz.prog 78 #[.agg #[.bool na, .slice ua un uc, .int .i64 ea], .agg #[.bool nb, .slice va vn vc, .int .i64 eb]] W fun r w' => r = .returned (.int .i64 c) ∧ Below W.heap.size W w') :
    Calls Tryz.prog 32 #[.agg #[.bool na, .slice ua un uc, .int .i64 ea], .agg #[.bool nb, .slice va vn vc, .int .i64 eb]] w fun r w' => r = .returned (.int .i64 (-1)) ∧ Below w.heap.size w w' := by
  obtain ⟨W, hW⟩ : ∃ W, W = (w.alloc (.cells #[.bool na, .slice ua un uc, .int .i64 ea] 45)).alloc (.cells #[.bool nb, .slice va vn vc, .int .i64 eb] 45) := ⟨_, rfl⟩
  obtain ⟨hA, hBb, hsz, hBW⟩ := two29 _ _ hW
  have HX : Hid (Below w.heap.size w W) := hBW
  have kA' : ∀ w4, Below W.heap.size W w4 → Calls Tryz.prog 77 #[.agg #[.bool na, .slice ua un uc, .int .i64 ea]] w4 fun r w' => r = .returned (.int .i64 sa) ∧ Below W.heap.size W w' := fun w4 h4 => (kA w4 (hBW.trans (h4.mono hBW.size))).mono fun r w' ⟨e1, o2⟩ => ⟨e1, h4.trans (o2.mono h4.size)⟩
  have kB' : ∀ w4, Below W.heap.size W w4 → Calls Tryz.prog 77 #[.agg #[.bool nb, .slice va vn vc, .int .i64 eb]] w4 fun r w' => r = .returned (.int .i64 sb) ∧ Below W.heap.size W w' := fun w4 h4 => (kB w4 (hBW.trans (h4.mono hBW.size))).mono fun r w' ⟨e1, o2⟩ => ⟨e1, h4.trans (o2.mono h4.size)⟩
  have kM' : ∀ w4, Below W.heap.size W w4 → Calls Tryz.prog 78 #[.agg #[.bool na, .slice ua un uc, .int .i64 ea], .agg #[.bool nb, .slice va vn vc, .int .i64 eb]] w4 fun r w' => r = .returned (.int .i64 c) ∧ Below W.heap.size W w' := fun w4 h4 => (kM w4 (hBW.trans (h4.mono hBW.size))).mono fun r w' ⟨e1, o2⟩ => ⟨e1, h4.trans (o2.mono h4.size)⟩
  have HKM : Hid (∀ w4, Below W.heap.size W w4 → Calls Tryz.prog 78 #[.agg #[.bool na, .slice ua un uc, .int .i64 ea], .agg #[.bool nb, .slice va vn vc, .int .i64 eb]] w4 fun r w' => r = .returned (.int .i64 c) ∧ Below W.heap.size W w') := kM'
  obtain ⟨⟨a0, a1, a2⟩, -⟩ := box_cells29 hA
  obtain ⟨⟨b0, b1, b2⟩, -⟩ := box_cells29 hBb
  have HK : Hid (∀ w', Below W.heap.size W w' → ((w'.cell? ⟨w.heap.size, 0, none⟩ = some (.bool na) ∧ w'.cell? ⟨w.heap.size, 1, none⟩ = some (.slice ua un uc) ∧ w'.cell? ⟨w.heap.size, 2, none⟩ = some (.int .i64 ea)) ∧ (w'.cell? ⟨w.heap.size + 1, 0, none⟩ = some (.bool nb) ∧ w'.cell? ⟨w.heap.size + 1, 1, none⟩ = some (.slice va vn vc) ∧ w'.cell? ⟨w.heap.size + 1, 2, none⟩ = some (.int .i64 eb)))) := fun w' hb => ⟨(box_cells29 (box_later hA hb (by omega))).1, (box_cells29 (box_later hBb hb (by omega))).1⟩
  have HRD : Hid (∀ w', Below W.heap.size W w' → Below W.heap.size W w'.drew) := fun w' h => h.trans ⟨rfl, rfl, rfl, Nat.le_refl _, fun _ _ => rfl⟩
  have hBR : Below W.heap.size W W.drew := (Below.refl _ _).drew
  have hse : (sa == sb) = true := by simp; omega
  have hse2 : (sa != sb) = false := by simp; omega
  have hs1 : ¬ sa < 0 := by omega
  clear kA kB kM kM' hA hBb hsz hBW hc3 hc4 hse0
  go_enter Tryz.func32, Tryz.ntmps32
  go_upto_region 1 with fail
  rw [← hW]
  clear hW
  go_cut [5, 6] from 8 to 11 (fun u v w' => u = .int .i64 sa ∧ v = .int .i64 sb ∧ Hid (Below W.heap.size W w'))
  case first =>
    go_region_held3 (fun w' => ((w'.cell? ⟨w.heap.size, 0, none⟩ = some (.bool na) ∧ w'.cell? ⟨w.heap.size, 1, none⟩ = some (.slice ua un uc) ∧ w'.cell? ⟨w.heap.size, 2, none⟩ = some (.int .i64 ea)) ∧ (w'.cell? ⟨w.heap.size + 1, 0, none⟩ = some (.bool nb) ∧ w'.cell? ⟨w.heap.size + 1, 1, none⟩ = some (.slice va vn vc) ∧ w'.cell? ⟨w.heap.size + 1, 2, none⟩ = some (.int .i64 eb)))) (first | (with_reducible assumption) | exact ⟨⟨a0, a1, a2⟩, b0, b1, b2⟩ | (refine HK.out _ ?_; with_reducible assumption) | go_keep)
      (first | (go_at_call 77; first | (with_reducible refine (kA' _ (by first | (with_reducible assumption) | exact hBR)).mono ?_; rintro r w5 ⟨rfl, hb5⟩) | (with_reducible refine (kB' _ (by first | (with_reducible assumption) | exact hBR)).mono ?_; rintro r w6 ⟨rfl, hb6⟩)))
    all_goals go_wp2_with fail
    all_goals go_meet
    all_goals exact ⟨rfl, rfl, by first | exact hb6 | exact hb5⟩
  case rest =>
    obtain ⟨rfl, rfl, hc⟩ := hcut
    obtain ⟨W2, rfl⟩ : ∃ W2 : World, W2 = wc := ⟨_, rfl⟩
    clear a0 a1 a2 b0 b1 b2 kA' kB' hBR
    have kM' := HKM.out W2 hc.out
    obtain ⟨⟨a0, a1, a2⟩, b0, b1, b2⟩ := HK.out W2 hc.out
    go_wp2_with fail
    refine kM'.mono ?_
    rintro r w7 ⟨rfl, hb7⟩
    have HL7 : Hid (Below W.heap.size W w7) := hb7
    clear kM' HK HKM a0 a1 a2 b0 b1 b2 hb7
    go_wp2
    go_ret
    exact ⟨rfl, HX.out.trans (HL7.out.mono HX.out.size)⟩
set_option maxRecDepth 200000 in
theorem rorder_pg (na nb : Bool) (ua va : Option Addr) (un uc vn vc : Nat) (ea eb sa sb c : Int) (w : World) (hse0 : sa = sb) (hs : 0 ≤ sa) (hc : 0 < c) (hc3 : -90000000000 ≤ c) (hc4 : c ≤ 90000000000)
    (kA : ∀ W, Below w.heap.size w W → Calls Tryz.prog 77 #[.agg #[.bool na, .slice ua un uc, .int .i64 ea]] W fun r w' => r = .returned (.int .i64 sa) ∧ Below W.heap.size W w')
    (kB : ∀ W, Below w.heap.size w W → Calls Tryz.prog 77 #[.agg #[.bool nb, .slice va vn vc, .int .i64 eb]] W fun r w' => r = .returned (.int .i64 sb) ∧ Below W.heap.size W w')
    (kM : ∀ W, Below w.heap.size w W → Calls Tryz.prog 78 #[.agg #[.bool na, .slice ua un uc, .int .i64 ea], .agg #[.bool nb, .slice va vn vc, .int .i64 eb]] W fun r w' => r = .returned (.int .i64 c) ∧ Below W.heap.size W w') :
    Calls Tryz.prog 32 #[.agg #[.bool na, .slice ua un uc, .int .i64 ea], .agg #[.bool nb, .slice va vn vc, .int .i64 eb]] w fun r w' => r = .returned (.int .i64 (1)) ∧ Below w.heap.size w w' := by
  obtain ⟨W, hW⟩ : ∃ W, W = (w.alloc (.cells #[.bool na, .slice ua un uc, .int .i64 ea] 45)).alloc (.cells #[.bool nb, .slice va vn vc, .int .i64 eb] 45) := ⟨_, rfl⟩
  obtain ⟨hA, hBb, hsz, hBW⟩ := two29 _ _ hW
  have HX : Hid (Below w.heap.size w W) := hBW
  have kA' : ∀ w4, Below W.heap.size W w4 → Calls Tryz.prog 77 #[.agg #[.bool na, .slice ua un uc, .int .i64 ea]] w4 fun r w' => r = .returned (.int .i64 sa) ∧ Below W.heap.size W w' := fun w4 h4 => (kA w4 (hBW.trans (h4.mono hBW.size))).mono fun r w' ⟨e1, o2⟩ => ⟨e1, h4.trans (o2.mono h4.size)⟩
  have kB' : ∀ w4, Below W.heap.size W w4 → Calls Tryz.prog 77 #[.agg #[.bool nb, .slice va vn vc, .int .i64 eb]] w4 fun r w' => r = .returned (.int .i64 sb) ∧ Below W.heap.size W w' := fun w4 h4 => (kB w4 (hBW.trans (h4.mono hBW.size))).mono fun r w' ⟨e1, o2⟩ => ⟨e1, h4.trans (o2.mono h4.size)⟩
  have kM' : ∀ w4, Below W.heap.size W w4 → Calls Tryz.prog 78 #[.agg #[.bool na, .slice ua un uc, .int .i64 ea], .agg #[.bool nb, .slice va vn vc, .int .i64 eb]] w4 fun r w' => r = .returned (.int .i64 c) ∧ Below W.heap.size W w' := fun w4 h4 => (kM w4 (hBW.trans (h4.mono hBW.size))).mono fun r w' ⟨e1, o2⟩ => ⟨e1, h4.trans (o2.mono h4.size)⟩
  have HKM : Hid (∀ w4, Below W.heap.size W w4 → Calls Tryz.prog 78 #[.agg #[.bool na, .slice ua un uc, .int .i64 ea], .agg #[.bool nb, .slice va vn vc, .int .i64 eb]] w4 fun r w' => r = .returned (.int .i64 c) ∧ Below W.heap.size W w') := kM'
  obtain ⟨⟨a0, a1, a2⟩, -⟩ := box_cells29 hA
  obtain ⟨⟨b0, b1, b2⟩, -⟩ := box_cells29 hBb
  have HK : Hid (∀ w', Below W.heap.size W w' → ((w'.cell? ⟨w.heap.size, 0, none⟩ = some (.bool na) ∧ w'.cell? ⟨w.heap.size, 1, none⟩ = some (.slice ua un uc) ∧ w'.cell? ⟨w.heap.size, 2, none⟩ = some (.int .i64 ea)) ∧ (w'.cell? ⟨w.heap.size + 1, 0, none⟩ = some (.bool nb) ∧ w'.cell? ⟨w.heap.size + 1, 1, none⟩ = some (.slice va vn vc) ∧ w'.cell? ⟨w.heap.size + 1, 2, none⟩ = some (.int .i64 eb)))) := fun w' hb => ⟨(box_cells29 (box_later hA hb (by omega))).1, (box_cells29 (box_later hBb hb (by omega))).1⟩
  have HRD : Hid (∀ w', Below W.heap.size W w' → Below W.heap.size W w'.drew) := fun w' h => h.trans ⟨rfl, rfl, rfl, Nat.le_refl _, fun _ _ => rfl⟩
  have hBR : Below W.heap.size W W.drew := (Below.refl _ _).drew
  have hse : (sa == sb) = true := by simp; omega
  have hse2 : (sa != sb) = false := by simp; omega
  have hs1 : ¬ sa < 0 := by omega
  have hc1 : ¬ c < 0 := by omega
  clear kA kB kM kM' hA hBb hsz hBW hc3 hc4 hse0
  go_enter Tryz.func32, Tryz.ntmps32
  go_upto_region 1 with fail
  rw [← hW]
  clear hW
  go_cut [5, 6] from 8 to 11 (fun u v w' => u = .int .i64 sa ∧ v = .int .i64 sb ∧ Hid (Below W.heap.size W w'))
  case first =>
    go_region_held3 (fun w' => ((w'.cell? ⟨w.heap.size, 0, none⟩ = some (.bool na) ∧ w'.cell? ⟨w.heap.size, 1, none⟩ = some (.slice ua un uc) ∧ w'.cell? ⟨w.heap.size, 2, none⟩ = some (.int .i64 ea)) ∧ (w'.cell? ⟨w.heap.size + 1, 0, none⟩ = some (.bool nb) ∧ w'.cell? ⟨w.heap.size + 1, 1, none⟩ = some (.slice va vn vc) ∧ w'.cell? ⟨w.heap.size + 1, 2, none⟩ = some (.int .i64 eb)))) (first | (with_reducible assumption) | exact ⟨⟨a0, a1, a2⟩, b0, b1, b2⟩ | (refine HK.out _ ?_; with_reducible assumption) | go_keep)
      (first | (go_at_call 77; first | (with_reducible refine (kA' _ (by first | (with_reducible assumption) | exact hBR)).mono ?_; rintro r w5 ⟨rfl, hb5⟩) | (with_reducible refine (kB' _ (by first | (with_reducible assumption) | exact hBR)).mono ?_; rintro r w6 ⟨rfl, hb6⟩)))
    all_goals go_wp2_with fail
    all_goals go_meet
    all_goals exact ⟨rfl, rfl, by first | exact hb6 | exact hb5⟩
  case rest =>
    obtain ⟨rfl, rfl, hc⟩ := hcut
    obtain ⟨W2, rfl⟩ : ∃ W2 : World, W2 = wc := ⟨_, rfl⟩
    clear a0 a1 a2 b0 b1 b2 kA' kB' hBR
    have kM' := HKM.out W2 hc.out
    obtain ⟨⟨a0, a1, a2⟩, b0, b1, b2⟩ := HK.out W2 hc.out
    go_wp2_with fail
    refine kM'.mono ?_
    rintro r w7 ⟨rfl, hb7⟩
    have HL7 : Hid (Below W.heap.size W w7) := hb7
    clear kM' HK HKM a0 a1 a2 b0 b1 b2 hb7
    go_wp2
    go_ret
    exact ⟨rfl, HX.out.trans (HL7.out.mono HX.out.size)⟩
set_option maxRecDepth 200000 in
theorem rorder_pe (na nb : Bool) (ua va : Option Addr) (un uc vn vc : Nat) (ea eb sa sb c : Int) (w : World) (hse0 : sa = sb) (hs : 0 ≤ sa) (hc : c = 0) (hc3 : -90000000000 ≤ c) (hc4 : c ≤ 90000000000)
    (kA : ∀ W, Below w.heap.size w W → Calls Tryz.prog 77 #[.agg #[.bool na, .slice ua un uc, .int .i64 ea]] W fun r w' => r = .returned (.int .i64 sa) ∧ Below W.heap.size W w')
    (kB : ∀ W, Below w.heap.size w W → Calls Tryz.prog 77 #[.agg #[.bool nb, .slice va vn vc, .int .i64 eb]] W fun r w' => r = .returned (.int .i64 sb) ∧ Below W.heap.size W w')
    (kM : ∀ W, Below w.heap.size w W → Calls Tryz.prog 78 #[.agg #[.bool na, .slice ua un uc, .int .i64 ea], .agg #[.bool nb, .slice va vn vc, .int .i64 eb]] W fun r w' => r = .returned (.int .i64 c) ∧ Below W.heap.size W w') :
    Calls Tryz.prog 32 #[.agg #[.bool na, .slice ua un uc, .int .i64 ea], .agg #[.bool nb, .slice va vn vc, .int .i64 eb]] w fun r w' => r = .returned (.int .i64 (0)) ∧ Below w.heap.size w w' := by
  obtain ⟨W, hW⟩ : ∃ W, W = (w.alloc (.cells #[.bool na, .slice ua un uc, .int .i64 ea] 45)).alloc (.cells #[.bool nb, .slice va vn vc, .int .i64 eb] 45) := ⟨_, rfl⟩
  obtain ⟨hA, hBb, hsz, hBW⟩ := two29 _ _ hW
  have HX : Hid (Below w.heap.size w W) := hBW
  have kA' : ∀ w4, Below W.heap.size W w4 → Calls Tryz.prog 77 #[.agg #[.bool na, .slice ua un uc, .int .i64 ea]] w4 fun r w' => r = .returned (.int .i64 sa) ∧ Below W.heap.size W w' := fun w4 h4 => (kA w4 (hBW.trans (h4.mono hBW.size))).mono fun r w' ⟨e1, o2⟩ => ⟨e1, h4.trans (o2.mono h4.size)⟩
  have kB' : ∀ w4, Below W.heap.size W w4 → Calls Tryz.prog 77 #[.agg #[.bool nb, .slice va vn vc, .int .i64 eb]] w4 fun r w' => r = .returned (.int .i64 sb) ∧ Below W.heap.size W w' := fun w4 h4 => (kB w4 (hBW.trans (h4.mono hBW.size))).mono fun r w' ⟨e1, o2⟩ => ⟨e1, h4.trans (o2.mono h4.size)⟩
  have kM' : ∀ w4, Below W.heap.size W w4 → Calls Tryz.prog 78 #[.agg #[.bool na, .slice ua un uc, .int .i64 ea], .agg #[.bool nb, .slice va vn vc, .int .i64 eb]] w4 fun r w' => r = .returned (.int .i64 c) ∧ Below W.heap.size W w' := fun w4 h4 => (kM w4 (hBW.trans (h4.mono hBW.size))).mono fun r w' ⟨e1, o2⟩ => ⟨e1, h4.trans (o2.mono h4.size)⟩
  have HKM : Hid (∀ w4, Below W.heap.size W w4 → Calls Tryz.prog 78 #[.agg #[.bool na, .slice ua un uc, .int .i64 ea], .agg #[.bool nb, .slice va vn vc, .int .i64 eb]] w4 fun r w' => r = .returned (.int .i64 c) ∧ Below W.heap.size W w') := kM'
  obtain ⟨⟨a0, a1, a2⟩, -⟩ := box_cells29 hA
  obtain ⟨⟨b0, b1, b2⟩, -⟩ := box_cells29 hBb
  have HK : Hid (∀ w', Below W.heap.size W w' → ((w'.cell? ⟨w.heap.size, 0, none⟩ = some (.bool na) ∧ w'.cell? ⟨w.heap.size, 1, none⟩ = some (.slice ua un uc) ∧ w'.cell? ⟨w.heap.size, 2, none⟩ = some (.int .i64 ea)) ∧ (w'.cell? ⟨w.heap.size + 1, 0, none⟩ = some (.bool nb) ∧ w'.cell? ⟨w.heap.size + 1, 1, none⟩ = some (.slice va vn vc) ∧ w'.cell? ⟨w.heap.size + 1, 2, none⟩ = some (.int .i64 eb)))) := fun w' hb => ⟨(box_cells29 (box_later hA hb (by omega))).1, (box_cells29 (box_later hBb hb (by omega))).1⟩
  have HRD : Hid (∀ w', Below W.heap.size W w' → Below W.heap.size W w'.drew) := fun w' h => h.trans ⟨rfl, rfl, rfl, Nat.le_refl _, fun _ _ => rfl⟩
  have hBR : Below W.heap.size W W.drew := (Below.refl _ _).drew
  have hse : (sa == sb) = true := by simp; omega
  have hse2 : (sa != sb) = false := by simp; omega
  have hs1 : ¬ sa < 0 := by omega
  have hc1 : ¬ c < 0 := by omega
  have hc2 : ¬ 0 < c := by omega
  clear kA kB kM kM' hA hBb hsz hBW hc3 hc4 hc hse0
  go_enter Tryz.func32, Tryz.ntmps32
  go_upto_region 1 with fail
  rw [← hW]
  clear hW
  go_cut [5, 6] from 8 to 11 (fun u v w' => u = .int .i64 sa ∧ v = .int .i64 sb ∧ Hid (Below W.heap.size W w'))
  case first =>
    go_region_held3 (fun w' => ((w'.cell? ⟨w.heap.size, 0, none⟩ = some (.bool na) ∧ w'.cell? ⟨w.heap.size, 1, none⟩ = some (.slice ua un uc) ∧ w'.cell? ⟨w.heap.size, 2, none⟩ = some (.int .i64 ea)) ∧ (w'.cell? ⟨w.heap.size + 1, 0, none⟩ = some (.bool nb) ∧ w'.cell? ⟨w.heap.size + 1, 1, none⟩ = some (.slice va vn vc) ∧ w'.cell? ⟨w.heap.size + 1, 2, none⟩ = some (.int .i64 eb)))) (first | (with_reducible assumption) | exact ⟨⟨a0, a1, a2⟩, b0, b1, b2⟩ | (refine HK.out _ ?_; with_reducible assumption) | go_keep)
      (first | (go_at_call 77; first | (with_reducible refine (kA' _ (by first | (with_reducible assumption) | exact hBR)).mono ?_; rintro r w5 ⟨rfl, hb5⟩) | (with_reducible refine (kB' _ (by first | (with_reducible assumption) | exact hBR)).mono ?_; rintro r w6 ⟨rfl, hb6⟩)))
    all_goals go_wp2_with fail
    all_goals go_meet
    all_goals exact ⟨rfl, rfl, by first | exact hb6 | exact hb5⟩
  case rest =>
    obtain ⟨rfl, rfl, hc⟩ := hcut
    obtain ⟨W2, rfl⟩ : ∃ W2 : World, W2 = wc := ⟨_, rfl⟩
    clear a0 a1 a2 b0 b1 b2 kA' kB' hBR
    have kM' := HKM.out W2 hc.out
    obtain ⟨⟨a0, a1, a2⟩, b0, b1, b2⟩ := HK.out W2 hc.out
    go_wp2_with fail
    refine kM'.mono ?_
    rintro r w7 ⟨rfl, hb7⟩
    have HL7 : Hid (Below W.heap.size W w7) := hb7
    clear kM' HK HKM a0 a1 a2 b0 b1 b2 hb7
    go_wp2
    go_ret
    exact ⟨rfl, HX.out.trans (HL7.out.mono HX.out.size)⟩
set_option maxRecDepth 200000 in
theorem rorder_nl (na nb : Bool) (ua va : Option Addr) (un uc vn vc : Nat) (ea eb sa sb c : Int) (w : World) (hse0 : sa = sb) (hs : sa < 0) (hc : c < 0) (hc3 : -90000000000 ≤ c) (hc4 : c ≤ 90000000000)
    (kA : ∀ W, Below w.heap.size w W → Calls Tryz.prog 77 #[.agg #[.bool na, .slice ua un uc, .int .i64 ea]] W fun r w' => r = .returned (.int .i64 sa) ∧ Below W.heap.size W w')
    (kB : ∀ W, Below w.heap.size w W → Calls Tryz.prog 77 #[.agg #[.bool nb, .slice va vn vc, .int .i64 eb]] W fun r w' => r = .returned (.int .i64 sb) ∧ Below W.heap.size W w')
    (kM : ∀ W, Below w.heap.size w W → Calls Tryz.prog 78 #[.agg #[.bool na, .slice ua un uc, .int .i64 ea], .agg #[.bool nb, .slice va vn vc, .int .i64 eb]] W fun r w' => r = .returned (.int .i64 c) ∧ Below W.heap.size W w') :
    Calls Tryz.prog 32 #[.agg #[.bool na, .slice ua un uc, .int .i64 ea], .agg #[.bool nb, .slice va vn vc, .int .i64 eb]] w fun r w' => r = .returned (.int .i64 (1)) ∧ Below w.heap.size w w' := by
  obtain ⟨W, hW⟩ : ∃ W, W = (w.alloc (.cells #[.bool na, .slice ua un uc, .int .i64 ea] 45)).alloc (.cells #[.bool nb, .slice va vn vc, .int .i64 eb] 45) := ⟨_, rfl⟩
  obtain ⟨hA, hBb, hsz, hBW⟩ := two29 _ _ hW
  have HX : Hid (Below w.heap.size w W) := hBW
  have kA' : ∀ w4, Below W.heap.size W w4 → Calls Tryz.prog 77 #[.agg #[.bool na, .slice ua un uc, .int .i64 ea]] w4 fun r w' => r = .returned (.int .i64 sa) ∧ Below W.heap.size W w' := fun w4 h4 => (kA w4 (hBW.trans (h4.mono hBW.size))).mono fun r w' ⟨e1, o2⟩ => ⟨e1, h4.trans (o2.mono h4.size)⟩
  have kB' : ∀ w4, Below W.heap.size W w4 → Calls Tryz.prog 77 #[.agg #[.bool nb, .slice va vn vc, .int .i64 eb]] w4 fun r w' => r = .returned (.int .i64 sb) ∧ Below W.heap.size W w' := fun w4 h4 => (kB w4 (hBW.trans (h4.mono hBW.size))).mono fun r w' ⟨e1, o2⟩ => ⟨e1, h4.trans (o2.mono h4.size)⟩
  have kM' : ∀ w4, Below W.heap.size W w4 → Calls Tryz.prog 78 #[.agg #[.bool na, .slice ua un uc, .int .i64 ea], .agg #[.bool nb, .slice va vn vc, .int .i64 eb]] w4 fun r w' => r = .returned (.int .i64 c) ∧ Below W.heap.size W w' := fun w4 h4 => (kM w4 (hBW.trans (h4.mono hBW.size))).mono fun r w' ⟨e1, o2⟩ => ⟨e1, h4.trans (o2.mono h4.size)⟩
  have HKM : Hid (∀ w4, Below W.heap.size W w4 → Calls Tryz.prog 78 #[.agg #[.bool na, .slice ua un uc, .int .i64 ea], .agg #[.bool nb, .slice va vn vc, .int .i64 eb]] w4 fun r w' => r = .returned (.int .i64 c) ∧ Below W.heap.size W w') := kM'
  obtain ⟨⟨a0, a1, a2⟩, -⟩ := box_cells29 hA
  obtain ⟨⟨b0, b1, b2⟩, -⟩ := box_cells29 hBb
  have HK : Hid (∀ w', Below W.heap.size W w' → ((w'.cell? ⟨w.heap.size, 0, none⟩ = some (.bool na) ∧ w'.cell? ⟨w.heap.size, 1, none⟩ = some (.slice ua un uc) ∧ w'.cell? ⟨w.heap.size, 2, none⟩ = some (.int .i64 ea)) ∧ (w'.cell? ⟨w.heap.size + 1, 0, none⟩ = some (.bool nb) ∧ w'.cell? ⟨w.heap.size + 1, 1, none⟩ = some (.slice va vn vc) ∧ w'.cell? ⟨w.heap.size + 1, 2, none⟩ = some (.int .i64 eb)))) := fun w' hb => ⟨(box_cells29 (box_later hA hb (by omega))).1, (box_cells29 (box_later hBb hb (by omega))).1⟩
  have HRD : Hid (∀ w', Below W.heap.size W w' → Below W.heap.size W w'.drew) := fun w' h => h.trans ⟨rfl, rfl, rfl, Nat.le_refl _, fun _ _ => rfl⟩
  have hBR : Below W.heap.size W W.drew := (Below.refl _ _).drew
  have hse : (sa == sb) = true := by simp; omega
  have hse2 : (sa != sb) = false := by simp; omega
  obtain ⟨d, hd⟩ : ∃ d, d = -c := ⟨_, rfl⟩
  have hdw : IntKind.i64.wrap d = d := by rw [IntKind.wrap_i64]; omega
  have hd1 : ¬ d < 0 := by omega
  have hd2 : 0 < d := by omega
  have hdn : -c = d := hd.symm
  clear kA kB kM kM' hA hBb hsz hBW hd hc hc3 hc4 hse0
  go_enter Tryz.func32, Tryz.ntmps32
  go_upto_region 1 with fail
  rw [← hW]
  clear hW
  go_cut [5, 6] from 8 to 11 (fun u v w' => u = .int .i64 sa ∧ v = .int .i64 sb ∧ Hid (Below W.heap.size W w'))
  case first =>
    go_region_held3 (fun w' => ((w'.cell? ⟨w.heap.size, 0, none⟩ = some (.bool na) ∧ w'.cell? ⟨w.heap.size, 1, none⟩ = some (.slice ua un uc) ∧ w'.cell? ⟨w.heap.size, 2, none⟩ = some (.int .i64 ea)) ∧ (w'.cell? ⟨w.heap.size + 1, 0, none⟩ = some (.bool nb) ∧ w'.cell? ⟨w.heap.size + 1, 1, none⟩ = some (.slice va vn vc) ∧ w'.cell? ⟨w.heap.size + 1, 2, none⟩ = some (.int .i64 eb)))) (first | (with_reducible assumption) | exact ⟨⟨a0, a1, a2⟩, b0, b1, b2⟩ | (refine HK.out _ ?_; with_reducible assumption) | go_keep)
      (first | (go_at_call 77; first | (with_reducible refine (kA' _ (by first | (with_reducible assumption) | exact hBR)).mono ?_; rintro r w5 ⟨rfl, hb5⟩) | (with_reducible refine (kB' _ (by first | (with_reducible assumption) | exact hBR)).mono ?_; rintro r w6 ⟨rfl, hb6⟩)))
    all_goals go_wp2_with fail
    all_goals go_meet
    all_goals exact ⟨rfl, rfl, by first | exact hb6 | exact hb5⟩
  case rest =>
    obtain ⟨rfl, rfl, hc⟩ := hcut
    obtain ⟨W2, rfl⟩ : ∃ W2 : World, W2 = wc := ⟨_, rfl⟩
    clear a0 a1 a2 b0 b1 b2 kA' kB' hBR
    have kM' := HKM.out W2 hc.out
    obtain ⟨⟨a0, a1, a2⟩, b0, b1, b2⟩ := HK.out W2 hc.out
    go_wp2_with fail
    refine kM'.mono ?_
    rintro r w7 ⟨rfl, hb7⟩
    have HL7 : Hid (Below W.heap.size W w7) := hb7
    clear kM' HK HKM a0 a1 a2 b0 b1 b2 hb7
    go_wp2
    go_ret
    exact ⟨rfl, HX.out.trans (HL7.out.mono HX.out.size)⟩
set_option maxRecDepth 200000 in
theorem rorder_ng (na nb : Bool) (ua va : Option Addr) (un uc vn vc : Nat) (ea eb sa sb c : Int) (w : World) (hse0 : sa = sb) (hs : sa < 0) (hc : 0 < c) (hc3 : -90000000000 ≤ c) (hc4 : c ≤ 90000000000)
    (kA : ∀ W, Below w.heap.size w W → Calls Tryz.prog 77 #[.agg #[.bool na, .slice ua un uc, .int .i64 ea]] W fun r w' => r = .returned (.int .i64 sa) ∧ Below W.heap.size W w')
    (kB : ∀ W, Below w.heap.size w W → Calls Tryz.prog 77 #[.agg #[.bool nb, .slice va vn vc, .int .i64 eb]] W fun r w' => r = .returned (.int .i64 sb) ∧ Below W.heap.size W w')
    (kM : ∀ W, Below w.heap.size w W → Calls Tryz.prog 78 #[.agg #[.bool na, .slice ua un uc, .int .i64 ea], .agg #[.bool nb, .slice va vn vc, .int .i64 eb]] W fun r w' => r = .returned (.int .i64 c) ∧ Below W.heap.size W w') :
    Calls Tryz.prog 32 #[.agg #[.bool na, .slice ua un uc, .int .i64 ea], .agg #[.bool nb, .slice va vn vc, .int .i64 eb]] w fun r w' => r = .returned (.int .i64 (-1)) ∧ Below w.heap.size w w' := by
  obtain ⟨W, hW⟩ : ∃ W, W = (w.alloc (.cells #[.bool na, .slice ua un uc, .int .i64 ea] 45)).alloc (.cells #[.bool nb, .slice va vn vc, .int .i64 eb] 45) := ⟨_, rfl⟩
  obtain ⟨hA, hBb, hsz, hBW⟩ := two29 _ _ hW
  have HX : Hid (Below w.heap.size w W) := hBW
  have kA' : ∀ w4, Below W.heap.size W w4 → Calls Tryz.prog 77 #[.agg #[.bool na, .slice ua un uc, .int .i64 ea]] w4 fun r w' => r = .returned (.int .i64 sa) ∧ Below W.heap.size W w' := fun w4 h4 => (kA w4 (hBW.trans (h4.mono hBW.size))).mono fun r w' ⟨e1, o2⟩ => ⟨e1, h4.trans (o2.mono h4.size)⟩
  have kB' : ∀ w4, Below W.heap.size W w4 → Calls Tryz.prog 77 #[.agg #[.bool nb, .slice va vn vc, .int .i64 eb]] w4 fun r w' => r = .returned (.int .i64 sb) ∧ Below W.heap.size W w' := fun w4 h4 => (kB w4 (hBW.trans (h4.mono hBW.size))).mono fun r w' ⟨e1, o2⟩ => ⟨e1, h4.trans (o2.mono h4.size)⟩
  have kM' : ∀ w4, Below W.heap.size W w4 → Calls Tryz.prog 78 #[.agg #[.bool na, .slice ua un uc, .int .i64 ea], .agg #[.bool nb, .slice va vn vc, .int .i64 eb]] w4 fun r w' => r = .returned (.int .i64 c) ∧ Below W.heap.size W w' := fun w4 h4 => (kM w4 (hBW.trans (h4.mono hBW.size))).mono fun r w' ⟨e1, o2⟩ => ⟨e1, h4.trans (o2.mono h4.size)⟩
  have HKM : Hid (∀ w4, Below W.heap.size W w4 → Calls Tryz.prog 78 #[.agg #[.bool na, .slice ua un uc, .int .i64 ea], .agg #[.bool nb, .slice va vn vc, .int .i64 eb]] w4 fun r w' => r = .returned (.int .i64 c) ∧ Below W.heap.size W w') := kM'
  obtain ⟨⟨a0, a1, a2⟩, -⟩ := box_cells29 hA
  obtain ⟨⟨b0, b1, b2⟩, -⟩ := box_cells29 hBb
  have HK : Hid (∀ w', Below W.heap.size W w' → ((w'.cell? ⟨w.heap.size, 0, none⟩ = some (.bool na) ∧ w'.cell? ⟨w.heap.size, 1, none⟩ = some (.slice ua un uc) ∧ w'.cell? ⟨w.heap.size, 2, none⟩ = some (.int .i64 ea)) ∧ (w'.cell? ⟨w.heap.size + 1, 0, none⟩ = some (.bool nb) ∧ w'.cell? ⟨w.heap.size + 1, 1, none⟩ = some (.slice va vn vc) ∧ w'.cell? ⟨w.heap.size + 1, 2, none⟩ = some (.int .i64 eb)))) := fun w' hb => ⟨(box_cells29 (box_later hA hb (by omega))).1, (box_cells29 (box_later hBb hb (by omega))).1⟩
  have HRD : Hid (∀ w', Below W.heap.size W w' → Below W.heap.size W w'.drew) := fun w' h => h.trans ⟨rfl, rfl, rfl, Nat.le_refl _, fun _ _ => rfl⟩
  have hBR : Below W.heap.size W W.drew := (Below.refl _ _).drew
  have hse : (sa == sb) = true := by simp; omega
  have hse2 : (sa != sb) = false := by simp; omega
  obtain ⟨d, hd⟩ : ∃ d, d = -c := ⟨_, rfl⟩
  have hdw : IntKind.i64.wrap d = d := by rw [IntKind.wrap_i64]; omega
  have hd1 : d < 0 := by omega
  have hdn : -c = d := hd.symm
  clear kA kB kM kM' hA hBb hsz hBW hd hc hc3 hc4 hse0
  go_enter Tryz.func32, Tryz.ntmps32
  go_upto_region 1 with fail
  rw [← hW]
  clear hW
  go_cut [5, 6] from 8 to 11 (fun u v w' => u = .int .i64 sa ∧ v = .int .i64 sb ∧ Hid (Below W.heap.size W w'))
  case first =>
    go_region_held3 (fun w' => ((w'.cell? ⟨w.heap.size, 0, none⟩ = some (.bool na) ∧ w'.cell? ⟨w.heap.size, 1, none⟩ = some (.slice ua un uc) ∧ w'.cell? ⟨w.heap.size, 2, none⟩ = some (.int .i64 ea)) ∧ (w'.cell? ⟨w.heap.size + 1, 0, none⟩ = some (.bool nb) ∧ w'.cell? ⟨w.heap.size + 1, 1, none⟩ = some (.slice va vn vc) ∧ w'.cell? ⟨w.heap.size + 1, 2, none⟩ = some (.int .i64 eb)))) (first | (with_reducible assumption) | exact ⟨⟨a0, a1, a2⟩, b0, b1, b2⟩ | (refine HK.out _ ?_; with_reducible assumption) | go_keep)
      (first | (go_at_call 77; first | (with_reducible refine (kA' _ (by first | (with_reducible assumption) | exact hBR)).mono ?_; rintro r w5 ⟨rfl, hb5⟩) | (with_reducible refine (kB' _ (by first | (with_reducible assumption) | exact hBR)).mono ?_; rintro r w6 ⟨rfl, hb6⟩)))
    all_goals go_wp2_with fail
    all_goals go_meet
    all_goals exact ⟨rfl, rfl, by first | exact hb6 | exact hb5⟩
  case rest =>
    obtain ⟨rfl, rfl, hc⟩ := hcut
    obtain ⟨W2, rfl⟩ : ∃ W2 : World, W2 = wc := ⟨_, rfl⟩
    clear a0 a1 a2 b0 b1 b2 kA' kB' hBR
    have kM' := HKM.out W2 hc.out
    obtain ⟨⟨a0, a1, a2⟩, b0, b1, b2⟩ := HK.out W2 hc.out
    go_wp2_with fail
    refine kM'.mono ?_
    rintro r w7 ⟨rfl, hb7⟩
    have HL7 : Hid (Below W.heap.size W w7) := hb7
    clear kM' HK HKM a0 a1 a2 b0 b1 b2 hb7
    go_wp2
    go_ret
    exact ⟨rfl, HX.out.trans (HL7.out.mono HX.out.size)⟩
set_option maxRecDepth 200000 in
theorem rorder_ne (na nb : Bool) (ua va : Option Addr) (un uc vn vc : Nat) (ea eb sa sb c : Int) (w : World) (hse0 : sa = sb) (hs : sa < 0) (hc : c = 0) (hc3 : -90000000000 ≤ c) (hc4 : c ≤ 90000000000)
    (kA : ∀ W, Below w.heap.size w W → Calls Tryz.prog 77 #[.agg #[.bool na, .slice ua un uc, .int .i64 ea]] W fun r w' => r = .returned (.int .i64 sa) ∧ Below W.heap.size W w')
    (kB : ∀ W, Below w.heap.size w W → Calls Tryz.prog 77 #[.agg #[.bool nb, .slice va vn vc, .int .i64 eb]] W fun r w' => r = .returned (.int .i64 sb) ∧ Below W.heap.size W w')
    (kM : ∀ W, Below w.heap.size w W → Calls Tryz.prog 78 #[.agg #[.bool na, .slice ua un uc, .int .i64 ea], .agg #[.bool nb, .slice va vn vc, .int .i64 eb]] W fun r w' => r = .returned (.int .i64 c) ∧ Below W.heap.size W w') :
    Calls Tryz.prog 32 #[.agg #[.bool na, .slice ua un uc, .int .i64 ea], .agg #[.bool nb, .slice va vn vc, .int .i64 eb]] w fun r w' => r = .returned (.int .i64 (0)) ∧ Below w.heap.size w w' := by
  obtain ⟨W, hW⟩ : ∃ W, W = (w.alloc (.cells #[.bool na, .slice ua un uc, .int .i64 ea] 45)).alloc (.cells #[.bool nb, .slice va vn vc, .int .i64 eb] 45) := ⟨_, rfl⟩
  obtain ⟨hA, hBb, hsz, hBW⟩ := two29 _ _ hW
  have HX : Hid (Below w.heap.size w W) := hBW
  have kA' : ∀ w4, Below W.heap.size W w4 → Calls Tryz.prog 77 #[.agg #[.bool na, .slice ua un uc, .int .i64 ea]] w4 fun r w' => r = .returned (.int .i64 sa) ∧ Below W.heap.size W w' := fun w4 h4 => (kA w4 (hBW.trans (h4.mono hBW.size))).mono fun r w' ⟨e1, o2⟩ => ⟨e1, h4.trans (o2.mono h4.size)⟩
  have kB' : ∀ w4, Below W.heap.size W w4 → Calls Tryz.prog 77 #[.agg #[.bool nb, .slice va vn vc, .int .i64 eb]] w4 fun r w' => r = .returned (.int .i64 sb) ∧ Below W.heap.size W w' := fun w4 h4 => (kB w4 (hBW.trans (h4.mono hBW.size))).mono fun r w' ⟨e1, o2⟩ => ⟨e1, h4.trans (o2.mono h4.size)⟩
  have kM' : ∀ w4, Below W.heap.size W w4 → Calls Tryz.prog 78 #[.agg #[.bool na, .slice ua un uc, .int .i64 ea], .agg #[.bool nb, .slice va vn vc, .int .i64 eb]] w4 fun r w' => r = .returned (.int .i64 c) ∧ Below W.heap.size W w' := fun w4 h4 => (kM w4 (hBW.trans (h4.mono hBW.size))).mono fun r w' ⟨e1, o2⟩ => ⟨e1, h4.trans (o2.mono h4.size)⟩
  have HKM : Hid (∀ w4, Below W.heap.size W w4 → Calls Tryz.prog 78 #[.agg #[.bool na, .slice ua un uc, .int .i64 ea], .agg #[.bool nb, .slice va vn vc, .int .i64 eb]] w4 fun r w' => r = .returned (.int .i64 c) ∧ Below W.heap.size W w') := kM'
  obtain ⟨⟨a0, a1, a2⟩, -⟩ := box_cells29 hA
  obtain ⟨⟨b0, b1, b2⟩, -⟩ := box_cells29 hBb
  have HK : Hid (∀ w', Below W.heap.size W w' → ((w'.cell? ⟨w.heap.size, 0, none⟩ = some (.bool na) ∧ w'.cell? ⟨w.heap.size, 1, none⟩ = some (.slice ua un uc) ∧ w'.cell? ⟨w.heap.size, 2, none⟩ = some (.int .i64 ea)) ∧ (w'.cell? ⟨w.heap.size + 1, 0, none⟩ = some (.bool nb) ∧ w'.cell? ⟨w.heap.size + 1, 1, none⟩ = some (.slice va vn vc) ∧ w'.cell? ⟨w.heap.size + 1, 2, none⟩ = some (.int .i64 eb)))) := fun w' hb => ⟨(box_cells29 (box_later hA hb (by omega))).1, (box_cells29 (box_later hBb hb (by omega))).1⟩
  have HRD : Hid (∀ w', Below W.heap.size W w' → Below W.heap.size W w'.drew) := fun w' h => h.trans ⟨rfl, rfl, rfl, Nat.le_refl _, fun _ _ => rfl⟩
  have hBR : Below W.heap.size W W.drew := (Below.refl _ _).drew
  have hse : (sa == sb) = true := by simp; omega
  have hse2 : (sa != sb) = false := by simp; omega
  obtain ⟨d, hd⟩ : ∃ d, d = -c := ⟨_, rfl⟩
  have hdw : IntKind.i64.wrap d = d := by rw [IntKind.wrap_i64]; omega
  have hd1 : ¬ d < 0 := by omega
  have hd2 : ¬ 0 < d := by omega
  have hdn : -c = d := hd.symm
  clear kA kB kM kM' hA hBb hsz hBW hd hc hc3 hc4 hse0
  go_enter Tryz.func32, Tryz.ntmps32
  go_upto_region 1 with fail
  rw [← hW]
  clear hW
  go_cut [5, 6] from 8 to 11 (fun u v w' => u = .int .i64 sa ∧ v = .int .i64 sb ∧ Hid (Below W.heap.size W w'))
  case first =>
    go_region_held3 (fun w' => ((w'.cell? ⟨w.heap.size, 0, none⟩ = some (.bool na) ∧ w'.cell? ⟨w.heap.size, 1, none⟩ = some (.slice ua un uc) ∧ w'.cell? ⟨w.heap.size, 2, none⟩ = some (.int .i64 ea)) ∧ (w'.cell? ⟨w.heap.size + 1, 0, none⟩ = some (.bool nb) ∧ w'.cell? ⟨w.heap.size + 1, 1, none⟩ = some (.slice va vn vc) ∧ w'.cell? ⟨w.heap.size + 1, 2, none⟩ = some (.int .i64 eb)))) (first | (with_reducible assumption) | exact ⟨⟨a0, a1, a2⟩, b0, b1, b2⟩ | (refine HK.out _ ?_; with_reducible assumption) | go_keep)
      (first | (go_at_call 77; first | (with_reducible refine (kA' _ (by first | (with_reducible assumption) | exact hBR)).mono ?_; rintro r w5 ⟨rfl, hb5⟩) | (with_reducible refine (kB' _ (by first | (with_reducible assumption) | exact hBR)).mono ?_; rintro r w6 ⟨rfl, hb6⟩)))
    all_goals go_wp2_with fail
    all_goals go_meet
    all_goals exact ⟨rfl, rfl, by first | exact hb6 | exact hb5⟩
  case rest =>
    obtain ⟨rfl, rfl, hc⟩ := hcut
    obtain ⟨W2, rfl⟩ : ∃ W2 : World, W2 = wc := ⟨_, rfl⟩
    clear a0 a1 a2 b0 b1 b2 kA' kB' hBR
    have kM' := HKM.out W2 hc.out
    obtain ⟨⟨a0, a1, a2⟩, b0, b1, b2⟩ := HK.out W2 hc.out
    go_wp2_with fail
    refine kM'.mono ?_
    rintro r w7 ⟨rfl, hb7⟩
    have HL7 : Hid (Below W.heap.size W w7) := hb7
    clear kM' HK HKM a0 a1 a2 b0 b1 b2 hb7
    go_wp2
    go_ret
    exact ⟨rfl, HX.out.trans (HL7.out.mono HX.out.size)⟩
theorem magI_sign {x y : Nat} {ea eb : Int} : cmpI (magI x ea y eb) 0 = cmpI (x * 2 ^ (ea - min ea eb).toNat : Nat) (y * 2 ^ (eb - min ea eb).toNat : Nat) := by
  unfold magI
  by_cases h0 : x = 0 ∨ y = 0
  · rw [if_pos h0]
    by_cases hx : x = 0
    · subst hx
      rw [dlen_zero, Nat.zero_mul]
      by_cases hy : y = 0
      · subst hy; rw [dlen_zero, Nat.zero_mul]; rfl
      · have h1 : dlen y ≠ 0 := fun e => hy (dlen_eq_zero.1 e)
        have h2 : 0 < y * 2 ^ (eb - min ea eb).toNat := Nat.mul_pos (by omega) (Nat.two_pow_pos _)
        unfold cmpI
        rw [if_pos (by omega), if_pos (by omega)]
    · have hy : y = 0 := by omega
      subst hy
      rw [dlen_zero, Nat.zero_mul]
      have h1 : dlen x ≠ 0 := fun e => hx (dlen_eq_zero.1 e)
      have h2 : 0 < x * 2 ^ (ea - min ea eb).toNat := Nat.mul_pos (by omega) (Nat.two_pow_pos _)
      unfold cmpI
      rw [if_neg (by omega), if_pos (by omega), if_neg (by omega), if_pos (by omega)]
  · rw [if_neg h0]
    have hx0 : x ≠ 0 := fun e => h0 (.inl e)
    have hy0 : y ≠ 0 := fun e => h0 (.inr e)
    by_cases ht : (bl x : Int) + ea = bl y + eb
    · rw [if_pos ht]
      rcases cmpI_cases (x * 2 ^ (ea - min ea eb).toNat : Nat) (y * 2 ^ (eb - min ea eb).toNat : Nat) with h | h | h <;> rw [h.2] <;> rfl
    · rw [if_neg ht]
      rcases cmpI_cases (bl x + ea) (bl y + eb) with h | h | h
      · have := top_lt (x := x) (k := (ea - min ea eb).toNat) (l := (eb - min ea eb).toNat) hy0 (by omega)
        unfold cmpI; rw [if_pos (by omega), if_pos (by omega)]
      · have := top_lt (x := y) (y := x) (k := (eb - min ea eb).toNat) (l := (ea - min ea eb).toNat) hx0 (by omega)
        unfold cmpI; rw [if_neg (by omega), if_pos (by omega), if_neg (by omega), if_pos (by omega)]
      · exact absurd h.1 ht
theorem magI_le {x y : Nat} {ea eb : Int} (hx : dlen x ≤ 400000) (hy : dlen y ≤ 400000) (ha : -2000000 ≤ ea ∧ ea ≤ 2000000) (hb : -2000000 ≤ eb ∧ eb ≤ 2000000) : -90000000000 ≤ magI x ea y eb ∧ magI x ea y eb ≤ 90000000000 := by
  have b1 := bl_le_dlen x
  have b2 := bl_le_dlen y
  unfold magI
  split
  · omega
  · split
    · rcases cmpI_cases (x * 2 ^ (ea - min ea eb).toNat : Nat) (y * 2 ^ (eb - min ea eb).toNat : Nat) with h | h | h <;> rw [h.2] <;> omega
    · omega
theorem rorder {na nb : Bool} {ua va : Option Addr} {uc vc x y : Nat} {ea eb : Int} {w : World} (h1 : Arg w ua (dlen x) uc x) (h2 : Arg w va (dlen y) vc y) (hx : dlen x ≤ 400000) (hy : dlen y ≤ 400000) (ha : -2000000 ≤ ea ∧ ea ≤ 2000000) (hb : -2000000 ≤ eb ∧ eb ≤ 2000000) :
    Calls Tryz.prog 32 #[.agg #[.bool na, .slice ua (dlen x) uc, .int .i64 ea], .agg #[.bool nb, .slice va (dlen y) vc, .int .i64 eb]] w fun r w' => r = .returned (.int .i64 (ordN na x ea nb y eb)) ∧ Below w.heap.size w w' := by
  have kA : ∀ W, Below w.heap.size w W → Calls Tryz.prog 77 #[.agg #[.bool na, .slice ua (dlen x) uc, .int .i64 ea]] W fun r w' => r = .returned (.int .i64 (sgI na (dlen x))) ∧ Below W.heap.size W w' := fun W hW => rsgn (by omega)
  have kB : ∀ W, Below w.heap.size w W → Calls Tryz.prog 77 #[.agg #[.bool nb, .slice va (dlen y) vc, .int .i64 eb]] W fun r w' => r = .returned (.int .i64 (sgI nb (dlen y))) ∧ Below W.heap.size W w' := fun W hW => rsgn (by omega)
  have kM : ∀ W, Below w.heap.size w W → Calls Tryz.prog 78 #[.agg #[.bool na, .slice ua (dlen x) uc, .int .i64 ea], .agg #[.bool nb, .slice va (dlen y) vc, .int .i64 eb]] W fun r w' => r = .returned (.int .i64 (magI x ea y eb)) ∧ Below W.heap.size W w' := fun W hW => rmag (h1.later hW) (h2.later hW) hx hy ha hb
  have hl := magI_le (ea := ea) (eb := eb) hx hy ha hb
  have hm := magI_sign (x := x) (y := y) (ea := ea) (eb := eb)
  unfold ordN
  rw [← hm]
  generalize hsa : sgI na (dlen x) = sa at *
  generalize hsb : sgI nb (dlen y) = sb at *
  generalize magI x ea y eb = c at *
  by_cases hs : sa = sb
  · rw [if_pos hs]
    have hs3 : sa = 0 ∨ sa = -1 ∨ sa = 1 := by
      rw [← hsa]; unfold sgI
      split
      · exact .inl rfl
      · split
        · exact .inr (.inl rfl)
        · exact .inr (.inr rfl)
    by_cases hsn : sa < 0
    · have hs1 : sa = -1 := by omega
      rcases cmpI_cases c 0 with h | h | h
      · rw [h.2, show sa * -1 = 1 by omega]; exact rorder_nl na nb ua va _ uc _ vc ea eb sa sb c w hs hsn h.1 hl.1 hl.2 kA kB kM
      · rw [h.2, show sa * 1 = -1 by omega]; exact rorder_ng na nb ua va _ uc _ vc ea eb sa sb c w hs hsn h.1 hl.1 hl.2 kA kB kM
      · rw [h.2, Int.mul_zero]; exact rorder_ne na nb ua va _ uc _ vc ea eb sa sb c w hs hsn h.1 hl.1 hl.2 kA kB kM
    · by_cases h0 : sa = 0
      · have hc0 : c = 0 := by
          have hdx : dlen x = 0 := by
            apply Decidable.byContradiction
            intro hne
            rw [h0, sgI_pos hne] at hsa
            cases na <;> simp at hsa
          have hdy : dlen y = 0 := by
            apply Decidable.byContradiction
            intro hne
            rw [← hs, h0, sgI_pos hne] at hsb
            cases nb <;> simp at hsb
          have ex : x = 0 := dlen_eq_zero.1 hdx
          have ey : y = 0 := dlen_eq_zero.1 hdy
          subst ex; subst ey
          rw [Nat.zero_mul, Nat.zero_mul] at hm
          rcases cmpI_cases c 0 with h | h | h
          · rw [h.2] at hm; exact absurd hm (by decide)
          · rw [h.2] at hm; exact absurd hm (by decide)
          · exact h.1
        rw [show sa * cmpI c 0 = 0 by rw [h0, Int.zero_mul]]
        exact rorder_pe na nb ua va _ uc _ vc ea eb sa sb c w hs (by omega) hc0 hl.1 hl.2 kA kB kM
      · have hs1 : sa = 1 := by omega
        rw [show sa * cmpI c 0 = cmpI c 0 by rw [hs1, Int.one_mul]]
        rcases cmpI_cases c 0 with h | h | h
        · rw [h.2]; exact rorder_pl na nb ua va _ uc _ vc ea eb sa sb c w hs (by omega) h.1 hl.1 hl.2 kA kB kM
        · rw [h.2]; exact rorder_pg na nb ua va _ uc _ vc ea eb sa sb c w hs (by omega) h.1 hl.1 hl.2 kA kB kM
        · rw [h.2]; exact rorder_pe na nb ua va _ uc _ vc ea eb sa sb c w hs (by omega) h.1 hl.1 hl.2 kA kB kM
  · rw [if_neg hs]
    unfold cmpI
    by_cases hlt : sa < sb
    · rw [if_pos hlt]; exact rorder_lt na nb ua va _ uc _ vc ea eb sa sb c w hlt kA kB
    · rw [if_neg hlt, if_pos (by omega)]; exact rorder_gt na nb ua va _ uc _ vc ea eb sa sb c w hlt hs kA kB
end Go.Proofs.YtcoclopllbfjcaaGreatDoor
namespace Go.Proofs.YtcoclopllbfjcaaGreatDoor
set_option linter.unusedVariables false
set_option linter.unusedSimpArgs false
open Go.RowKit Go.Fl64
theorem dn_store {w : World} {A : Value} {t : Bool × Nat × Int} {g : Nat} (h : DN w A t) (hg : w.heap[g]? = some (.cells #[.bool false, .slice none 0 0, .int .i64 0] 45 (0, 0))) (a b c : Value) : DN (((w.setCell ⟨g, 0, none⟩ a).setCell ⟨g, 1, none⟩ b).setCell ⟨g, 2, none⟩ c) A t := by
  obtain ⟨ao, cap, h1, h2⟩ := h
  exact ⟨ao, cap, h1, h2.nil, at_box h2.at_ rfl hg (by simp) (by simp) (by simp) a b c, h2.le, h2.small⟩
def BxD (w3 wc : World) (g : Nat) (s : Bool) (ao : Option Addr) (n cap : Nat) (ex : Int) (t : Bool × Nat × Int) : Prop := wc.heap[g]? = some (.cells #[.bool s, .slice ao n cap, .int .i64 ex] 45 (0, 0)) ∧ w3.heap.size ≤ g ∧ Below w3.heap.size w3 wc ∧ DN wc (.agg #[.bool s, .slice ao n cap, .int .i64 ex]) t
theorem BxD.new {w3 w7 : World} {s : Bool} {ao : Option Addr} {n cap : Nat} {ex : Int} {t : Bool × Nat × Int} (hn : DN w7 (.agg #[.bool s, .slice ao n cap, .int .i64 ex]) t) (hb : Below w3.heap.size w3 w7) : BxD w3 (w7.alloc (.cells #[.bool s, .slice ao n cap, .int .i64 ex] 45)) w7.heap.size s ao n cap ex t :=
  ⟨heap_alloc_new _ _, hb.size, hb.alloc hb.size _, hn.later ((Below.refl _ _).alloc (Nat.le_refl _) _)⟩
theorem BxD.put {w3 w7 : World} {g : Nat} {s : Bool} {ao : Option Addr} {n cap : Nat} {ex : Int} {t : Bool × Nat × Int} (hn : DN w7 (.agg #[.bool s, .slice ao n cap, .int .i64 ex]) t) (hb : Below w3.heap.size w3 w7) (hg : w3.heap.size ≤ g) (hbx : w7.heap[g]? = some (.cells #[.bool false, .slice none 0 0, .int .i64 0] 45 (0, 0))) :
    BxD w3 (((w7.setCell ⟨g, 0, none⟩ (.bool s)).setCell ⟨g, 1, none⟩ (.slice ao n cap)).setCell ⟨g, 2, none⟩ (.int .i64 ex)) g s ao n cap ex t :=
  ⟨store3_29 _ _ _ hbx, hg, below_store3 hb hg _ _ _, dn_store hn hbx _ _ _⟩
def BxP (w3 wc : World) (g : Nat) (s : Bool) (ao : Option Addr) (n cap : Nat) (ex : Int) (t : Bool × Nat × Int) : Prop := wc.heap[g]? = some (.cells #[.bool s, .slice ao n cap, .int .i64 ex] 96 (0, 0)) ∧ w3.heap.size ≤ g ∧ Below w3.heap.size w3 wc ∧ PN wc (.agg #[.bool s, .slice ao n cap, .int .i64 ex]) t
theorem BxP.new {w3 w7 : World} {s : Bool} {ao : Option Addr} {n cap : Nat} {ex : Int} {t : Bool × Nat × Int} (hn : PN w7 (.agg #[.bool s, .slice ao n cap, .int .i64 ex]) t) (hb : Below w3.heap.size w3 w7) : BxP w3 (w7.alloc (.cells #[.bool s, .slice ao n cap, .int .i64 ex] 96)) w7.heap.size s ao n cap ex t :=
  ⟨heap_alloc_new _ _, hb.size, hb.alloc hb.size _, hn.later ((Below.refl _ _).alloc (Nat.le_refl _) _)⟩
theorem BxP.put {w3 w7 : World} {g : Nat} {s : Bool} {ao : Option Addr} {n cap : Nat} {ex : Int} {t : Bool × Nat × Int} (hn : PN w7 (.agg #[.bool s, .slice ao n cap, .int .i64 ex]) t) (hb : Below w3.heap.size w3 w7) (hg : w3.heap.size ≤ g) (hbx : w7.heap[g]? = some (.cells #[.bool false, .slice none 0 0, .int .i64 0] 96 (0, 0))) :
    BxP w3 (((w7.setCell ⟨g, 0, none⟩ (.bool s)).setCell ⟨g, 1, none⟩ (.slice ao n cap)).setCell ⟨g, 2, none⟩ (.int .i64 ex)) g s ao n cap ex t :=
  ⟨store3 _ _ _ hbx, hg, below_store3 hb hg _ _ _, pn_store hn hbx _ _ _⟩
end Go.Proofs.YtcoclopllbfjcaaGreatDoor
namespace Go.Proofs.YtcoclopllbfjcaaGreatDoor
set_option linter.unusedVariables false
set_option linter.unusedSimpArgs false
open Go.RowKit
def OB (w wr : World) (v : Value) (L : List UInt8) : Prop := wr.ownsRow w.heap.size 5 1 v L.length (Lib.byteCells L) ∧ Below w.heap.size w wr
theorem OB.shape {w wr : World} {v : Value} {L : List UInt8} (h : OB w wr v L) : ∃ ao cap, v = .slice ao L.length cap := by
  obtain ⟨⟨-, h | ⟨g, cap, cur, h, -⟩⟩, -⟩ := h
  · exact ⟨none, 0, by rw [h.1, h.2]⟩
  · exact ⟨_, _, h⟩
theorem PI.open {na : Bool} {un x : Nat} {ea : Int} {W : World} {X : Value} (hX : PI na un x ea W X) : ∃ pa pc, X = .agg #[.bool na, .slice pa un pc, .int .i64 ea] ∧ At W pa un x := by
  obtain ⟨v, b, rfl, d1⟩ := hX
  obtain ⟨pa, pc, rfl, p1, p2⟩ := d1.at
  exact ⟨pa, pc, rfl, p2⟩
theorem PI.is {na : Bool} {x : Nat} {ea : Int} {W : World} {X : Value} (hX : PI na (dlen x) x ea W X) : ∃ pa pc, X = .agg #[.bool na, .slice pa (dlen x) pc, .int .i64 ea] ∧ Is W (.slice pa (dlen x) pc) x := by
  obtain ⟨v, b, rfl, d1⟩ := hX
  obtain ⟨pa, pc, e1, i1⟩ := dn_pn (s := na) (e := ea) d1
  exact ⟨pa, pc, e1, i1⟩
end Go.Proofs.YtcoclopllbfjcaaGreatDoor
namespace Go.Proofs.YtcoclopllbfjcaaGreatDoor
set_option linter.unusedVariables false
set_option linter.unusedSimpArgs false
open Go.RowKit Go.Fl64
theorem Rounds.step {A u b0 b2 : Nat} (h0 : Rounds A u b0 0) (h2 : Rounds A u b2 2) : b0 ≤ b2 ∧ b2 ≤ b0 + 1 := by
  obtain ⟨c0, ⟨p1, p2⟩, q0, -, -⟩ := h0.fl
  obtain ⟨c2, ⟨r1, r2⟩, -, s2, -⟩ := h2.fl
  have e0 := q0 rfl
  have e2 := s2 rfl
  have h1 := floor_mono (Nat.le_refl A) p1 r2
  have h3 := floor_mono (Nat.le_refl A) r1 p2
  have : c0 = c2 := by omega
  subst this
  rw [e0, e2]
  split <;> omega
end Go.Proofs.YtcoclopllbfjcaaGreatDoor
/- Floats in order: not above, the lesser and the greater of two; intervals that may be. -/
namespace Go.Fl64
set_option linter.unusedVariables false
set_option linter.unusedSimpArgs false
def le (a b : Nat) : Bool := !isNaN a && !isNaN b && decide (stp a ≤ stp b)
theorem ord_le (a b : Nat) (ha : a < 18446744073709551616) (hb : b < 18446744073709551616) : (FloatKind.f64.format.order a b == some Ordering.lt || FloatKind.f64.format.order a b == some Ordering.eq) = le a b := by
  rw [ord_lt a b ha hb, ord_eq a b ha hb]
  unfold lt eq le
  cases isNaN a <;> cases isNaN b <;> simp
  rw [← Bool.decide_or]
  exact decide_eq_decide.2 (by omega)
theorem ord_ge (a b : Nat) (ha : a < 18446744073709551616) (hb : b < 18446744073709551616) : (FloatKind.f64.format.order a b == some Ordering.gt || FloatKind.f64.format.order a b == some Ordering.eq) = le b a := by
  rw [ord_gt a b ha hb, ord_eq a b ha hb]
  unfold lt eq le
  cases isNaN a <;> cases isNaN b <;> simp
  rw [← Bool.decide_or]
  exact decide_eq_decide.2 (by omega)
theorem ord_ne (a b : Nat) (ha : a < 18446744073709551616) (hb : b < 18446744073709551616) : (FloatKind.f64.format.order a b != some Ordering.eq) = !eq a b := by
  rw [← ord_eq a b ha hb]; rfl
def fMin (x y : Nat) : Nat := if stp x < stp y then x else if stp y < stp x then y else if neg x then x else y
def fMax (x y : Nat) : Nat := if stp x < stp y then y else if stp y < stp x then x else if neg x then y else x
theorem dec_neg (a : Nat) (h : a < 18446744073709551616) (n : isNaN a = false) : (FloatKind.f64.decode a).neg = neg a := by
  unfold FloatKind.decode
  rw [f64]
  have n' : ¬ 9218868437227405312 < mag a := of_decide_eq_false n
  by_cases f : mag a < 9218868437227405312
  · obtain ⟨m, k, e, _⟩ := read_number a h f
    rw [e]; rfl
  · rw [read_infinity a h (by omega)]; rfl
theorem run_fmin {P : Program} (w : World) (ts : Array TypeId) (t : TypeId) (x y : Nat) (hx : x < 18446744073709551616) (hy : y < 18446744073709551616) (nx : isNaN x = false) (ny : isNaN y = false) :
    (Builtin.min_ ts t #[.float .f64 x, .float .f64 y]).run P w = .ok (.float .f64 (fMin x y)) w := by
  have ho := order_num x y hx hy nx ny
  have hd := dec_neg x hx nx
  rw [← f64] at ho
  unfold fMin
  rcases Int.lt_trichotomy (stp x) (stp y) with h | h | h
  · rw [cmp_lt h] at ho
    rw [if_pos h]
    simp [Builtin.min_, Builtin.min2, ho]
  · rw [cmp_eq h] at ho
    rw [if_neg (by omega), if_neg (by omega)]
    simp [Builtin.min_, Builtin.min2, ho, hd]
  · rw [cmp_gt h] at ho
    rw [if_neg (by omega), if_pos h]
    simp [Builtin.min_, Builtin.min2, ho]
theorem run_fmax {P : Program} (w : World) (ts : Array TypeId) (t : TypeId) (x y : Nat) (hx : x < 18446744073709551616) (hy : y < 18446744073709551616) (nx : isNaN x = false) (ny : isNaN y = false) :
    (Builtin.max_ ts t #[.float .f64 x, .float .f64 y]).run P w = .ok (.float .f64 (fMax x y)) w := by
  have ho := order_num x y hx hy nx ny
  have hd := dec_neg x hx nx
  rw [← f64] at ho
  unfold fMax
  rcases Int.lt_trichotomy (stp x) (stp y) with h | h | h
  · rw [cmp_lt h] at ho
    rw [if_pos h]
    simp [Builtin.max_, Builtin.max2, ho]
  · rw [cmp_eq h] at ho
    rw [if_neg (by omega), if_neg (by omega)]
    simp [Builtin.max_, Builtin.max2, ho, hd]
  · rw [cmp_gt h] at ho
    rw [if_neg (by omega), if_pos h]
    simp [Builtin.max_, Builtin.max2, ho]
theorem fMin_or (x y : Nat) : fMin x y = x ∨ fMin x y = y := by
  unfold fMin
  split
  · exact .inl rfl
  · split
    · exact .inr rfl
    · split
      · exact .inl rfl
      · exact .inr rfl
theorem fMax_or (x y : Nat) : fMax x y = x ∨ fMax x y = y := by
  unfold fMax
  split
  · exact .inr rfl
  · split
    · exact .inl rfl
    · split
      · exact .inr rfl
      · exact .inl rfl
theorem fMin_lt {x y : Nat} (hx : x < 18446744073709551616) (hy : y < 18446744073709551616) : fMin x y < 18446744073709551616 := by
  rcases fMin_or x y with h | h <;> rw [h] <;> assumption
theorem fMax_lt {x y : Nat} (hx : x < 18446744073709551616) (hy : y < 18446744073709551616) : fMax x y < 18446744073709551616 := by
  rcases fMax_or x y with h | h <;> rw [h] <;> assumption
theorem fMin_nn {x y : Nat} (hx : isNaN x = false) (hy : isNaN y = false) : isNaN (fMin x y) = false := by
  rcases fMin_or x y with h | h <;> rw [h] <;> assumption
theorem fMax_nn {x y : Nat} (hx : isNaN x = false) (hy : isNaN y = false) : isNaN (fMax x y) = false := by
  rcases fMax_or x y with h | h <;> rw [h] <;> assumption
def pl (a : Nat) : Nat := if a = 9223372036854775808 then 0 else a
theorem pl_lt {a : Nat} (h : a < 18446744073709551616) : pl a < 18446744073709551616 := by unfold pl; split <;> omega
theorem stp_zero {a : Nat} (ha : a < 18446744073709551616) : stp a = 0 ↔ (a = 0 ∨ a = 9223372036854775808) := by
  unfold stp sgn neg mag
  constructor
  · intro h
    split at h <;> rename_i h1 <;> simp only [decide_eq_true_eq] at h1 <;> omega
  · rintro (rfl | rfl) <;> decide
def vI (lo hi : Nat) : Bool := le lo hi && lt lo 9218868437227405312 && lt 18442240474082181120 hi && decide (lo ≠ 9223372036854775808) && decide (hi ≠ 9223372036854775808)
theorem stp_inj {a b : Nat} (ha : a < 18446744073709551616) (hb : b < 18446744073709551616) (h : stp a = stp b) (h1 : a ≠ 9223372036854775808) (h2 : b ≠ 9223372036854775808) : a = b := by
  unfold stp sgn neg mag at h
  split at h <;> split at h <;> rename_i h3 h4 <;> simp only [decide_eq_true_eq] at h3 h4 <;> omega
end Go.Fl64
namespace Go.Proofs.YtcoclopllbfjcaaGreatDoor
set_option linter.unusedVariables false
set_option linter.unusedSimpArgs false
open Go.RowKit Go.Fl64
theorem eq_zero (a : Nat) (ha : a < 18446744073709551616) : eq a 0 = (decide (a = 0) || decide (a = 9223372036854775808)) := by
  rw [← Bool.decide_or]
  unfold eq
  rw [show isNaN 0 = false from rfl]
  have h := stp_zero ha
  rw [show stp 0 = 0 from rfl]
  by_cases h0 : stp a = 0
  · have h1 := h.1 h0
    rw [decide_eq_true h0, decide_eq_true h1]
    rcases h1 with rfl | rfl <;> rfl
  · rw [decide_eq_false h0, decide_eq_false fun h2 => h0 (h.2 h2), Bool.and_false]
theorem pmn (a : Nat) (ha : a < 18446744073709551616) (w : World) :
    Calls Tryz.prog 96 #[.float .f64 a] w fun r w' => r = .returned (.bool (decide (a = 9223372036854775808))) ∧ w' = w := by
  have k := Ie.c33 a ha
  have e := ord_eq a 0 ha (by omega)
  rw [eq_zero a ha] at e
  by_cases h : a = 0 ∨ a = 9223372036854775808
  · have e1 : (FloatKind.f64.format.order a 0 == some Ordering.eq) = true := by
      rw [e, ← Bool.decide_or]; exact decide_eq_true h
    have e2 : decide (a = 9223372036854775808) = neg a := by
      rcases h with rfl | rfl <;> rfl
    rw [e2]
    clear e e2 h
    go_enter Tryz.func96, Tryz.ntmps96
    go_wp2_with (first | (go_at_call 109; refine (k _).mono ?_; rintro r w' ⟨rfl, rfl⟩))
    go_ret
    exact ⟨rfl, rfl⟩
  · have e1 : (FloatKind.f64.format.order a 0 == some Ordering.eq) = false := by
      rw [e, ← Bool.decide_or]; exact decide_eq_false h
    rw [decide_eq_false fun h1 => h (.inr h1)]
    clear e h
    go_enter Tryz.func96, Tryz.ntmps96
    go_wp2
    go_ret
    exact ⟨rfl, rfl⟩
theorem ppl (a : Nat) (ha : a < 18446744073709551616) (w : World) :
    Calls Tryz.prog 97 #[.float .f64 a] w fun r w' => r = .returned (.float .f64 (pl a)) ∧ w' = w := by
  have e := ord_eq a 0 ha (by omega)
  rw [eq_zero a ha] at e
  by_cases h : a = 0 ∨ a = 9223372036854775808
  · have e1 : (FloatKind.f64.format.order a 0 == some Ordering.eq) = true := by
      rw [e, ← Bool.decide_or]; exact decide_eq_true h
    have e2 : pl a = 0 := by
      rcases h with rfl | rfl <;> rfl
    rw [e2]
    clear e e2 h
    go_enter Tryz.func97, Tryz.ntmps97
    go_wp2
    go_ret
    exact ⟨rfl, rfl⟩
  · have e1 : (FloatKind.f64.format.order a 0 == some Ordering.eq) = false := by
      rw [e, ← Bool.decide_or]; exact decide_eq_false h
    have e2 : pl a = a := if_neg fun h1 => h (.inr h1)
    rw [e2]
    clear e e2 h
    go_enter Tryz.func97, Tryz.ntmps97
    go_wp2
    go_ret
    exact ⟨rfl, rfl⟩
theorem dpl (a : Nat) (ha : a < 18446744073709551616) (w : World) :
    Calls Tryz.prog 48 #[.float .f64 a] w fun r w' => r = .returned (.float .f64 (pl a)) ∧ w' = w := by
  have e := ord_eq a 0 ha (by omega)
  rw [eq_zero a ha] at e
  by_cases h : a = 0 ∨ a = 9223372036854775808
  · have e1 : (FloatKind.f64.format.order a 0 == some Ordering.eq) = true := by
      rw [e, ← Bool.decide_or]; exact decide_eq_true h
    have e2 : pl a = 0 := by
      rcases h with rfl | rfl <;> rfl
    rw [e2]
    clear e e2 h
    go_enter Tryz.func48, Tryz.ntmps48
    go_wp2
    go_ret
    exact ⟨rfl, rfl⟩
  · have e1 : (FloatKind.f64.format.order a 0 == some Ordering.eq) = false := by
      rw [e, ← Bool.decide_or]; exact decide_eq_false h
    have e2 : pl a = a := if_neg fun h1 => h (.inr h1)
    rw [e2]
    clear e e2 h
    go_enter Tryz.func48, Tryz.ntmps48
    go_wp2
    go_ret
    exact ⟨rfl, rfl⟩
end Go.Proofs.YtcoclopllbfjcaaGreatDoor
