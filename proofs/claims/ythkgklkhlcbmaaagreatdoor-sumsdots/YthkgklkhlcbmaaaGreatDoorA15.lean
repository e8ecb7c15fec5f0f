/- Own work: contracts of the program's functions, part 15: UE5 UE6 UE7. -/
import Derived.Test.YthkgklkhlcbmaaaGreatDoorA14
import Derived.Test.YthkgklkhlcbmaaaGreatDoorA13
import Derived.Deep.RegionHeld

set_option maxHeartbeats 16000000
namespace Go.Proofs.YthkgklkhlcbmaaaGreatDoor
set_option linter.unusedVariables false
set_option linter.unusedSimpArgs false
open Go.RowKit Go.Fl64
theorem ddot_no (ao ao' : Option Addr) (len len' cap cap' : Nat) (m : Int) (w : World) (h : isM m = false ∨ len ≠ len') : Calls Tryz.prog 24 #[.slice ao len cap, .slice ao' len' cap', .int .i64 m] w fun r w' => r = .returned (.tuple #[.float .f64 0, .int .i64 1]) ∧ Below w.heap.size w w' := by
  have kv := dvalid m w
  cases hm : isM m
  · rw [hm] at kv
    go_enter Tryz.func24, Tryz.ntmps24
    go_wp2_with (go_at_call 49; refine kv.mono ?_; rintro r w' ⟨rfl, hw⟩; rw [hw]; clear hw w')
    refine bodyPost_ret (results_tmp2 rfl _ _ _) rfl ?_
    exact ⟨rfl, Below.refl _ _⟩
  · rw [hm] at kv
    have hne : len ≠ len' := by
      rcases h with h | h
      · rw [hm] at h; cases h
      · exact h
    have hnn : ((len : Int) != (len' : Int)) = true := by simp; omega
    go_enter Tryz.func24, Tryz.ntmps24
    go_wp2_with (go_at_call 49; refine kv.mono ?_; rintro r w' ⟨rfl, hw⟩; rw [hw]; clear hw w')
    refine bodyPost_ret (results_tmp2 rfl _ _ _) rfl ?_
    exact ⟨rfl, Below.refl _ _⟩
set_option maxRecDepth 200000 in
theorem ddot_2 (ao ao' : Option Addr) (len cap cap' : Nat) (xs : Nat → Nat) (m c1 f1 : Int) (w : World) (hm : isM m = true) (hA : FAt w ao len xs) (hn : len = 0 → (∃ ad, ao = some ad) ∨ (ao = none ∧ cap = 0)) (hsm : len ≤ 17592186043904)
    (k1 : ∀ W, Below w.heap.size w W → Calls Tryz.prog 50 #[.slice ao len cap] W fun r w' => r = .returned (.int .i64 c1) ∧ w' = W) (k2 : ∀ W, Below w.heap.size w W → Calls Tryz.prog 50 #[.slice ao' len cap'] W fun r w' => r = .returned (.int .i64 f1) ∧ w' = W)
    (h2 : c1 = 2) :
    Calls Tryz.prog 24 #[.slice ao len cap, .slice ao' len cap', .int .i64 m] w fun r w' => r = .returned (.tuple #[.float .f64 0, .int .i64 2]) ∧ Below w.heap.size w w' := by
  subst h2
  have kv := dvalid m w
  rw [hm] at kv
  have hnn : ((len : Int) != (len : Int)) = false := by simp
  have H1 : Hid _ := k1
  have H2 : Hid _ := k2
  have HAA : Hid (FAt w ao len xs) := hA
  clear k1 k2 hm
  go_enter Tryz.func24, Tryz.ntmps24
  go_wp2_with (first | (go_at_call 49; refine kv.mono ?_; rintro r w' ⟨rfl, hw⟩; rw [hw]; clear hw w') | (at_builtin; refine wpList_append_flts rfl _ _ rfl rfl rfl hA hn hsm ?_))
  intro ao2 cap2 w1 h1 h2 h3 hb1
  have HB : Hid (Below w.heap.size w w1) := hb1
  have kk := H1.out w1 hb1
  clear h1 h2 h3 hb1 hA hn kv
  go_wp2_with fail
  refine kk.mono ?_
  rintro r w' ⟨rfl, hw⟩
  rw [hw]
  clear hw kk w'
  go_wp2_with fail
  refine bodyPost_ret (results_tmp2 rfl _ _ _) rfl ?_
  exact ⟨rfl, HB.out⟩
set_option maxRecDepth 200000 in
theorem ddot_4a (ao ao' : Option Addr) (len cap cap' : Nat) (xs : Nat → Nat) (m c1 f1 : Int) (w : World) (hm : isM m = true) (hA : FAt w ao len xs) (hn : len = 0 → (∃ ad, ao = some ad) ∨ (ao = none ∧ cap = 0)) (hsm : len ≤ 17592186043904)
    (k1 : ∀ W, Below w.heap.size w W → Calls Tryz.prog 50 #[.slice ao len cap] W fun r w' => r = .returned (.int .i64 c1) ∧ w' = W) (k2 : ∀ W, Below w.heap.size w W → Calls Tryz.prog 50 #[.slice ao' len cap'] W fun r w' => r = .returned (.int .i64 f1) ∧ w' = W)
    (h4 : c1 = 4) :
    Calls Tryz.prog 24 #[.slice ao len cap, .slice ao' len cap', .int .i64 m] w fun r w' => r = .returned (.tuple #[.float .f64 0, .int .i64 4]) ∧ Below w.heap.size w w' := by
  subst h4
  have kv := dvalid m w
  rw [hm] at kv
  have hnn : ((len : Int) != (len : Int)) = false := by simp
  have H1 : Hid _ := k1
  have H2 : Hid _ := k2
  have HAA : Hid (FAt w ao len xs) := hA
  clear k1 k2 hm
  go_enter Tryz.func24, Tryz.ntmps24
  go_wp2_with (first | (go_at_call 49; refine kv.mono ?_; rintro r w' ⟨rfl, hw⟩; rw [hw]; clear hw w') | (at_builtin; refine wpList_append_flts rfl _ _ rfl rfl rfl hA hn hsm ?_))
  intro ao2 cap2 w1 h1 h2 h3 hb1
  have HB : Hid (Below w.heap.size w w1) := hb1
  have kk := H1.out w1 hb1
  clear h1 h2 h3 hb1 hA hn kv
  go_wp2_with fail
  refine kk.mono ?_
  rintro r w' ⟨rfl, hw⟩
  rw [hw]
  clear hw kk w'
  have kk := H2.out w1 HB.out
  go_wp2_with fail
  refine kk.mono ?_
  rintro r w' ⟨rfl, hw⟩
  rw [hw]
  clear hw kk w'
  go_wp2_with fail
  refine bodyPost_ret (results_tmp2 rfl _ _ _) rfl ?_
  exact ⟨rfl, HB.out⟩
set_option maxRecDepth 200000 in
theorem ddot_4b (ao ao' : Option Addr) (len cap cap' : Nat) (xs : Nat → Nat) (m c1 f1 : Int) (w : World) (hm : isM m = true) (hA : FAt w ao len xs) (hn : len = 0 → (∃ ad, ao = some ad) ∨ (ao = none ∧ cap = 0)) (hsm : len ≤ 17592186043904)
    (k1 : ∀ W, Below w.heap.size w W → Calls Tryz.prog 50 #[.slice ao len cap] W fun r w' => r = .returned (.int .i64 c1) ∧ w' = W) (k2 : ∀ W, Below w.heap.size w W → Calls Tryz.prog 50 #[.slice ao' len cap'] W fun r w' => r = .returned (.int .i64 f1) ∧ w' = W)
    (h2 : (c1 != 2) = true) (h4 : (c1 == 4) = false) (h5 : f1 = 4) :
    Calls Tryz.prog 24 #[.slice ao len cap, .slice ao' len cap', .int .i64 m] w fun r w' => r = .returned (.tuple #[.float .f64 0, .int .i64 4]) ∧ Below w.heap.size w w' := by
  subst h5
  have kv := dvalid m w
  rw [hm] at kv
  have hnn : ((len : Int) != (len : Int)) = false := by simp
  have H1 : Hid _ := k1
  have H2 : Hid _ := k2
  have HAA : Hid (FAt w ao len xs) := hA
  clear k1 k2 hm
  go_enter Tryz.func24, Tryz.ntmps24
  go_wp2_with (first | (go_at_call 49; refine kv.mono ?_; rintro r w' ⟨rfl, hw⟩; rw [hw]; clear hw w') | (at_builtin; refine wpList_append_flts rfl _ _ rfl rfl rfl hA hn hsm ?_))
  intro ao2 cap2 w1 h1 h2 h3 hb1
  have HB : Hid (Below w.heap.size w w1) := hb1
  have kk := H1.out w1 hb1
  clear h1 h2 h3 hb1 hA hn kv
  go_wp2_with fail
  refine kk.mono ?_
  rintro r w' ⟨rfl, hw⟩
  rw [hw]
  clear hw kk w'
  have kk := H2.out w1 HB.out
  go_wp2_with fail
  refine kk.mono ?_
  rintro r w' ⟨rfl, hw⟩
  rw [hw]
  clear hw kk w'
  go_wp2_with fail
  refine bodyPost_ret (results_tmp2 rfl _ _ _) rfl ?_
  exact ⟨rfl, HB.out⟩
set_option maxRecDepth 200000 in
theorem ddot_f (ao ao' : Option Addr) (len cap cap' : Nat) (xs : Nat → Nat) (m c1 f1 : Int) (w : World) (hm : isM m = true) (hA : FAt w ao len xs) (hn : len = 0 → (∃ ad, ao = some ad) ∨ (ao = none ∧ cap = 0)) (hsm : len ≤ 17592186043904)
    (k1 : ∀ W, Below w.heap.size w W → Calls Tryz.prog 50 #[.slice ao len cap] W fun r w' => r = .returned (.int .i64 c1) ∧ w' = W) (k2 : ∀ W, Below w.heap.size w W → Calls Tryz.prog 50 #[.slice ao' len cap'] W fun r w' => r = .returned (.int .i64 f1) ∧ w' = W)
    (h2 : (c1 != 2) = true) (h4 : (c1 == 4) = false) (h5 : (f1 == 4) = false) (h6 : (f1 != 0) = true) :
    Calls Tryz.prog 24 #[.slice ao len cap, .slice ao' len cap', .int .i64 m] w fun r w' => r = .returned (.tuple #[.float .f64 0, .int .i64 f1]) ∧ Below w.heap.size w w' := by
  have kv := dvalid m w
  rw [hm] at kv
  have hnn : ((len : Int) != (len : Int)) = false := by simp
  have H1 : Hid _ := k1
  have H2 : Hid _ := k2
  have HAA : Hid (FAt w ao len xs) := hA
  clear k1 k2 hm
  go_enter Tryz.func24, Tryz.ntmps24
  go_wp2_with (first | (go_at_call 49; refine kv.mono ?_; rintro r w' ⟨rfl, hw⟩; rw [hw]; clear hw w') | (at_builtin; refine wpList_append_flts rfl _ _ rfl rfl rfl hA hn hsm ?_))
  intro ao2 cap2 w1 h1 h2 h3 hb1
  have HB : Hid (Below w.heap.size w w1) := hb1
  have kk := H1.out w1 hb1
  clear h1 h2 h3 hb1 hA hn kv
  go_wp2_with fail
  refine kk.mono ?_
  rintro r w' ⟨rfl, hw⟩
  rw [hw]
  clear hw kk w'
  have kk := H2.out w1 HB.out
  go_wp2_with fail
  refine kk.mono ?_
  rintro r w' ⟨rfl, hw⟩
  rw [hw]
  clear hw kk w'
  go_wp2_with fail
  refine bodyPost_ret (results_tmp2 rfl _ _ _) rfl ?_
  exact ⟨rfl, HB.out⟩
set_option maxRecDepth 200000 in
theorem ddot_c (ao ao' : Option Addr) (len cap cap' : Nat) (xs : Nat → Nat) (m c1 f1 : Int) (w : World) (hm : isM m = true) (hA : FAt w ao len xs) (hn : len = 0 → (∃ ad, ao = some ad) ∨ (ao = none ∧ cap = 0)) (hsm : len ≤ 17592186043904)
    (k1 : ∀ W, Below w.heap.size w W → Calls Tryz.prog 50 #[.slice ao len cap] W fun r w' => r = .returned (.int .i64 c1) ∧ w' = W) (k2 : ∀ W, Below w.heap.size w W → Calls Tryz.prog 50 #[.slice ao' len cap'] W fun r w' => r = .returned (.int .i64 f1) ∧ w' = W)
    (h2 : (c1 != 2) = true) (h4 : (c1 == 4) = false) (h5 : f1 = 0) (h6 : (c1 != 0) = true) :
    Calls Tryz.prog 24 #[.slice ao len cap, .slice ao' len cap', .int .i64 m] w fun r w' => r = .returned (.tuple #[.float .f64 0, .int .i64 c1]) ∧ Below w.heap.size w w' := by
  subst h5
  have kv := dvalid m w
  rw [hm] at kv
  have hnn : ((len : Int) != (len : Int)) = false := by simp
  have H1 : Hid _ := k1
  have H2 : Hid _ := k2
  have HAA : Hid (FAt w ao len xs) := hA
  clear k1 k2 hm
  go_enter Tryz.func24, Tryz.ntmps24
  go_wp2_with (first | (go_at_call 49; refine kv.mono ?_; rintro r w' ⟨rfl, hw⟩; rw [hw]; clear hw w') | (at_builtin; refine wpList_append_flts rfl _ _ rfl rfl rfl hA hn hsm ?_))
  intro ao2 cap2 w1 h1 h2 h3 hb1
  have HB : Hid (Below w.heap.size w w1) := hb1
  have kk := H1.out w1 hb1
  clear h1 h2 h3 hb1 hA hn kv
  go_wp2_with fail
  refine kk.mono ?_
  rintro r w' ⟨rfl, hw⟩
  rw [hw]
  clear hw kk w'
  have kk := H2.out w1 HB.out
  go_wp2_with fail
  refine kk.mono ?_
  rintro r w' ⟨rfl, hw⟩
  rw [hw]
  clear hw kk w'
  go_wp2_with fail
  refine bodyPost_ret (results_tmp2 rfl _ _ _) rfl ?_
  exact ⟨rfl, HB.out⟩
end Go.Proofs.YthkgklkhlcbmaaaGreatDoor
namespace Go.Proofs.YthkgklkhlcbmaaaGreatDoor
set_option linter.unusedVariables false
set_option linter.unusedSimpArgs false
open Go.RowKit Go.Fl64
set_option maxRecDepth 200000 in
theorem ddot_ok (ao ao' : Option Addr) (len cap cap' F : Nat) (xs ys : Nat → Nat) (m : Int) (w : World) (hm : isM m = true) (hA : FAt w ao len xs) (hA' : FAt w ao' len ys) (hx : Fls xs len) (hy : Fls ys len) (hn : len = 0 → (∃ ad, ao = some ad) ∨ (ao = none ∧ cap = 0)) (hsm : len ≤ 17592186043904) (hlen : len ≤ 65536)
    (HF : Hid (F = if (tDot xs ys len).2.1 = 0 then 0 else tfF (tDot xs ys len).1 true (tDot xs ys len).2.1 (tDot xs ys len).2.2 m))
    (k1 : ∀ W, Below w.heap.size w W → Calls Tryz.prog 50 #[.slice ao len cap] W fun r w' => r = .returned (.int .i64 0) ∧ w' = W) (k2 : ∀ W, Below w.heap.size w W → Calls Tryz.prog 50 #[.slice ao' len cap'] W fun r w' => r = .returned (.int .i64 0) ∧ w' = W) :
    Calls Tryz.prog 24 #[.slice ao len cap, .slice ao' len cap', .int .i64 m] w fun r w' => r = .returned (.tuple #[.float .f64 F, .int .i64 0]) ∧ Below w.heap.size w w' := by
  have hm' := isM_iff.1 hm
  have HRR : Hid (∀ W A, DN W A (tDot xs ys len) → Calls Tryz.prog 46 #[A, .int .i64 m, .float .f64 0] W fun r w' => r = .returned (.float .f64 F) ∧ Below W.heap.size W w') := fun W A h => by
    obtain ⟨g1, g2, g3, g4, g5⟩ := (tDot_ok xs ys hlen).1.facts
    rw [HF.out]
    exact dR h g5 (by omega) (by omega) (by omega) hm'
  obtain ⟨b, off, hao, hc⟩ := hA
  obtain ⟨b', off', hao', hc'⟩ := hA'
  have hA : FAt w ao len xs := ⟨b, off, hao, hc⟩
  have HX : Hid (Fls xs len ∧ Fls ys len) := ⟨hx, hy⟩
  have HC : Hid ((∀ j, j < len → w.cell? ⟨b, off + j, none⟩ = some (.float .f64 (xs j))) ∧ (∀ j, j < len → w.cell? ⟨b', off' + j, none⟩ = some (.float .f64 (ys j)))) := ⟨hc, hc'⟩
  have HAO : Hid (0 < len → ao = some ⟨b, off, none⟩ ∧ ao' = some ⟨b', off', none⟩) := fun h => ⟨hao h, hao' h⟩
  clear hx hy hc hc' hao hao' hm'
  have kv := dvalid m w
  rw [hm] at kv
  have hnn : ((len : Int) != (len : Int)) = false := by simp
  have H1 : Hid _ := k1
  have H2 : Hid _ := k2
  have HAA : Hid (FAt w ao len xs) := hA
  clear k1 k2 hm
  go_enter Tryz.func24, Tryz.ntmps24
  go_wp2_with (first | (go_at_call 49; refine kv.mono ?_; rintro r w' ⟨rfl, hw⟩; rw [hw]; clear hw w') | (at_builtin; refine wpList_append_flts rfl _ _ rfl rfl rfl hA hn hsm ?_))
  intro ao2 cap2 w1 h1 h2 h3 hb1
  have HB : Hid (Below w.heap.size w w1) := hb1
  have kk := H1.out w1 hb1
  clear h1 h2 h3 hb1 hA hn kv
  go_wp2_with fail
  refine kk.mono ?_
  rintro r w' ⟨rfl, hw⟩
  rw [hw]
  clear hw kk w'
  have kk := H2.out w1 HB.out
  go_wp2_with fail
  refine kk.mono ?_
  rintro r w' ⟨rfl, hw⟩
  rw [hw]
  clear hw kk w'
  obtain ⟨V, hV⟩ : ∃ V, V = w1.alloc (.cells #[.bool false, .slice none 0 0, .int .i64 0] 50) := ⟨_, rfl⟩
  have HI : Hid (Below w.heap.size w V ∧ ∃ s ao n cap e, V.heap[w1.heap.size]? = some (.cells #[.bool s, .slice ao n cap, .int .i64 e] 50 (0, 0)) ∧ DN V (.agg #[.bool s, .slice ao n cap, .int .i64 e]) (tDot xs ys 0)) := ⟨by rw [hV]; exact HB.out.alloc HB.out.size _, _, _, _, _, _, by rw [hV]; exact heap_alloc_new _ _, dn_nought V⟩
  have hg : w.heap.size ≤ w1.heap.size := HB.out.size
  clear H1 H2 HAA HB
  go_wp2_with fail
  rw [← hV]
  clear hV
  generalize w1.heap.size = g11 at *
  go_loopw [12] (fun i wr => ∃ j : Nat, j ≤ len ∧ i = .int .i64 (j : Int) ∧ Hid (Below w.heap.size w wr ∧ ∃ s ao n cap e, wr.heap[g11]? = some (.cells #[.bool s, .slice ao n cap, .int .i64 e] 50 (0, 0)) ∧ DN wr (.agg #[.bool s, .slice ao n cap, .int .i64 e]) (tDot xs ys j))) (fun i _ => len - (intOf i).toNat)
  case atStart => exact ⟨0, by omega, rfl, HI⟩
  case round =>
    obtain ⟨j, hj, rfl, HR⟩ := hrel
    clear HI
    by_cases hlt : j < len
    · obtain ⟨rfl, rfl⟩ := HAO.out (by omega)
      obtain ⟨s1, ao1, n1, cap1, ex1, hb1, hp1⟩ := HR.out.2
      have cx : wr.cell? ⟨b, off + j, none⟩ = some (.float .f64 (xs j)) := FAt.cellAt (ao := none) HC.out.1 (j := j) (by omega) HR.out.1
      have cy : wr.cell? ⟨b', off' + j, none⟩ = some (.float .f64 (ys j)) := FAt.cellAt (ao := none) HC.out.2 (j := j) (by omega) HR.out.1
      obtain ⟨⟨a0, a1, a2⟩, -⟩ := box_cells29 hb1
      have qf : ∀ w4, Below wr.heap.size wr w4 → Calls Tryz.prog 30 #[.float .f64 (xs j)] w4 fun r w' => ∃ A, r = .returned A ∧ DN w' A (tF (xs j)) ∧ (w'.cell? ⟨g11, 0, none⟩ = some (.bool s1) ∧ w'.cell? ⟨g11, 1, none⟩ = some (.slice ao1 n1 cap1) ∧ w'.cell? ⟨g11, 2, none⟩ = some (.int .i64 ex1)) ∧ w'.cell? ⟨b', off' + j, none⟩ = some (.float .f64 (ys j)) ∧ Below wr.heap.size wr w' := fun w4 hb => (float_dn (xs j) (HX.out.1 j hlt) w4).mono fun r w' ⟨A, e1, e2, e3⟩ => ⟨A, e1, e2, (box_cells29 (box_later hb1 (hb.trans (e3.mono hb.size)) (lt_of_box hb1))).1, ((hb.trans (e3.mono hb.size)).cell (p := ⟨b', off' + j, none⟩) (World.block_lt_of_cell? _ _ cy)).trans cy, hb.trans (e3.mono hb.size)⟩
      have qg : ∀ w4 X, Below wr.heap.size wr w4 → DN w4 X (tF (xs j)) → Calls Tryz.prog 30 #[.float .f64 (ys j)] w4 fun r w' => ∃ A, r = .returned A ∧ DN w' A (tF (ys j)) ∧ DN w' X (tF (xs j)) ∧ (w'.cell? ⟨g11, 0, none⟩ = some (.bool s1) ∧ w'.cell? ⟨g11, 1, none⟩ = some (.slice ao1 n1 cap1) ∧ w'.cell? ⟨g11, 2, none⟩ = some (.int .i64 ex1)) ∧ Below wr.heap.size wr w' := fun w4 X hb hX => (float_dn (ys j) (HX.out.2 j hlt) w4).mono fun r w' ⟨A, e1, e2, e3⟩ => ⟨A, e1, e2, hX.later e3, (box_cells29 (box_later hb1 (hb.trans (e3.mono hb.size)) (lt_of_box hb1))).1, hb.trans (e3.mono hb.size)⟩
      have qt : ∀ w4 X Y, Below wr.heap.size wr w4 → DN w4 X (tF (xs j)) → DN w4 Y (tF (ys j)) → Calls Tryz.prog 56 #[X, Y] w4 fun r w' => ∃ A, r = .returned A ∧ DN w' A (tPr xs ys j) ∧ (w'.cell? ⟨g11, 0, none⟩ = some (.bool s1) ∧ w'.cell? ⟨g11, 1, none⟩ = some (.slice ao1 n1 cap1) ∧ w'.cell? ⟨g11, 2, none⟩ = some (.int .i64 ex1)) ∧ Below wr.heap.size wr w' := fun w4 X Y hb h1 h2 => (times_dn (tF_ok _) (tF_ok _) h1 h2).mono fun r w' ⟨A, e1, e2, e3⟩ => ⟨A, e1, e2, (box_cells29 (box_later hb1 (hb.trans (e3.mono hb.size)) (lt_of_box hb1))).1, hb.trans (e3.mono hb.size)⟩
      have qp : ∀ w4 Y, Below wr.heap.size wr w4 → DN w4 Y (tPr xs ys j) → Calls Tryz.prog 29 #[.agg #[.bool s1, .slice ao1 n1 cap1, .int .i64 ex1], Y] w4 fun r w' => ∃ s ao n cap e, r = .returned (.agg #[.bool s, .slice ao n cap, .int .i64 e]) ∧ DN w' (.agg #[.bool s, .slice ao n cap, .int .i64 e]) (tDot xs ys (j + 1)) ∧ Below wr.heap.size wr w' ∧ w'.heap[g11]? = some (.cells #[.bool s1, .slice ao1 n1 cap1, .int .i64 ex1] 50 (0, 0)) := fun w4 Y hb h => (plus_dn (tDot_ok xs ys (by omega)).1 (tPr_ok _ _ _) (hp1.later hb) h).mono fun r w' ⟨A, e1, e2, e3⟩ => by
        obtain ⟨s, ao, n, cap, e, rfl⟩ := e2.shape
        exact ⟨s, ao, n, cap, e, e1, e2, hb.trans (e3.mono hb.size), box_later hb1 (hb.trans (e3.mono hb.size)) (lt_of_box hb1)⟩
      have hBR : Below wr.heap.size wr wr.drew := (Below.refl _ _).drew
      have hsz : g11 < wr.heap.size := lt_of_box hb1
      have hji : (0 : Int) ≤ (j : Int) := by omega
      have hjn : (j : Int) < (len : Int) := by omega
      clear hb1 hp1
      generalize hxe : xs j = xe at cx qf qg qt
      generalize hye : ys j = ye at cy qf qg qt
      have HK : Hid (∀ w', Below w.heap.size w w' → (w'.cell? ⟨b, off + j, none⟩ = some (.float .f64 xe) ∧ w'.cell? ⟨b', off' + j, none⟩ = some (.float .f64 ye)) ∧ Below w.heap.size w w') := fun w' hb => ⟨⟨by rw [← hxe]; exact FAt.cellAt (ao := none) HC.out.1 (j := j) (by omega) hb, by rw [← hye]; exact FAt.cellAt (ao := none) HC.out.2 (j := j) (by omega) hb⟩, hb⟩
      have HW : Hid (∀ w', Below wr.heap.size wr w' → Below w.heap.size w w') := fun w' hb => HR.out.1.trans (hb.mono HR.out.1.size)
      go_upto_region 18 with fail
      refine wp_region_held_drew (S := (fun w' => (w'.cell? ⟨b, off + j, none⟩ = some (.float .f64 xe) ∧ w'.cell? ⟨b', off' + j, none⟩ = some (.float .f64 ye)) ∧ Below w.heap.size w w')) (by kernel_rfl) (HK.out _ (HW.out _ hBR)) (fun hH0 => ?_)
      refine wpAnyH_take (i := 1) (oi := { dst := some 54, op := Op.move (Operand.tmp 0), type := 22, pos := "ref.go:138", after := #[], guard := none }) (v := .slice (some ⟨b, off, none⟩) len cap) rfl (by kernel_rfl) (by kernel_rfl) (by kernel_rfl) (fun _ _ _ h => h) (.inl ⟨by rfl, (by intro w1 hSw; (try dsimp only at hSw); go_simp)⟩) (by assumption) ?_
      try simp only [Act.put, List.setIfInBounds_toArray, List.set_cons_zero, List.set_cons_succ]
      refine wpAnyH_take (i := 2) (oi := { dst := some 55, op := Op.move (Operand.tmp 12), type := 3, pos := "ref.go:138", after := #[], guard := none }) (v := .int .i64 (j : Int)) rfl (by kernel_rfl) (by kernel_rfl) (by kernel_rfl) (fun _ _ _ h => h) (.inl ⟨by rfl, (by intro w1 hSw; (try dsimp only at hSw); go_simp)⟩) (by assumption) ?_
      try simp only [Act.put, List.setIfInBounds_toArray, List.set_cons_zero, List.set_cons_succ]
      refine wpAnyH_take (i := 3) (oi := { dst := some 56, op := Op.indexAddr 22 (Operand.tmp 54) (Operand.tmp 55), type := 0, pos := "ref.go:138", after := #[{ on := 1, ground := Ground.data }, { on := 2, ground := Ground.data }], guard := none }) (v := .pointer (some ⟨b, off + j, none⟩)) rfl (by kernel_rfl) (by kernel_rfl) (by kernel_rfl) (fun _ _ _ h => h) (.inl ⟨by rfl, (by intro w1 hSw; (try dsimp only at hSw); go_simp)⟩) (by assumption) ?_
      try simp only [Act.put, List.setIfInBounds_toArray, List.set_cons_zero, List.set_cons_succ]
      refine wpAnyH_take (i := 4) (oi := { dst := some 57, op := Op.load 25 (Operand.tmp 56), type := 25, pos := "ref.go:138", after := #[{ on := 3, ground := Ground.data }], guard := none }) (v := .float .f64 xe) rfl (by kernel_rfl) (by kernel_rfl) (by kernel_rfl) (fun _ _ _ h => h) (.inl ⟨by rfl, (by intro w1 hSw; (try dsimp only at hSw); go_simp)⟩) (by assumption) ?_
      try simp only [Act.put, List.setIfInBounds_toArray, List.set_cons_zero, List.set_cons_succ]
      refine wpAnyH_take (i := 6) (oi := { dst := some 59, op := Op.move (Operand.tmp 1), type := 22, pos := "ref.go:138", after := #[], guard := none }) (v := .slice (some ⟨b', off', none⟩) len cap') rfl (by kernel_rfl) (by kernel_rfl) (by kernel_rfl) (fun _ _ _ h => h) (.inl ⟨by rfl, (by intro w1 hSw; (try dsimp only at hSw); go_simp)⟩) (by assumption) ?_
      try simp only [Act.put, List.setIfInBounds_toArray, List.set_cons_zero, List.set_cons_succ]
      refine wpAnyH_take (i := 7) (oi := { dst := some 60, op := Op.move (Operand.tmp 12), type := 3, pos := "ref.go:138", after := #[], guard := none }) (v := .int .i64 (j : Int)) rfl (by kernel_rfl) (by kernel_rfl) (by kernel_rfl) (fun _ _ _ h => h) (.inl ⟨by rfl, (by intro w1 hSw; (try dsimp only at hSw); go_simp)⟩) (by assumption) ?_
      try simp only [Act.put, List.setIfInBounds_toArray, List.set_cons_zero, List.set_cons_succ]
      refine wpAnyH_take (i := 8) (oi := { dst := some 61, op := Op.indexAddr 22 (Operand.tmp 59) (Operand.tmp 60), type := 0, pos := "ref.go:138", after := #[{ on := 6, ground := Ground.data }, { on := 7, ground := Ground.data }], guard := none }) (v := .pointer (some ⟨b', off' + j, none⟩)) rfl (by kernel_rfl) (by kernel_rfl) (by kernel_rfl) (fun _ _ _ h => h) (.inl ⟨by rfl, (by intro w1 hSw; (try dsimp only at hSw); go_simp)⟩) (by assumption) ?_
      try simp only [Act.put, List.setIfInBounds_toArray, List.set_cons_zero, List.set_cons_succ]
      refine wpAnyH_take (i := 9) (oi := { dst := some 62, op := Op.load 25 (Operand.tmp 61), type := 25, pos := "ref.go:138", after := #[{ on := 8, ground := Ground.data }], guard := none }) (v := .float .f64 ye) rfl (by kernel_rfl) (by kernel_rfl) (by kernel_rfl) (fun _ _ _ h => h) (.inl ⟨by rfl, (by intro w1 hSw; (try dsimp only at hSw); go_simp)⟩) (by assumption) ?_
      try simp only [Act.put, List.setIfInBounds_toArray, List.set_cons_zero, List.set_cons_succ]
      refine wpAnyH_ready (rs := [0, 5]) (by kernel_rfl) (by simp) ?_
      refine AllReadyH.cons (o := { dst := some 53, op := Op.load 50 (Operand.tmp 11), type := 50, pos := "ref.go:138", after := #[], guard := none }) rfl (fun K hK => ?_) (AllReadyH.cons (o := { dst := some 58, op := Op.call { callee := Callee.value (Operand.func 30), args := #[Operand.tmp 57], argTypes := #[25] }, type := 50, pos := "ref.go:138", after := #[{ on := 4, ground := Ground.data }], guard := none }) rfl (fun K hK => ?_) AllReadyH.nil)
      · skip
        go_simp
        first | (refine hK.out _ _ (HK.out _ (HW.out _ hBR)) (fun hH1 => ?_)) | (go_wp2_with fail; refine hK.out _ _ (HK.out _ (HW.out _ hBR)) (fun hH1 => ?_))
        clear hK K
        try simp only [Act.put, List.setIfInBounds_toArray, List.set_cons_zero, List.set_cons_succ]
        refine wpAnyH_ready (rs := [5]) (by kernel_rfl) (by simp) ?_
        refine AllReadyH.cons (o := { dst := some 58, op := Op.call { callee := Callee.value (Operand.func 30), args := #[Operand.tmp 57], argTypes := #[25] }, type := 50, pos := "ref.go:138", after := #[{ on := 4, ground := Ground.data }], guard := none }) rfl (fun K hK => ?_) AllReadyH.nil
        go_simp
        refine (qf _ hBR).mono ?_
        rintro r w4 ⟨A4, rfl, hP4, ⟨b0, b1, b2⟩, c5, hb4⟩
        first | (refine hK.out _ _ (HK.out _ (HW.out _ hb4)) (fun hH2 => ?_)) | (go_wp2_with fail; refine hK.out _ _ (HK.out _ (HW.out _ hb4)) (fun hH2 => ?_))
        clear hK K
        try simp only [Act.put, List.setIfInBounds_toArray, List.set_cons_zero, List.set_cons_succ]
        refine wpAnyH_ready (rs := [10]) (by kernel_rfl) (by simp) ?_
        refine AllReadyH.cons (o := { dst := some 63, op := Op.call { callee := Callee.value (Operand.func 30), args := #[Operand.tmp 62], argTypes := #[25] }, type := 50, pos := "ref.go:138", after := #[{ on := 9, ground := Ground.data }, { on := 5, ground := Ground.chain }], guard := none }) rfl (fun K hK => ?_) AllReadyH.nil
        go_simp
        refine (qg _ _ hb4 hP4).mono ?_
        rintro r w5 ⟨A5, rfl, hP5, hP4', ⟨y0, y1, y2⟩, hb5⟩
        first | (refine hK.out _ _ (HK.out _ (HW.out _ hb5)) (fun hH3 => ?_)) | (go_wp2_with fail; refine hK.out _ _ (HK.out _ (HW.out _ hb5)) (fun hH3 => ?_))
        clear hK K
        try simp only [Act.put, List.setIfInBounds_toArray, List.set_cons_zero, List.set_cons_succ]
        refine wpAnyH_ready (rs := [11]) (by kernel_rfl) (by simp) ?_
        refine AllReadyH.cons (o := { dst := some 64, op := Op.call { callee := Callee.value (Operand.func 56), args := #[Operand.tmp 58, Operand.tmp 63], argTypes := #[50, 50] }, type := 50, pos := "ref.go:138", after := #[{ on := 5, ground := Ground.data }, { on := 10, ground := Ground.data }, { on := 10, ground := Ground.chain }], guard := none }) rfl (fun K hK => ?_) AllReadyH.nil
        go_simp
        refine (qt _ _ _ hb5 hP4' hP5).mono ?_
        rintro r w7 ⟨A7, rfl, hP7, ⟨z0, z1, z2⟩, hb7⟩
        first | (refine hK.out _ _ (HK.out _ (HW.out _ hb7)) (fun hH4 => ?_)) | (go_wp2_with fail; refine hK.out _ _ (HK.out _ (HW.out _ hb7)) (fun hH4 => ?_))
        clear hK K
        try simp only [Act.put, List.setIfInBounds_toArray, List.set_cons_zero, List.set_cons_succ]
        refine wpAnyH_ready (rs := [12]) (by kernel_rfl) (by simp) ?_
        refine AllReadyH.cons (o := { dst := some 65, op := Op.call { callee := Callee.value (Operand.func 29), args := #[Operand.tmp 53, Operand.tmp 64], argTypes := #[50, 50] }, type := 50, pos := "ref.go:138", after := #[{ on := 0, ground := Ground.data }, { on := 11, ground := Ground.data }, { on := 11, ground := Ground.chain }], guard := none }) rfl (fun K hK => ?_) AllReadyH.nil
        go_simp
        refine (qp _ _ hb7 hP7).mono ?_
        rintro r w6 ⟨s6, ao6, n6, cap6, ex6, rfl, hP6, hb6, hz6⟩
        obtain ⟨⟨x0, x1, x2⟩, x3, x4, x5⟩ := box_cells29 hz6
        first | (refine hK.out _ _ (HK.out _ (HW.out _ hb6)) (fun hH5 => ?_)) | (go_wp2_with fail; refine hK.out _ _ (HK.out _ (HW.out _ hb6)) (fun hH5 => ?_))
        clear hK K
        try simp only [Act.put, List.setIfInBounds_toArray, List.set_cons_zero, List.set_cons_succ]
        refine wpAnyH_ready (rs := [13]) (by kernel_rfl) (by simp) ?_
        refine AllReadyH.cons (o := { dst := none, op := Op.store 50 (Operand.tmp 11) (Operand.tmp 65), type := 0, pos := "ref.go:138", after := #[{ on := 12, ground := Ground.data }, { on := 12, ground := Ground.chain }, { on := 0, ground := Ground.phase }, { on := 1, ground := Ground.phase }, { on := 2, ground := Ground.phase }, { on := 3, ground := Ground.phase }, { on := 4, ground := Ground.phase }, { on := 5, ground := Ground.phase }, { on := 6, ground := Ground.phase }, { on := 7, ground := Ground.phase }, { on := 8, ground := Ground.phase }, { on := 9, ground := Ground.phase }, { on := 10, ground := Ground.phase }, { on := 11, ground := Ground.phase }, { on := 12, ground := Ground.phase }], guard := none }) rfl (fun K hK => ?_) AllReadyH.nil
        go_simp
        first | (refine hK.out _ _ (HK.out _ (below_store3 (HW.out _ hb6) hg _ _ _)) (fun hH6 => ?_)) | (go_wp2_with fail; refine hK.out _ _ (HK.out _ (below_store3 (HW.out _ hb6) hg _ _ _)) (fun hH6 => ?_))
        clear hK K
        try simp only [Act.put, List.setIfInBounds_toArray, List.set_cons_zero, List.set_cons_succ]
        refine wpAnyH_done (by kernel_rfl) ?_ _
        have hbx : Below w.heap.size wr (((w6.setCell ⟨g11, 0, none⟩ (.bool s6)).setCell ⟨g11, 1, none⟩ (.slice ao6 n6 cap6)).setCell ⟨g11, 2, none⟩ (.int .i64 ex6)) := below_store3 (hb6.mono (by omega)) hg _ _ _
        have HS : Hid (Below w.heap.size w (((w6.setCell ⟨g11, 0, none⟩ (.bool s6)).setCell ⟨g11, 1, none⟩ (.slice ao6 n6 cap6)).setCell ⟨g11, 2, none⟩ (.int .i64 ex6)) ∧ ∃ s ao n cap e, (((w6.setCell ⟨g11, 0, none⟩ (.bool s6)).setCell ⟨g11, 1, none⟩ (.slice ao6 n6 cap6)).setCell ⟨g11, 2, none⟩ (.int .i64 ex6)).heap[g11]? = some (.cells #[.bool s, .slice ao n cap, .int .i64 e] 50 (0, 0)) ∧ DN (((w6.setCell ⟨g11, 0, none⟩ (.bool s6)).setCell ⟨g11, 1, none⟩ (.slice ao6 n6 cap6)).setCell ⟨g11, 2, none⟩ (.int .i64 ex6)) (.agg #[.bool s, .slice ao n cap, .int .i64 e]) (tDot xs ys (j + 1))) := ⟨HR.out.1.trans hbx, _, _, _, _, _, store3_29 _ _ _ hz6, dn_storeU hP6 hz6 _ _ _⟩
        clear hP4 hb4 hP5 hP4' hb5 hP7 hb7 hP6 hb6 hz6 qf qg qt qp hBR a0 a1 a2 b0 b1 b2 y0 y1 y2 z0 z1 z2 c5 HR hbx cx cy HK HW
        go_wp2_with fail
        go_roundw
        case rel => exact ⟨j + 1, by omega, by simp, HS⟩
        case measure => simp [intOf]; omega
      · skip
        go_simp
        refine (qf _ hBR).mono ?_
        rintro r w4 ⟨A4, rfl, hP4, ⟨b0, b1, b2⟩, c5, hb4⟩
        first | (refine hK.out _ _ (HK.out _ (HW.out _ hb4)) (fun hH7 => ?_)) | (go_wp2_with fail; refine hK.out _ _ (HK.out _ (HW.out _ hb4)) (fun hH7 => ?_))
        clear hK K
        try simp only [Act.put, List.setIfInBounds_toArray, List.set_cons_zero, List.set_cons_succ]
        refine wpAnyH_ready (rs := [0, 10]) (by kernel_rfl) (by simp) ?_
        refine AllReadyH.cons (o := { dst := some 53, op := Op.load 50 (Operand.tmp 11), type := 50, pos := "ref.go:138", after := #[], guard := none }) rfl (fun K hK => ?_) (AllReadyH.cons (o := { dst := some 63, op := Op.call { callee := Callee.value (Operand.func 30), args := #[Operand.tmp 62], argTypes := #[25] }, type := 50, pos := "ref.go:138", after := #[{ on := 9, ground := Ground.data }, { on := 5, ground := Ground.chain }], guard := none }) rfl (fun K hK => ?_) AllReadyH.nil)
        · skip
          go_simp
          first | (refine hK.out _ _ (HK.out _ (HW.out _ hb4)) (fun hH8 => ?_)) | (go_wp2_with fail; refine hK.out _ _ (HK.out _ (HW.out _ hb4)) (fun hH8 => ?_))
          clear hK K
          try simp only [Act.put, List.setIfInBounds_toArray, List.set_cons_zero, List.set_cons_succ]
          refine wpAnyH_ready (rs := [10]) (by kernel_rfl) (by simp) ?_
          refine AllReadyH.cons (o := { dst := some 63, op := Op.call { callee := Callee.value (Operand.func 30), args := #[Operand.tmp 62], argTypes := #[25] }, type := 50, pos := "ref.go:138", after := #[{ on := 9, ground := Ground.data }, { on := 5, ground := Ground.chain }], guard := none }) rfl (fun K hK => ?_) AllReadyH.nil
          go_simp
          refine (qg _ _ hb4 hP4).mono ?_
          rintro r w5 ⟨A5, rfl, hP5, hP4', ⟨y0, y1, y2⟩, hb5⟩
          first | (refine hK.out _ _ (HK.out _ (HW.out _ hb5)) (fun hH9 => ?_)) | (go_wp2_with fail; refine hK.out _ _ (HK.out _ (HW.out _ hb5)) (fun hH9 => ?_))
          clear hK K
          try simp only [Act.put, List.setIfInBounds_toArray, List.set_cons_zero, List.set_cons_succ]
          refine wpAnyH_ready (rs := [11]) (by kernel_rfl) (by simp) ?_
          refine AllReadyH.cons (o := { dst := some 64, op := Op.call { callee := Callee.value (Operand.func 56), args := #[Operand.tmp 58, Operand.tmp 63], argTypes := #[50, 50] }, type := 50, pos := "ref.go:138", after := #[{ on := 5, ground := Ground.data }, { on := 10, ground := Ground.data }, { on := 10, ground := Ground.chain }], guard := none }) rfl (fun K hK => ?_) AllReadyH.nil
          go_simp
          refine (qt _ _ _ hb5 hP4' hP5).mono ?_
          rintro r w7 ⟨A7, rfl, hP7, ⟨z0, z1, z2⟩, hb7⟩
          first | (refine hK.out _ _ (HK.out _ (HW.out _ hb7)) (fun hH10 => ?_)) | (go_wp2_with fail; refine hK.out _ _ (HK.out _ (HW.out _ hb7)) (fun hH10 => ?_))
          clear hK K
          try simp only [Act.put, List.setIfInBounds_toArray, List.set_cons_zero, List.set_cons_succ]
          refine wpAnyH_ready (rs := [12]) (by kernel_rfl) (by simp) ?_
          refine AllReadyH.cons (o := { dst := some 65, op := Op.call { callee := Callee.value (Operand.func 29), args := #[Operand.tmp 53, Operand.tmp 64], argTypes := #[50, 50] }, type := 50, pos := "ref.go:138", after := #[{ on := 0, ground := Ground.data }, { on := 11, ground := Ground.data }, { on := 11, ground := Ground.chain }], guard := none }) rfl (fun K hK => ?_) AllReadyH.nil
          go_simp
          refine (qp _ _ hb7 hP7).mono ?_
          rintro r w6 ⟨s6, ao6, n6, cap6, ex6, rfl, hP6, hb6, hz6⟩
          obtain ⟨⟨x0, x1, x2⟩, x3, x4, x5⟩ := box_cells29 hz6
          first | (refine hK.out _ _ (HK.out _ (HW.out _ hb6)) (fun hH11 => ?_)) | (go_wp2_with fail; refine hK.out _ _ (HK.out _ (HW.out _ hb6)) (fun hH11 => ?_))
          clear hK K
          try simp only [Act.put, List.setIfInBounds_toArray, List.set_cons_zero, List.set_cons_succ]
          refine wpAnyH_ready (rs := [13]) (by kernel_rfl) (by simp) ?_
          refine AllReadyH.cons (o := { dst := none, op := Op.store 50 (Operand.tmp 11) (Operand.tmp 65), type := 0, pos := "ref.go:138", after := #[{ on := 12, ground := Ground.data }, { on := 12, ground := Ground.chain }, { on := 0, ground := Ground.phase }, { on := 1, ground := Ground.phase }, { on := 2, ground := Ground.phase }, { on := 3, ground := Ground.phase }, { on := 4, ground := Ground.phase }, { on := 5, ground := Ground.phase }, { on := 6, ground := Ground.phase }, { on := 7, ground := Ground.phase }, { on := 8, ground := Ground.phase }, { on := 9, ground := Ground.phase }, { on := 10, ground := Ground.phase }, { on := 11, ground := Ground.phase }, { on := 12, ground := Ground.phase }], guard := none }) rfl (fun K hK => ?_) AllReadyH.nil
          go_simp
          first | (refine hK.out _ _ (HK.out _ (below_store3 (HW.out _ hb6) hg _ _ _)) (fun hH12 => ?_)) | (go_wp2_with fail; refine hK.out _ _ (HK.out _ (below_store3 (HW.out _ hb6) hg _ _ _)) (fun hH12 => ?_))
          clear hK K
          try simp only [Act.put, List.setIfInBounds_toArray, List.set_cons_zero, List.set_cons_succ]
          refine wpAnyH_done (by kernel_rfl) ?_ _
          have hbx : Below w.heap.size wr (((w6.setCell ⟨g11, 0, none⟩ (.bool s6)).setCell ⟨g11, 1, none⟩ (.slice ao6 n6 cap6)).setCell ⟨g11, 2, none⟩ (.int .i64 ex6)) := below_store3 (hb6.mono (by omega)) hg _ _ _
          have HS : Hid (Below w.heap.size w (((w6.setCell ⟨g11, 0, none⟩ (.bool s6)).setCell ⟨g11, 1, none⟩ (.slice ao6 n6 cap6)).setCell ⟨g11, 2, none⟩ (.int .i64 ex6)) ∧ ∃ s ao n cap e, (((w6.setCell ⟨g11, 0, none⟩ (.bool s6)).setCell ⟨g11, 1, none⟩ (.slice ao6 n6 cap6)).setCell ⟨g11, 2, none⟩ (.int .i64 ex6)).heap[g11]? = some (.cells #[.bool s, .slice ao n cap, .int .i64 e] 50 (0, 0)) ∧ DN (((w6.setCell ⟨g11, 0, none⟩ (.bool s6)).setCell ⟨g11, 1, none⟩ (.slice ao6 n6 cap6)).setCell ⟨g11, 2, none⟩ (.int .i64 ex6)) (.agg #[.bool s, .slice ao n cap, .int .i64 e]) (tDot xs ys (j + 1))) := ⟨HR.out.1.trans hbx, _, _, _, _, _, store3_29 _ _ _ hz6, dn_storeU hP6 hz6 _ _ _⟩
          clear hP4 hb4 hP5 hP4' hb5 hP7 hb7 hP6 hb6 hz6 qf qg qt qp hBR a0 a1 a2 b0 b1 b2 y0 y1 y2 z0 z1 z2 c5 HR hbx cx cy HK HW
          go_wp2_with fail
          go_roundw
          case rel => exact ⟨j + 1, by omega, by simp, HS⟩
          case measure => simp [intOf]; omega
        · skip
          go_simp
          refine (qg _ _ hb4 hP4).mono ?_
          rintro r w5 ⟨A5, rfl, hP5, hP4', ⟨y0, y1, y2⟩, hb5⟩
          first | (refine hK.out _ _ (HK.out _ (HW.out _ hb5)) (fun hH13 => ?_)) | (go_wp2_with fail; refine hK.out _ _ (HK.out _ (HW.out _ hb5)) (fun hH13 => ?_))
          clear hK K
          try simp only [Act.put, List.setIfInBounds_toArray, List.set_cons_zero, List.set_cons_succ]
          refine wpAnyH_ready (rs := [0, 11]) (by kernel_rfl) (by simp) ?_
          refine AllReadyH.cons (o := { dst := some 53, op := Op.load 50 (Operand.tmp 11), type := 50, pos := "ref.go:138", after := #[], guard := none }) rfl (fun K hK => ?_) (AllReadyH.cons (o := { dst := some 64, op := Op.call { callee := Callee.value (Operand.func 56), args := #[Operand.tmp 58, Operand.tmp 63], argTypes := #[50, 50] }, type := 50, pos := "ref.go:138", after := #[{ on := 5, ground := Ground.data }, { on := 10, ground := Ground.data }, { on := 10, ground := Ground.chain }], guard := none }) rfl (fun K hK => ?_) AllReadyH.nil)
          · skip
            go_simp
            first | (refine hK.out _ _ (HK.out _ (HW.out _ hb5)) (fun hH14 => ?_)) | (go_wp2_with fail; refine hK.out _ _ (HK.out _ (HW.out _ hb5)) (fun hH14 => ?_))
            clear hK K
            try simp only [Act.put, List.setIfInBounds_toArray, List.set_cons_zero, List.set_cons_succ]
            refine wpAnyH_ready (rs := [11]) (by kernel_rfl) (by simp) ?_
            refine AllReadyH.cons (o := { dst := some 64, op := Op.call { callee := Callee.value (Operand.func 56), args := #[Operand.tmp 58, Operand.tmp 63], argTypes := #[50, 50] }, type := 50, pos := "ref.go:138", after := #[{ on := 5, ground := Ground.data }, { on := 10, ground := Ground.data }, { on := 10, ground := Ground.chain }], guard := none }) rfl (fun K hK => ?_) AllReadyH.nil
            go_simp
            refine (qt _ _ _ hb5 hP4' hP5).mono ?_
            rintro r w7 ⟨A7, rfl, hP7, ⟨z0, z1, z2⟩, hb7⟩
            first | (refine hK.out _ _ (HK.out _ (HW.out _ hb7)) (fun hH15 => ?_)) | (go_wp2_with fail; refine hK.out _ _ (HK.out _ (HW.out _ hb7)) (fun hH15 => ?_))
            clear hK K
            try simp only [Act.put, List.setIfInBounds_toArray, List.set_cons_zero, List.set_cons_succ]
            refine wpAnyH_ready (rs := [12]) (by kernel_rfl) (by simp) ?_
            refine AllReadyH.cons (o := { dst := some 65, op := Op.call { callee := Callee.value (Operand.func 29), args := #[Operand.tmp 53, Operand.tmp 64], argTypes := #[50, 50] }, type := 50, pos := "ref.go:138", after := #[{ on := 0, ground := Ground.data }, { on := 11, ground := Ground.data }, { on := 11, ground := Ground.chain }], guard := none }) rfl (fun K hK => ?_) AllReadyH.nil
            go_simp
            refine (qp _ _ hb7 hP7).mono ?_
            rintro r w6 ⟨s6, ao6, n6, cap6, ex6, rfl, hP6, hb6, hz6⟩
            obtain ⟨⟨x0, x1, x2⟩, x3, x4, x5⟩ := box_cells29 hz6
            first | (refine hK.out _ _ (HK.out _ (HW.out _ hb6)) (fun hH16 => ?_)) | (go_wp2_with fail; refine hK.out _ _ (HK.out _ (HW.out _ hb6)) (fun hH16 => ?_))
            clear hK K
            try simp only [Act.put, List.setIfInBounds_toArray, List.set_cons_zero, List.set_cons_succ]
            refine wpAnyH_ready (rs := [13]) (by kernel_rfl) (by simp) ?_
            refine AllReadyH.cons (o := { dst := none, op := Op.store 50 (Operand.tmp 11) (Operand.tmp 65), type := 0, pos := "ref.go:138", after := #[{ on := 12, ground := Ground.data }, { on := 12, ground := Ground.chain }, { on := 0, ground := Ground.phase }, { on := 1, ground := Ground.phase }, { on := 2, ground := Ground.phase }, { on := 3, ground := Ground.phase }, { on := 4, ground := Ground.phase }, { on := 5, ground := Ground.phase }, { on := 6, ground := Ground.phase }, { on := 7, ground := Ground.phase }, { on := 8, ground := Ground.phase }, { on := 9, ground := Ground.phase }, { on := 10, ground := Ground.phase }, { on := 11, ground := Ground.phase }, { on := 12, ground := Ground.phase }], guard := none }) rfl (fun K hK => ?_) AllReadyH.nil
            go_simp
            first | (refine hK.out _ _ (HK.out _ (below_store3 (HW.out _ hb6) hg _ _ _)) (fun hH17 => ?_)) | (go_wp2_with fail; refine hK.out _ _ (HK.out _ (below_store3 (HW.out _ hb6) hg _ _ _)) (fun hH17 => ?_))
            clear hK K
            try simp only [Act.put, List.setIfInBounds_toArray, List.set_cons_zero, List.set_cons_succ]
            refine wpAnyH_done (by kernel_rfl) ?_ _
            have hbx : Below w.heap.size wr (((w6.setCell ⟨g11, 0, none⟩ (.bool s6)).setCell ⟨g11, 1, none⟩ (.slice ao6 n6 cap6)).setCell ⟨g11, 2, none⟩ (.int .i64 ex6)) := below_store3 (hb6.mono (by omega)) hg _ _ _
            have HS : Hid (Below w.heap.size w (((w6.setCell ⟨g11, 0, none⟩ (.bool s6)).setCell ⟨g11, 1, none⟩ (.slice ao6 n6 cap6)).setCell ⟨g11, 2, none⟩ (.int .i64 ex6)) ∧ ∃ s ao n cap e, (((w6.setCell ⟨g11, 0, none⟩ (.bool s6)).setCell ⟨g11, 1, none⟩ (.slice ao6 n6 cap6)).setCell ⟨g11, 2, none⟩ (.int .i64 ex6)).heap[g11]? = some (.cells #[.bool s, .slice ao n cap, .int .i64 e] 50 (0, 0)) ∧ DN (((w6.setCell ⟨g11, 0, none⟩ (.bool s6)).setCell ⟨g11, 1, none⟩ (.slice ao6 n6 cap6)).setCell ⟨g11, 2, none⟩ (.int .i64 ex6)) (.agg #[.bool s, .slice ao n cap, .int .i64 e]) (tDot xs ys (j + 1))) := ⟨HR.out.1.trans hbx, _, _, _, _, _, store3_29 _ _ _ hz6, dn_storeU hP6 hz6 _ _ _⟩
            clear hP4 hb4 hP5 hP4' hb5 hP7 hb7 hP6 hb6 hz6 qf qg qt qp hBR a0 a1 a2 b0 b1 b2 y0 y1 y2 z0 z1 z2 c5 HR hbx cx cy HK HW
            go_wp2_with fail
            go_roundw
            case rel => exact ⟨j + 1, by omega, by simp, HS⟩
            case measure => simp [intOf]; omega
          · skip
            go_simp
            refine (qt _ _ _ hb5 hP4' hP5).mono ?_
            rintro r w7 ⟨A7, rfl, hP7, ⟨z0, z1, z2⟩, hb7⟩
            first | (refine hK.out _ _ (HK.out _ (HW.out _ hb7)) (fun hH18 => ?_)) | (go_wp2_with fail; refine hK.out _ _ (HK.out _ (HW.out _ hb7)) (fun hH18 => ?_))
            clear hK K
            try simp only [Act.put, List.setIfInBounds_toArray, List.set_cons_zero, List.set_cons_succ]
            refine wpAnyH_ready (rs := [0]) (by kernel_rfl) (by simp) ?_
            refine AllReadyH.cons (o := { dst := some 53, op := Op.load 50 (Operand.tmp 11), type := 50, pos := "ref.go:138", after := #[], guard := none }) rfl (fun K hK => ?_) AllReadyH.nil
            go_simp
            first | (refine hK.out _ _ (HK.out _ (HW.out _ hb7)) (fun hH19 => ?_)) | (go_wp2_with fail; refine hK.out _ _ (HK.out _ (HW.out _ hb7)) (fun hH19 => ?_))
            clear hK K
            try simp only [Act.put, List.setIfInBounds_toArray, List.set_cons_zero, List.set_cons_succ]
            refine wpAnyH_ready (rs := [12]) (by kernel_rfl) (by simp) ?_
            refine AllReadyH.cons (o := { dst := some 65, op := Op.call { callee := Callee.value (Operand.func 29), args := #[Operand.tmp 53, Operand.tmp 64], argTypes := #[50, 50] }, type := 50, pos := "ref.go:138", after := #[{ on := 0, ground := Ground.data }, { on := 11, ground := Ground.data }, { on := 11, ground := Ground.chain }], guard := none }) rfl (fun K hK => ?_) AllReadyH.nil
            go_simp
            refine (qp _ _ hb7 hP7).mono ?_
            rintro r w6 ⟨s6, ao6, n6, cap6, ex6, rfl, hP6, hb6, hz6⟩
            obtain ⟨⟨x0, x1, x2⟩, x3, x4, x5⟩ := box_cells29 hz6
            first | (refine hK.out _ _ (HK.out _ (HW.out _ hb6)) (fun hH20 => ?_)) | (go_wp2_with fail; refine hK.out _ _ (HK.out _ (HW.out _ hb6)) (fun hH20 => ?_))
            clear hK K
            try simp only [Act.put, List.setIfInBounds_toArray, List.set_cons_zero, List.set_cons_succ]
            refine wpAnyH_ready (rs := [13]) (by kernel_rfl) (by simp) ?_
            refine AllReadyH.cons (o := { dst := none, op := Op.store 50 (Operand.tmp 11) (Operand.tmp 65), type := 0, pos := "ref.go:138", after := #[{ on := 12, ground := Ground.data }, { on := 12, ground := Ground.chain }, { on := 0, ground := Ground.phase }, { on := 1, ground := Ground.phase }, { on := 2, ground := Ground.phase }, { on := 3, ground := Ground.phase }, { on := 4, ground := Ground.phase }, { on := 5, ground := Ground.phase }, { on := 6, ground := Ground.phase }, { on := 7, ground := Ground.phase }, { on := 8, ground := Ground.phase }, { on := 9, ground := Ground.phase }, { on := 10, ground := Ground.phase }, { on := 11, ground := Ground.phase }, { on := 12, ground := Ground.phase }], guard := none }) rfl (fun K hK => ?_) AllReadyH.nil
            go_simp
            first | (refine hK.out _ _ (HK.out _ (below_store3 (HW.out _ hb6) hg _ _ _)) (fun hH21 => ?_)) | (go_wp2_with fail; refine hK.out _ _ (HK.out _ (below_store3 (HW.out _ hb6) hg _ _ _)) (fun hH21 => ?_))
            clear hK K
            try simp only [Act.put, List.setIfInBounds_toArray, List.set_cons_zero, List.set_cons_succ]
            refine wpAnyH_done (by kernel_rfl) ?_ _
            have hbx : Below w.heap.size wr (((w6.setCell ⟨g11, 0, none⟩ (.bool s6)).setCell ⟨g11, 1, none⟩ (.slice ao6 n6 cap6)).setCell ⟨g11, 2, none⟩ (.int .i64 ex6)) := below_store3 (hb6.mono (by omega)) hg _ _ _
            have HS : Hid (Below w.heap.size w (((w6.setCell ⟨g11, 0, none⟩ (.bool s6)).setCell ⟨g11, 1, none⟩ (.slice ao6 n6 cap6)).setCell ⟨g11, 2, none⟩ (.int .i64 ex6)) ∧ ∃ s ao n cap e, (((w6.setCell ⟨g11, 0, none⟩ (.bool s6)).setCell ⟨g11, 1, none⟩ (.slice ao6 n6 cap6)).setCell ⟨g11, 2, none⟩ (.int .i64 ex6)).heap[g11]? = some (.cells #[.bool s, .slice ao n cap, .int .i64 e] 50 (0, 0)) ∧ DN (((w6.setCell ⟨g11, 0, none⟩ (.bool s6)).setCell ⟨g11, 1, none⟩ (.slice ao6 n6 cap6)).setCell ⟨g11, 2, none⟩ (.int .i64 ex6)) (.agg #[.bool s, .slice ao n cap, .int .i64 e]) (tDot xs ys (j + 1))) := ⟨HR.out.1.trans hbx, _, _, _, _, _, store3_29 _ _ _ hz6, dn_storeU hP6 hz6 _ _ _⟩
            clear hP4 hb4 hP5 hP4' hb5 hP7 hb7 hP6 hb6 hz6 qf qg qt qp hBR a0 a1 a2 b0 b1 b2 y0 y1 y2 z0 z1 z2 c5 HR hbx cx cy HK HW
            go_wp2_with fail
            go_roundw
            case rel => exact ⟨j + 1, by omega, by simp, HS⟩
            case measure => simp [intOf]; omega
    · obtain rfl : j = len := by omega
      obtain ⟨s1, ao1, n1, cap1, ex1, hb1, hp1⟩ := HR.out.2
      obtain ⟨⟨a0, a1, a2⟩, -⟩ := box_cells29 hb1
      have kr := HRR.out wr _ hp1
      clear hb1 hp1
      go_wp2_with fail
      refine kr.mono ?_
      rintro r w3 ⟨rfl, hb3⟩
      have HE : Hid (Below w.heap.size w w3) := HR.out.1.trans (hb3.mono HR.out.1.size)
      clear kr hb3
      go_wp2_with fail
      refine bodyPost_ret (results_tmp2 rfl _ _ _) rfl ?_
      exact ⟨rfl, HE.out⟩
end Go.Proofs.YthkgklkhlcbmaaaGreatDoor
namespace Go.Proofs.YthkgklkhlcbmaaaGreatDoor
set_option linter.unusedVariables false
set_option linter.unusedSimpArgs false
open Go Go.RowKit Go.Fl64
def dotR (xs ys : Nat → Nat) (len : Nat) (m : Int) : Nat := tfF (tDot xs ys len).1 true (tDot xs ys len).2.1 (tDot xs ys len).2.2 m
def dotF (xs ys : Nat → Nat) (len len' : Nat) (m : Int) : Nat := if isM m = false ∨ len ≠ len' then 0 else if chk2 xs ys len = 0 then dotR xs ys len m else 0
def dotE (xs ys : Nat → Nat) (len len' : Nat) (m : Int) : Int := if isM m = false ∨ len ≠ len' then 1 else chk2 xs ys len
theorem dotF_lt (xs ys : Nat → Nat) (len len' : Nat) (m : Int) : dotF xs ys len len' m < 18446744073709551616 := by
  unfold dotF
  by_cases h : isM m = false ∨ len ≠ len'
  · rw [if_pos h]; omega
  · rw [if_neg h]
    split
    · have hm : isM m = true := by cases hm : isM m; exact absurd (.inl hm) h; rfl
      exact tfF_lt (isM_iff.1 hm)
    · omega
theorem chk2_zero {xs ys : Nat → Nat} {len : Nat} (h : chk2 xs ys len = 0) : chk1 xs len = 0 ∧ chk1 ys len = 0 := by
  unfold chk2 at h
  by_cases h1 : 65536 < len
  · rw [if_pos h1] at h; omega
  · rw [if_neg h1] at h
    cases h2 : anyP (fun i => isNaN (ys i)) len
    · rw [h2, if_neg (by decide)] at h
      by_cases h3 : chk1 xs len = 0
      · rw [if_pos h3] at h
        cases h4 : anyP (fun i => !fin (ys i)) len
        · refine ⟨h3, ?_⟩
          unfold chk1
          rw [if_neg h1, h2, h4]; rfl
        · rw [h4, if_pos rfl] at h; omega
      · rw [if_neg h3] at h; exact absurd h h3
    · rw [h2, if_pos rfl] at h; omega
theorem uDot (ao ao' : Option Addr) (len cap len' cap' : Nat) (xs ys : Nat → Nat) (m : Int) (w : World) (hT : Tab32 w) (hI : Ie.Tab w) (hl : FAt w ao len xs) (hl' : FAt w ao' len' ys) (hx : Fls xs len) (hy : Fls ys len') (hlen : len ≤ 17592186043904) :
    Calls Tryz.prog 23 #[.slice ao len cap, .slice ao' len' cap', .int .i64 m] w fun r w' => r = .returned (.tuple #[.float .f64 (dotF xs ys len len' m), .int .i64 (dotE xs ys len len' m)]) ∧ Below w.heap.size w w' := by
  unfold dotF dotE
  by_cases hne : len = len'
  · subst hne
    cases hm : isM m
    · rw [if_pos (.inl rfl), if_pos (.inl rfl)]
      exact udot_err ao ao' len cap cap' m 1 w rfl fun W g hb _ _ => (uchecked_no m _ W hm).mono fun r w' ⟨e1, e2⟩ => ⟨e1, by rw [e2]; exact Below.refl _ _⟩
    · have hno : ¬ (true = false ∨ len ≠ len) := by simp
      rw [if_neg hno, if_neg hno]
      have kc : ∀ W g, Below w.heap.size w W → W.cell? ⟨g, 0, none⟩ = some (.slice ao len cap) → W.cell? ⟨g, 1, none⟩ = some (.slice ao' len cap') → Calls Tryz.prog 47 #[.int .i64 m, .slice (some ⟨g, 0, none⟩) 2 2] W fun r w' => r = .returned (.int .i64 (chk2 xs ys len)) ∧ Below W.heap.size W w' := fun W g hb h1 h2 => uchecked2 m g ao ao' len cap cap' xs ys W hm h1 h2 (hl.later hb) (hl'.later hb) hx hy (by omega)
      by_cases hz : chk2 xs ys len = 0
      · rw [if_pos hz]
        obtain ⟨z1, z2⟩ := chk2_zero hz
        obtain ⟨g1, g2⟩ := chk1_zero z1
        obtain ⟨-, g3⟩ := chk1_zero z2
        rw [hz] at kc ⊢
        refine udot_ok ao ao' len cap cap' (dotR xs ys len m) m (tDot xs ys len) w kc (fun W B1 B2 hb h1 h2 => ?_) (fun W A hb hA => urounded (hT.later hb) (tDot_ok xs ys g1).1 hA (isM_iff.1 hm))
        exact total_gen 90 #[.pointer (some ⟨B1, 0, none⟩), .pointer (some ⟨B2, 0, none⟩)] len (tDot xs ys) (tPr xs ys) W rfl (fun k hk => tDot_add xs ys (by omega)) (hT.later hb) (enters_of Tryz.func90 (by kernel_rfl) rfl)
          (fun l J W' hbW hJb hY h0 => products1_in 2 l B1 B2 len cap cap' ao ao' xs ys W W' J (by omega) (fun i hi => ⟨hx i hi, g2 i hi⟩) (fun i hi => ⟨hy i hi, g3 i hi⟩) (tPr xs ys) (fun k hk => tPr_mul xs ys k) (hT.later hb) (Tab.later hI hb) (hl.later hb) (hl'.later hb) hJb hY hbW h1 h2 h0)
      · rw [if_neg hz]
        exact udot_err ao ao' len cap cap' m _ w (beq_eq_false_iff_ne.2 hz) kc
  · rw [if_pos (.inr hne), if_pos (.inr hne)]
    exact udot_len ao ao' len cap len' cap' m w hne
theorem dDot (ao ao' : Option Addr) (len cap len' cap' : Nat) (xs ys : Nat → Nat) (m : Int) (w : World) (hl : FAt w ao len xs) (hl' : FAt w ao' len' ys) (hx : Fls xs len) (hy : Fls ys len') (hn : len = 0 → (∃ ad, ao = some ad) ∨ (ao = none ∧ cap = 0)) (hlen : len ≤ 17592186043904) :
    Calls Tryz.prog 24 #[.slice ao len cap, .slice ao' len' cap', .int .i64 m] w fun r w' => r = .returned (.tuple #[.float .f64 (dotF xs ys len len' m), .int .i64 (dotE xs ys len len' m)]) ∧ Below w.heap.size w w' := by
  unfold dotF dotE
  by_cases hne : isM m = false ∨ len ≠ len'
  · rw [if_pos hne, if_pos hne]
    exact ddot_no ao ao' len len' cap cap' m w hne
  · rw [if_neg hne, if_neg hne]
    have hm : isM m = true := by cases hm : isM m; exact absurd (.inl hm) hne; rfl
    obtain rfl : len = len' := Decidable.byContradiction fun h => hne (.inr h)
    have k1 : ∀ W, Below w.heap.size w W → Calls Tryz.prog 50 #[.slice ao len cap] W fun r w' => r = .returned (.int .i64 (chk1 xs len)) ∧ w' = W := fun W hb => dfault ao len cap xs W (hl.later hb) hx (by omega)
    have k2 : ∀ W, Below w.heap.size w W → Calls Tryz.prog 50 #[.slice ao' len cap'] W fun r w' => r = .returned (.int .i64 (chk1 ys len)) ∧ w' = W := fun W hb => dfault ao' len cap' ys W (hl'.later hb) hy (by omega)
    have c1 : chk1 xs len = 0 ∨ chk1 xs len = 2 ∨ chk1 xs len = 4 ∨ chk1 xs len = 5 := by unfold chk1; split; exact .inr (.inl rfl); split; exact .inr (.inr (.inl rfl)); split; exact .inr (.inr (.inr rfl)); exact .inl rfl
    by_cases h1 : 65536 < len
    · have e1 : chk1 xs len = 2 := if_pos h1
      have e2 : chk2 xs ys len = 2 := if_pos h1
      rw [e2, if_neg (by decide)]
      exact ddot_2 ao ao' len cap cap' xs m _ _ w hm hl hn hlen k1 k2 e1
    · have n1 : chk1 xs len ≠ 2 := by
        unfold chk1; rw [if_neg h1]; split; decide; split <;> decide
      have b1 : (chk1 xs len != 2) = true := by simpa using n1
      cases hy2 : anyP (fun i => isNaN (ys i)) len
      · have f4 : chk1 ys len ≠ 4 := by
          unfold chk1; rw [if_neg h1, hy2, if_neg (by decide)]; split <;> decide
        have ce : chk2 xs ys len = if chk1 xs len = 0 then (if anyP (fun i => !fin (ys i)) len then 5 else 0) else chk1 xs len := by unfold chk2; rw [if_neg h1, hy2, if_neg (by decide)]
        have fe : chk1 ys len = if anyP (fun i => !fin (ys i)) len then 5 else 0 := by unfold chk1; rw [if_neg h1, hy2, if_neg (by decide)]
        by_cases e4 : chk1 xs len = 4
        · have e2 : chk2 xs ys len = 4 := by rw [ce, e4]; rfl
          rw [e2, if_neg (by decide)]
          exact ddot_4a ao ao' len cap cap' xs m _ _ w hm hl hn hlen k1 k2 e4
        · have b4 : (chk1 xs len == 4) = false := beq_eq_false_iff_ne.2 e4
          have b5 : (chk1 ys len == 4) = false := beq_eq_false_iff_ne.2 f4
          by_cases f0 : chk1 ys len = 0
          · have hi : anyP (fun i => !fin (ys i)) len = false := by
              cases hi : anyP (fun i => !fin (ys i)) len
              · rfl
              · rw [fe, hi, if_pos rfl] at f0; omega
            have e2 : chk2 xs ys len = chk1 xs len := by
              rw [ce, hi]
              by_cases h0 : chk1 xs len = 0
              · rw [if_pos h0, h0]; rfl
              · rw [if_neg h0]
            rw [e2]
            by_cases h0 : chk1 xs len = 0
            · rw [if_pos h0]
              obtain ⟨g1, -⟩ := chk1_zero h0
              rw [h0] at k1 ⊢
              rw [f0] at k2
              refine ddot_ok ao ao' len cap cap' (dotR xs ys len m) xs ys m w hm hl hl' hx hy hn hlen g1 ?_ k1 k2
              show dotR xs ys len m = _
              unfold dotR
              by_cases hz : (tDot xs ys len).2.1 = 0
              · rw [if_pos hz]
                obtain ⟨-, -, -, q4, -⟩ := (tDot_ok xs ys g1).1.facts
                rw [q4 hz]
                exact utf_zero hm
              · rw [if_neg hz]
            · rw [if_neg h0]
              exact ddot_c ao ao' len cap cap' xs m _ _ w hm hl hn hlen k1 k2 b1 b4 f0 (by simpa using h0)
          · have f5 : chk1 ys len = 5 := by
              rw [fe] at f0 ⊢
              cases hi : anyP (fun i => !fin (ys i)) len
              · rw [hi] at f0; exact absurd rfl f0
              · rfl
            have hi : anyP (fun i => !fin (ys i)) len = true := by
              cases hi : anyP (fun i => !fin (ys i)) len
              · rw [fe, hi] at f5; exact absurd f5 (by decide)
              · rfl
            have e2 : chk2 xs ys len = chk1 ys len := by
              rw [ce, hi, f5]
              rcases c1 with h | h | h | h
              · rw [if_pos h]; rfl
              · exact absurd h n1
              · exact absurd h e4
              · rw [h]; rfl
            rw [e2, if_neg f0]
            exact ddot_f ao ao' len cap cap' xs m _ _ w hm hl hn hlen k1 k2 b1 b4 b5 (by simpa using f0)
      · have f4 : chk1 ys len = 4 := by unfold chk1; rw [if_neg h1, hy2]; rfl
        have e2 : chk2 xs ys len = 4 := by unfold chk2; rw [if_neg h1, hy2]; rfl
        rw [e2, if_neg (by decide)]
        by_cases e4 : chk1 xs len = 4
        · exact ddot_4a ao ao' len cap cap' xs m _ _ w hm hl hn hlen k1 k2 e4
        · exact ddot_4b ao ao' len cap cap' xs m _ _ w hm hl hn hlen k1 k2 b1 (beq_eq_false_iff_ne.2 e4) f4
set_option maxRecDepth 200000 in
theorem sumsDots_ok (ao : Option Addr) (len cap : Nat) (xs : Nat → Nat) (ao' : Option Addr) (len' cap' : Nat) (ys : Nat → Nat) (m : Int) (w : World) (hl : FAt w ao len xs) (hx : Fls xs len) (hn : len = 0 → (∃ ad, ao = some ad) ∨ (ao = none ∧ cap = 0)) (h1 : len ≤ cap) (h2 : cap ≤ 17592186043904) (hl' : FAt w ao' len' ys) (hy : Fls ys len') (hn' : len' = 0 → (∃ ad, ao' = some ad) ∨ (ao' = none ∧ cap' = 0)) (h1' : len' ≤ cap') (h2' : cap' ≤ 17592186043904) (hm : (Lit.int .i64 m).wf = true) (hT : Tab32 w) (hI : Ie.Tab w) :
    Calls Tryz.prog 6 #[.slice ao len cap, .slice ao' len' cap', .int .i64 m] w fun r w' => r = .returned (.bool true) ∧ Below w.heap.size w w' := by
  have HX : Hid (dotF xs ys len len' m < 18446744073709551616) := dotF_lt xs ys len len' m
  have HT : Hid (∀ W, Below w.heap.size w W → Tab32 W ∧ Ie.Tab W) := fun W h => ⟨hT.later h, Tab.later hI h⟩
  have kk := uDot ao ao' len cap len' cap' xs ys m w hT hI hl hl' hx hy (by omega)
  have HD : Hid (∀ W, Below w.heap.size w W → Calls Tryz.prog 24 #[.slice ao len cap, .slice ao' len' cap', .int .i64 m] W fun r w' => r = .returned (.tuple #[.float .f64 (dotF xs ys len len' m), .int .i64 (dotE xs ys len len' m)]) ∧ Below W.heap.size W w') := fun W hb => dDot ao ao' len cap len' cap' xs ys m W (hl.later hb) (hl'.later hb) hx hy hn (by omega)
  clear hx hy hT hI hl hl' hn hn' hm
  generalize dotF xs ys len len' m = X at *
  generalize dotE xs ys len len' m = E at *
  go_enter Tryz.func6, Tryz.ntmps6
  go_wp2_with fail
  refine kk.mono ?_
  rintro r w1 ⟨rfl, hb1⟩
  have HB1 : Hid (Below w.heap.size w w1) := hb1
  clear kk hb1
  have kk := HD.out w1 HB1.out
  go_wp2_with fail
  refine kk.mono ?_
  rintro r w2 ⟨rfl, hb2⟩
  have HB2 : Hid (Below w.heap.size w w2) := HB1.out.trans (hb2.mono HB1.out.size)
  clear kk hb2 HD HB1
  have kk := lsame5 (lk.refl HX.out) HX.out w2
  go_wp2_with fail
  refine kk.mono ?_
  rintro r w' ⟨rfl, hw⟩
  rw [hw]
  clear hw kk w'
  have kk := sure5_ok w2 (HT.out _ HB2.out).1 (HT.out _ HB2.out).2
  have hee : (E == E) = true := beq_self_eq_true E
  go_wp2_with fail
  refine kk.mono ?_
  rintro r w3 ⟨rfl, hb3⟩
  have HB3 : Hid (Below w.heap.size w w3) := HB2.out.trans (hb3.mono HB2.out.size)
  clear kk hb3 HB2
  go_wp2_with fail
  go_ret
  exact ⟨rfl, HB3.out⟩
end Go.Proofs.YthkgklkhlcbmaaaGreatDoor
