/- Own work: contracts of the program's functions, part 10: UF3. -/
import Derived.Test.YthkgklkhlcbmaabDoorA9
import Derived.Deep.RegionHeld3

set_option maxHeartbeats 16000000
namespace Go.Proofs.YthkgklkhlcbmaabDoor
set_option linter.unusedVariables false
set_option linter.unusedSimpArgs false
open Go.RowKit Go.Fl64
theorem dorder5 {t1 t2 : Bool × Nat × Int} {X Y : Value} {w : World} (o1 : Ok t1) (o2 : Ok t2) (h1 : DN w X t1) (h2 : DN w Y t2) : Calls Tryd.prog 10 #[X, Y] w fun r w' => r = .returned (.int .i64 (ordN t1.1 t1.2.1 t1.2.2 t2.1 t2.2.1 t2.2.2)) ∧ Below w.heap.size w w' := by
  obtain ⟨ao, cap, rfl, a1⟩ := h1
  obtain ⟨ao', cap', rfl, a2⟩ := h2
  obtain ⟨f1, f2, f3, -, -⟩ := o1.facts
  obtain ⟨g1, g2, g3, -, -⟩ := o2.facts
  exact rorder a1 a2 (by omega) (by omega) (by omega) (by omega)
theorem boxN {w3 w7 : World} {s : Bool} {ao : Option Addr} {n cap : Nat} {ex : Int} {t : Bool × Nat × Int} (hn : DN w7 (.agg #[.bool s, .slice ao n cap, .int .i64 ex]) t) (hb : Below w3.heap.size w3 w7) (W : World) (hW : W = w7.alloc (.cells #[.bool s, .slice ao n cap, .int .i64 ex] 30)) :
    W.heap[w7.heap.size]? = some (.cells #[.bool s, .slice ao n cap, .int .i64 ex] 30 (0, 0)) ∧ Below w3.heap.size w3 W ∧ DN W (.agg #[.bool s, .slice ao n cap, .int .i64 ex]) t := by
  subst hW
  exact ⟨heap_alloc_new _ _, hb.alloc hb.size _, hn.later ((Below.refl _ _).alloc (Nat.le_refl _) _)⟩
set_option maxRecDepth 200000 in
theorem split_no (a b : Nat) (fa fb : Bool) (w : World)
    (kT : Calls Tryd.prog 4 #[.float .f64 a, .float .f64 b] w fun r w' => ∃ n, r = .returned (.tuple #[.float .f64 n, .float .f64 0]) ∧ Hid (∀ W, Calls Tryd.prog 5 #[.float .f64 n] W fun r w' => r = .returned (.bool false) ∧ w' = W) ∧ Below w.heap.size w w')
    (kA : ∀ W, Calls Tryd.prog 5 #[.float .f64 a] W fun r w' => r = .returned (.bool fa) ∧ w' = W) (kB : ∀ W, Calls Tryd.prog 5 #[.float .f64 b] W fun r w' => r = .returned (.bool fb) ∧ w' = W)
    (HS : Hid (∀ W, Below w.heap.size w W → Calls Tryd.prog 7 #[] W fun r w' => r = .returned (.bool true) ∧ Below W.heap.size W w')) :
    Calls Tryd.prog 3 #[.float .f64 a, .float .f64 b] w fun r w' => r = .returned (.bool true) ∧ Below w.heap.size w w' := by
  have HA : Hid _ := kA
  have HB : Hid _ := kB
  clear kA kB
  go_enter Tryd.func3, Tryd.ntmps3
  go_wp2_with fail
  refine kT.mono ?_
  rintro r w1 ⟨n, rfl, HN, hb1⟩
  have HB1 : Hid (Below w.heap.size w w1) := hb1
  clear kT hb1
  cases fa
  · skip
    have kk := HA.out w1
    go_wp2_with fail
    refine kk.mono ?_
    rintro r w' ⟨rfl, hw⟩
    rw [hw]
    clear hw kk w'
    have kk := lsame5 (lk.refl (show 0 < 18446744073709551616 by omega)) (by omega) w1
    go_wp2_with fail
    refine kk.mono ?_
    rintro r w' ⟨rfl, hw⟩
    rw [hw]
    clear hw kk w'
    have kk := HS.out w1 HB1.out
    go_wp2_with fail
    refine kk.mono ?_
    rintro r w3 ⟨rfl, hb3⟩
    have HB3 : Hid (Below w.heap.size w w3) := HB1.out.trans (hb3.mono HB1.out.size)
    clear kk hb3 HB1
    go_wp2_with fail
    go_ret
    exact ⟨rfl, HB3.out⟩
  · cases fb
    · skip
      have kk := HA.out w1
      go_wp2_with fail
      refine kk.mono ?_
      rintro r w' ⟨rfl, hw⟩
      rw [hw]
      clear hw kk w'
      have kk := HB.out w1
      go_wp2_with fail
      refine kk.mono ?_
      rintro r w' ⟨rfl, hw⟩
      rw [hw]
      clear hw kk w'
      have kk := lsame5 (lk.refl (show 0 < 18446744073709551616 by omega)) (by omega) w1
      go_wp2_with fail
      refine kk.mono ?_
      rintro r w' ⟨rfl, hw⟩
      rw [hw]
      clear hw kk w'
      have kk := HS.out w1 HB1.out
      go_wp2_with fail
      refine kk.mono ?_
      rintro r w3 ⟨rfl, hb3⟩
      have HB3 : Hid (Below w.heap.size w w3) := HB1.out.trans (hb3.mono HB1.out.size)
      clear kk hb3 HB1
      go_wp2_with fail
      go_ret
      exact ⟨rfl, HB3.out⟩
    · skip
      have kk := HA.out w1
      go_wp2_with fail
      refine kk.mono ?_
      rintro r w' ⟨rfl, hw⟩
      rw [hw]
      clear hw kk w'
      have kk := HB.out w1
      go_wp2_with fail
      refine kk.mono ?_
      rintro r w' ⟨rfl, hw⟩
      rw [hw]
      clear hw kk w'
      have kk := HN.out w1
      go_wp2_with fail
      refine kk.mono ?_
      rintro r w' ⟨rfl, hw⟩
      rw [hw]
      clear hw kk w'
      have kk := lsame5 (lk.refl (show 0 < 18446744073709551616 by omega)) (by omega) w1
      go_wp2_with fail
      refine kk.mono ?_
      rintro r w' ⟨rfl, hw⟩
      rw [hw]
      clear hw kk w'
      have kk := HS.out w1 HB1.out
      go_wp2_with fail
      refine kk.mono ?_
      rintro r w3 ⟨rfl, hb3⟩
      have HB3 : Hid (Below w.heap.size w w3) := HB1.out.trans (hb3.mono HB1.out.size)
      clear kk hb3 HB1
      go_wp2_with fail
      go_ret
      exact ⟨rfl, HB3.out⟩
set_option maxRecDepth 200000 in
theorem split_yes (a b X C : Nat) (ta tb tx tc t1 t2 : Bool × Nat × Int) (w : World)
    (kT : Calls Tryd.prog 4 #[.float .f64 a, .float .f64 b] w fun r w' => r = .returned (.tuple #[.float .f64 X, .float .f64 C]) ∧ Below w.heap.size w w')
    (kA : ∀ W, Calls Tryd.prog 5 #[.float .f64 a] W fun r w' => r = .returned (.bool true) ∧ w' = W) (kB : ∀ W, Calls Tryd.prog 5 #[.float .f64 b] W fun r w' => r = .returned (.bool true) ∧ w' = W) (kX : ∀ W, Calls Tryd.prog 5 #[.float .f64 X] W fun r w' => r = .returned (.bool true) ∧ w' = W) (kC : ∀ W, Calls Tryd.prog 5 #[.float .f64 C] W fun r w' => r = .returned (.bool true) ∧ w' = W)
    (k1 : ∀ W, Calls Tryd.prog 9 #[.float .f64 a] W fun r w' => ∃ A, r = .returned A ∧ DN w' A ta ∧ Below W.heap.size W w') (k2 : ∀ W, Calls Tryd.prog 9 #[.float .f64 b] W fun r w' => ∃ A, r = .returned A ∧ DN w' A tb ∧ Below W.heap.size W w') (k3 : ∀ W, Calls Tryd.prog 9 #[.float .f64 X] W fun r w' => ∃ A, r = .returned A ∧ DN w' A tx ∧ Below W.heap.size W w') (k4 : ∀ W, Calls Tryd.prog 9 #[.float .f64 C] W fun r w' => ∃ A, r = .returned A ∧ DN w' A tc ∧ Below W.heap.size W w')
    (kP : ∀ W A B, DN W A ta → DN W B tb → Calls Tryd.prog 8 #[A, B] W fun r w' => ∃ C, r = .returned C ∧ DN w' C t1 ∧ Below W.heap.size W w')
    (kQ : ∀ W A B, DN W A tx → DN W B tc → Calls Tryd.prog 8 #[A, B] W fun r w' => ∃ C, r = .returned C ∧ DN w' C t2 ∧ Below W.heap.size W w')
    (kO : ∀ W A B, DN W A t1 → DN W B t2 → Calls Tryd.prog 10 #[A, B] W fun r w' => r = .returned (.int .i64 0) ∧ Below W.heap.size W w')
    (HS : Hid (∀ W, Below w.heap.size w W → Calls Tryd.prog 7 #[] W fun r w' => r = .returned (.bool true) ∧ Below W.heap.size W w')) :
    Calls Tryd.prog 3 #[.float .f64 a, .float .f64 b] w fun r w' => r = .returned (.bool true) ∧ Below w.heap.size w w' := by
  have HA : Hid _ := kA
  have HB : Hid _ := kB
  have HX : Hid _ := kX
  have HC : Hid _ := kC
  have H1 : Hid _ := k1
  have H2 : Hid _ := k2
  have H3 : Hid _ := k3
  have H4 : Hid _ := k4
  have HP : Hid _ := kP
  have HQ : Hid _ := kQ
  have HO : Hid _ := kO
  clear kA kB kX kC k1 k2 k3 k4 kP kQ kO
  go_enter Tryd.func3, Tryd.ntmps3
  go_wp2_with fail
  refine kT.mono ?_
  rintro r w1 ⟨rfl, hb1⟩
  have HB1 : Hid (Below w.heap.size w w1) := hb1
  clear kT hb1
  have kk := HA.out w1
  go_wp2_with fail
  refine kk.mono ?_
  rintro r w' ⟨rfl, hw⟩
  rw [hw]
  clear hw kk w'
  have kk := HB.out w1
  go_wp2_with fail
  refine kk.mono ?_
  rintro r w' ⟨rfl, hw⟩
  rw [hw]
  clear hw kk w'
  have kk := HX.out w1
  go_wp2_with fail
  refine kk.mono ?_
  rintro r w' ⟨rfl, hw⟩
  rw [hw]
  clear hw kk w'
  have kk := HC.out w1
  go_wp2_with fail
  refine kk.mono ?_
  rintro r w' ⟨rfl, hw⟩
  rw [hw]
  clear hw kk w'
  have kk := H1.out w1
  go_wp2_with fail
  refine kk.mono ?_
  rintro r w2 ⟨A2, rfl, hP2, hb2⟩
  have HB2 : Hid (Below w.heap.size w w2 ∧ DN w2 A2 ta) := ⟨HB1.out.trans (hb2.mono HB1.out.size), hP2⟩
  have kk := H2.out w2
  clear hP2 hb2 HB1 H1
  go_wp2_with fail
  refine kk.mono ?_
  rintro r w3 ⟨A3, rfl, hP3, hb3⟩
  have HB3 : Hid (Below w.heap.size w w3) := HB2.out.1.trans (hb3.mono HB2.out.1.size)
  have kk := HP.out w3 _ _ (HB2.out.2.later hb3) hP3
  clear hP3 hb3 HB2 H2 HP
  go_wp2_with fail
  refine kk.mono ?_
  rintro r w4 ⟨A4, rfl, hP4, hb4⟩
  obtain ⟨s5, ao5, n5, cap5, ex5, rfl⟩ := hP4.shape
  obtain ⟨W, hW⟩ : ∃ W, W = w4.alloc (.cells #[.bool s5, .slice ao5 n5 cap5, .int .i64 ex5] 30) := ⟨_, rfl⟩
  obtain ⟨hbx, hbW, hdW⟩ := boxN hP4 (HB3.out.trans (hb4.mono HB3.out.size)) W hW
  clear kk hP4 hb4 HB3
  go_upto_region 7 with fail
  rw [← hW]
  clear hW
  generalize w4.heap.size = g5 at *
  have HK : Hid (∀ w', Below W.heap.size W w' → (w'.cell? ⟨g5, 0, none⟩ = some (.bool s5) ∧ w'.cell? ⟨g5, 1, none⟩ = some (.slice ao5 n5 cap5) ∧ w'.cell? ⟨g5, 2, none⟩ = some (.int .i64 ex5))) := fun w' hb => (box_cells29 (box_later hbx hb (lt_of_box hbx))).1
  obtain ⟨⟨a0, a1, a2⟩, -⟩ := box_cells29 hbx
  have qx : ∀ w4, Below W.heap.size W w4 → Calls Tryd.prog 9 #[.float .f64 X] w4 fun r w' => ∃ A, r = .returned A ∧ DN w' A tx ∧ Below W.heap.size W w' := fun w4 hb => (H3.out w4).mono fun r w' ⟨A, e1, e2, e3⟩ => ⟨A, e1, e2, hb.trans (e3.mono hb.size)⟩
  have qc : ∀ w4 Z, Below W.heap.size W w4 → DN w4 Z tx → Calls Tryd.prog 9 #[.float .f64 C] w4 fun r w' => ∃ A, r = .returned A ∧ DN w' A tc ∧ DN w' Z tx ∧ Below W.heap.size W w' := fun w4 Z hb hz => (H4.out w4).mono fun r w' ⟨A, e1, e2, e3⟩ => ⟨A, e1, e2, hz.later e3, hb.trans (e3.mono hb.size)⟩
  have qp : ∀ w4 Y Z, Below W.heap.size W w4 → DN w4 Y tx → DN w4 Z tc → Calls Tryd.prog 8 #[Y, Z] w4 fun r w' => ∃ A, r = .returned A ∧ DN w' A t2 ∧ Below W.heap.size W w' := fun w4 Y Z hb h1 h2 => (HQ.out w4 _ _ h1 h2).mono fun r w' ⟨A, e1, e2, e3⟩ => ⟨A, e1, e2, hb.trans (e3.mono hb.size)⟩
  have qo : ∀ w4 Z, Below W.heap.size W w4 → DN w4 Z t2 → Calls Tryd.prog 10 #[(.agg #[.bool s5, .slice ao5 n5 cap5, .int .i64 ex5]), Z] w4 fun r w' => r = .returned (.int .i64 0) ∧ Below W.heap.size W w' := fun w4 Z hb hz => (HO.out w4 _ _ (hdW.later hb) hz).mono fun r w' ⟨e1, e3⟩ => ⟨e1, hb.trans (e3.mono hb.size)⟩
  have qs : ∀ w4, Below W.heap.size W w4 → Calls Tryd.prog 7 #[] w4 fun r w' => r = .returned (.bool true) ∧ Below W.heap.size W w' := fun w4 hb => (HS.out w4 (hbW.trans (hb.mono hbW.size))).mono fun r w' ⟨e1, e3⟩ => ⟨e1, hb.trans (e3.mono hb.size)⟩
  have HW : Hid (Below w.heap.size w W) := hbW
  have hBR : Below W.heap.size W W.drew := (Below.refl _ _).drew
  clear hbx hdW hbW H3 H4 HQ HO HS
  go_cut [4] from 40 to 50 (fun v wx => v = .bool true ∧ Hid (Below W.heap.size W wx))
  case first =>
    go_region_held3 (fun w' => (w'.cell? ⟨g5, 0, none⟩ = some (.bool s5) ∧ w'.cell? ⟨g5, 1, none⟩ = some (.slice ao5 n5 cap5) ∧ w'.cell? ⟨g5, 2, none⟩ = some (.int .i64 ex5))) (first | (with_reducible assumption) | exact ⟨a0, a1, a2⟩ | (refine HK.out _ ?_; with_reducible assumption) | go_keep)
      (first | (go_at_call 9; first | (have hq := hP5; clear hq; refine (qc _ _ (by with_reducible assumption) hP5).mono ?_; rintro r w6 ⟨A6, rfl, hP6, hP5', hb6⟩) | (refine (qx _ (by first | (with_reducible assumption) | exact hBR)).mono ?_; rintro r w5 ⟨A5, rfl, hP5, hb5⟩))
             | (go_at_call 8; refine (qp _ _ _ hb6 hP5' hP6).mono ?_; rintro r w7 ⟨A7, rfl, hP7, hb7⟩)
             | (go_at_call 10; refine (qo _ _ hb7 hP7).mono ?_; rintro r w8 ⟨rfl, hb8⟩)
             | (go_at_call 7; refine (qs _ hb8).mono ?_; rintro r w9 ⟨rfl, hb9⟩))
    all_goals go_wp2_with fail
    all_goals go_meet
    all_goals exact ⟨rfl, hb9⟩
  case rest =>
    obtain ⟨rfl, hc⟩ := hcut
    obtain ⟨W2, rfl⟩ : ∃ W2 : World, W2 = wc := ⟨_, rfl⟩
    clear a0 a1 a2 qx qc qp qo qs hBR HK
    go_wp2_with fail
    go_ret
    exact ⟨rfl, HW.out.trans (hc.out.mono HW.out.size)⟩
theorem fin_of5 {a : Nat} (ha : a < 18446744073709551616) {f : Bool} (h : decide (mag a < 9218868437227405312) = f) (W : World) : Calls Tryd.prog 5 #[.float .f64 a] W fun r w' => r = .returned (.bool f) ∧ w' = W := by
  have k := Ie.dfinite a ha W
  rw [show decide ((mag a : Int) < 9218868437227405312) = f by rw [← h]; exact decide_eq_decide.2 (by omega)] at k
  exact k
theorem lk_notfin {n X : Nat} (h : lk n X) (hX : ¬ mag X < 9218868437227405312) : ¬ mag n < 9218868437227405312 := by
  rcases lk_or h with rfl | ⟨h1, h2⟩
  · exact hX
  · unfold isNaN at h1
    simp only [decide_eq_true_eq] at h1
    omega
theorem sumsSplit_ok (a b : Nat) (w : World) (ha : a < 18446744073709551616) (hb : b < 18446744073709551616) (hT : Tab32 w) (hI : Ie.Tab w) :
    Calls Tryd.prog 3 #[.float .f64 a, .float .f64 b] w fun r w' => r = .returned (.bool true) ∧ Below w.heap.size w w' := by
  have hX := fAdd_lt ha hb
  have kk := uTwo a b ha hb w hT hI
  have hs : ∀ W, Below w.heap.size w W → Calls Tryd.prog 7 #[] W fun r w' => r = .returned (.bool true) ∧ Below W.heap.size W w' := fun W h => sure5_ok W (hT.later h) (Tab.later hI h)
  by_cases hf : mag (fAdd a b) < 9218868437227405312
  · obtain ⟨fa, fb⟩ := fAdd_fin ha hb hf
    have hC := lostF_lt a b
    refine split_yes a b (fAdd a b) (lostF a b) (tF a) (tF b) (tF (fAdd a b)) (tF (lostF a b)) (tS (tF a) (tF b)) (tS (tF (fAdd a b)) (tF (lostF a b))) w (kk.mono ?_)
      (fin_of5 ha (decide_eq_true fa)) (fin_of5 hb (decide_eq_true fb)) (fin_of5 hX (decide_eq_true hf)) (fin_of5 hC (decide_eq_true (split_val ha hb hf).1))
      (float_dn a ha) (float_dn b hb) (float_dn _ hX) (float_dn _ hC) (fun W A B p q => plus_dn (tF_ok a) (tF_ok b) p q) (fun W A B p q => plus_dn (tF_ok _) (tF_ok _) p q)
      (fun W A B p q => by have k := dorder5 (tS2_ok a b) (tS2_ok _ _) p q; rw [split_ord ha hb hf] at k; exact k) hs
    rintro r w' ⟨n, rfl, h1, h2⟩
    rw [h1.eq (by unfold isNaN; rw [decide_eq_false (by omega)])]
    exact ⟨rfl, h2⟩
  · have e : lostF a b = 0 := by unfold lostF; rw [if_neg hf]
    rw [e] at kk
    refine split_no a b _ _ w (kk.mono ?_) (fin_of5 ha rfl) (fin_of5 hb rfl) hs
    rintro r w' ⟨n, rfl, h1, h2⟩
    exact ⟨n, rfl, fin_of5 h1.1 (decide_eq_false (lk_notfin h1 hf)), h2⟩
end Go.Proofs.YthkgklkhlcbmaabDoor
