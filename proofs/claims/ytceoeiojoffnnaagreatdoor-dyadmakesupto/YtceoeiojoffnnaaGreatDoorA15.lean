/- Own work: contracts of the program's functions, part A15. -/
import Derived.Test.YtceoeiojoffnnaaGreatDoorA14

/- The law's own small test: it answers true. -/
namespace Go.Proofs.YtceoeiojoffnnaaGreatDoor
set_option linter.unusedVariables false
set_option linter.unusedSimpArgs false
open Go.RowKit Go.Fl64

theorem Bx.lt {w3 wc : World} {g : Nat} {s : Bool} {ao : Option Addr} {n cap : Nat} {ex : Int} {sL : Bool} {zL : Nat} {eL : Int} (h : Bx w3 wc g s ao n cap ex sL zL eL) : g < wc.heap.size := lt_of_box h.1
/-- a number in its box stays -/
theorem Bx.later {w3 wc w' : World} {g : Nat} {s : Bool} {ao : Option Addr} {n cap : Nat} {ex : Int} {sL : Bool} {zL : Nat} {eL : Int} (h : Bx w3 wc g s ao n cap ex sL zL eL) (hb : Below wc.heap.size wc w') : Bx w3 w' g s ao n cap ex sL zL eL :=
  ⟨box_later h.1 hb h.lt, h.2.1, h.2.2.1.trans (hb.mono h.2.2.1.size), h.2.2.2.later hb⟩
theorem Bx.cells {w3 wc : World} {g : Nat} {s : Bool} {ao : Option Addr} {n cap : Nat} {ex : Int} {sL : Bool} {zL : Nat} {eL : Int} (h : Bx w3 wc g s ao n cap ex sL zL eL) :
    wc.cell? ⟨g, 0, none⟩ = some (.bool s) ∧ wc.cell? ⟨g, 1, none⟩ = some (.slice ao n cap) ∧ wc.cell? ⟨g, 2, none⟩ = some (.int .i64 ex) := (box_cells h.1).1

set_option maxHeartbeats 8000000 in
set_option maxRecDepth 200000 in
theorem works_ok (w : World) (hT : Tab32 w) (hI : Ie.Tab w) (h10 : Tab10 w) :
    Calls Tryz.prog 14 #[] w fun r w' => r = .returned (.bool true) ∧ Below w.heap.size w w' := by
  have HT : Hid (∀ W, Below w.heap.size w W → Tab32 W ∧ Ie.Tab W ∧ Tab10 W) := fun W h => ⟨hT.later h, Tab.later hI h, h10.later h⟩
  clear hT hI h10
  have k := t_of (HT.out w (Below.refl _ _)).1 (HT.out w (Below.refl _ _)).2.1
  go_enter Tryz.func14, Tryz.ntmps14
  go_wp2_with fail
  refine k.mono ?_
  rintro r w1 ⟨A, rfl, hA, hb1⟩
  clear k
  obtain ⟨s1, ao1, n1, cap1, ex1, rfl⟩ := hA.shape
  obtain ⟨W1, hW1⟩ : ∃ W1, W1 = w1.alloc (.cells #[.bool s1, .slice ao1 n1 cap1, .int .i64 ex1] 25) := ⟨_, rfl⟩
  have HX : Hid (Bx w W1 w1.heap.size s1 ao1 n1 cap1 ex1 false 3 (-2)) := (by rw [hW1]; exact Bx.new hA hb1 (Nat.le_refl _) : Bx w W1 w1.heap.size s1 ao1 n1 cap1 ex1 false 3 (-2))
  clear hA hb1
  go_upto_region 2 with fail
  rw [← hW1]
  clear hW1
  generalize w1.heap.size = g1 at *
  obtain ⟨a0, a1, a2⟩ := HX.out.cells
  have hBR : Below W1.heap.size W1 W1.drew := (Below.refl _ _).drew
  have HK : Hid (∀ w', Below W1.heap.size W1 w' → (w'.cell? ⟨g1, 0, none⟩ = some (.bool s1) ∧ w'.cell? ⟨g1, 1, none⟩ = some (.slice ao1 n1 cap1) ∧ w'.cell? ⟨g1, 2, none⟩ = some (.int .i64 ex1)) ∧ Below W1.heap.size W1 w') := fun w' hb => ⟨(HX.out.later hb).cells, hb⟩
  have k12 : ∀ w4, Below W1.heap.size W1 w4 → Calls Tryz.prog 12 #[.int .i64 (-12)] w4 fun r w' => ∃ C, r = .returned C ∧ Nrm w' w4.heap.size C true 12 0 ∧ Below W1.heap.size W1 w' ∧ Hid (∀ g o, w4.heap[g]? = some o → w'.heap[g]? = some o) := fun w4 hb =>
    (c12 (n := -12) (HT.out w4 (HX.out.2.2.1.trans (hb.mono HX.out.2.2.1.size))).1 (by omega)).mono fun r w' ⟨v, e1, o1, o2⟩ => ⟨v, e1, o1, hb.trans (o2.mono hb.size), fun g o hg => box_later hg o2 (lt_of_box hg)⟩
  have k19 : ∀ C c w6, Nrm w6 c C true 12 0 → Below W1.heap.size W1 w6 → Calls Tryz.prog 19 #[.agg #[.bool s1, .slice ao1 n1 cap1, .int .i64 ex1], C] w6 fun r w' => ∃ s ao n cap ex, r = .returned (.tuple #[.agg #[.bool s, .slice ao n cap, .int .i64 ex], .int .i64 0]) ∧ Nrm w' w6.heap.size (.agg #[.bool s, .slice ao n cap, .int .i64 ex]) true 45 (-2) ∧ Below W1.heap.size W1 w' ∧ Hid (∀ g o, w6.heap[g]? = some o → w'.heap[g]? = some o) := fun C c w6 hN hb =>
    (t_add (HX.out.later hb).2.2.2 hN (HT.out w6 (HX.out.2.2.1.trans (hb.mono HX.out.2.2.1.size))).1).mono fun r w' ⟨v, e1, o1, o2⟩ => by
      obtain ⟨s, ao, n, cap, ex, rfl⟩ := o1.shape
      exact ⟨s, ao, n, cap, ex, e1, o1, hb.trans (o2.mono hb.size), fun g o hg => box_later hg o2 (lt_of_box hg)⟩
  go_cut [3, 4] from 16 to 21 (fun p e wx => ∃ g s ao n cap ex, p = .pointer (some ⟨g, 0, none⟩) ∧ e = .int .i64 0 ∧ Hid (Bx W1 wx g s ao n cap ex true 45 (-2)))
  case first =>
    go_region_held3 (fun w' => (w'.cell? ⟨g1, 0, none⟩ = some (.bool s1) ∧ w'.cell? ⟨g1, 1, none⟩ = some (.slice ao1 n1 cap1) ∧ w'.cell? ⟨g1, 2, none⟩ = some (.int .i64 ex1)) ∧ Below W1.heap.size W1 w') (first | (with_reducible assumption) | exact ⟨⟨a0, a1, a2⟩, hBR⟩ | (refine HK.out _ ?_; with_reducible assumption) | (refine HK.out _ ?_; refine Below.alloc (by with_reducible assumption) (Below.size (by with_reducible assumption)) _) | (refine HK.out _ (below_store3 (by first | (with_reducible assumption) | exact hb7.alloc hb7.size _) (by first | exact Nat.le_refl _ | exact hb5.size | exact hb7.size) _ _ _)) | go_keep)
      (first | (go_at_call 12; refine (k12 _ (by first | (with_reducible assumption) | exact hBR.alloc hBR.size _)).mono ?_; rintro r w5 ⟨C5, rfl, ho5, hb5, hk5⟩; first | (have HBY : Hid (w5.heap[W1.heap.size]? = some (.cells #[.bool false, .slice none 0 0, .int .i64 0] 25 (0, 0))) := hk5.out _ _ (heap_alloc_new W1.drew _)) | (have HBY : Hid True := trivial))
             | (go_at_call 19; refine (k19 _ _ _ (by first | (with_reducible assumption) | exact ho5.later ((Below.refl _ _).alloc (Nat.le_refl _) _)) (by first | (with_reducible assumption) | exact hb5.alloc hb5.size _)).mono ?_; rintro r w7 ⟨s7, ao7, n7, cap7, ex7, rfl, hn7, hb7, hk7⟩; first | (have HBZ := hidOf (hk7.out _ _ HBY.out); obtain ⟨⟨x1, x2, x3⟩, x4, x5, x6⟩ := box_cells HBZ.out) | (have HBZ : Hid (w7.heap[w5.heap.size]? = some (.cells #[.bool false, .slice none 0 0, .int .i64 0] 25 (0, 0))) := hk7.out _ _ (heap_alloc_new w5 _); obtain ⟨⟨x1, x2, x3⟩, x4, x5, x6⟩ := box_cells HBZ.out) | (have HBZ : Hid True := trivial)))
    all_goals go_wp2_with fail
    all_goals go_meet
    all_goals first
      | exact ⟨_, _, _, _, _, _, rfl, rfl, Bx.new hn7 hb7 hb5.size⟩
      | exact ⟨_, _, _, _, _, _, rfl, rfl, Bx.put hn7 hb7 (Nat.le_trans hb5.size (by simp)) hb5.size (by simp) HBZ.out⟩
      | exact ⟨_, _, _, _, _, _, rfl, rfl, Bx.put hn7 hb7 hb5.size (Nat.le_refl _) (lt_of_box HBY.out) HBZ.out⟩
  case rest =>
    obtain ⟨W2, rfl⟩ : ∃ W2 : World, W2 = wc := ⟨_, rfl⟩
    obtain ⟨g2, s2, ao2, n2, cap2, ex2, rfl, rfl, HY⟩ := hcut
    clear k12 k19 HK hBR a0 a1 a2
    have HX2 : Hid (Bx w W2 g1 s1 ao1 n1 cap1 ex1 false 3 (-2)) := HX.out.later HY.out.2.2.1
    have HTW : Hid (∀ W, Below W2.heap.size W2 W → Tab32 W ∧ Ie.Tab W ∧ Tab10 W) := fun W h => HT.out W (HX2.out.2.2.1.trans (h.mono HX2.out.2.2.1.size))
    have k3 := c12 (n := 1) (HTW.out W2 (Below.refl _ _)).1 (by omega)
    go_wp2_with fail
    refine k3.mono ?_
    rintro r w3 ⟨P3, rfl, hn3, hb3⟩
    clear k3
    have k4 := c12 (n := 3) (HTW.out w3 hb3).1 (by omega)
    go_wp2_with fail
    refine k4.mono ?_
    rintro r w4 ⟨P4, rfl, hn4, hb4⟩
    clear k4
    have HB4 : Hid (Below W2.heap.size W2 w4) := hb3.trans (hb4.mono hb3.size)
    have k5 := t_quo (hn3.later hb4) hn4 (HTW.out w4 HB4.out).1
    clear hn3 hn4 hb3 hb4
    go_wp2_with fail
    refine k5.mono ?_
    rintro r w5 ⟨Q, rfl, hQ, hb5⟩
    clear k5
    obtain ⟨s3, ao3, n3, cap3, ex3, rfl⟩ := hQ.shape
    obtain ⟨W3, hW3⟩ : ∃ W3, W3 = w5.alloc (.cells #[.bool s3, .slice ao3 n3 cap3, .int .i64 ex3] 25) := ⟨_, rfl⟩
    have HZ : Hid (Bx W2 W3 w5.heap.size s3 ao3 n3 cap3 ex3 false 5 (-4)) := (by rw [hW3]; exact Bx.new hQ (HB4.out.trans (hb5.mono HB4.out.size)) HB4.out.size : Bx W2 W3 w5.heap.size s3 ao3 n3 cap3 ex3 false 5 (-4))
    clear hQ hb5
    have k6 := c12 (n := 0) (HTW.out W3 HZ.out.2.2.1).1 (by omega)
    go_wp2_with fail
    rw [← hW3]
    clear hW3
    generalize w5.heap.size = g3 at *
    refine k6.mono ?_
    rintro r w6 ⟨P6, rfl, hn6, hb6⟩
    clear k6
    have HTX : Hid (∀ W, Below W3.heap.size W3 W → Tab32 W ∧ Ie.Tab W ∧ Tab10 W) := fun W h => HTW.out W (HZ.out.2.2.1.trans (h.mono HZ.out.2.2.1.size))
    have k7 := c12 (n := 2) (HTX.out w6 hb6).1 (by omega)
    go_wp2_with fail
    refine k7.mono ?_
    rintro r w7 ⟨P7, rfl, hn7, hb7⟩
    clear k7
    have hb7' : Below W3.heap.size W3 w7 := hb6.trans (hb7.mono hb6.size)
    have k8 := c12 (n := 0) (HTX.out w7 hb7').1 (by omega)
    go_wp2_with fail
    refine k8.mono ?_
    rintro r w8 ⟨P8, rfl, hn8, hb8⟩
    clear k8
    have HB8 : Hid (Below W3.heap.size W3 w8) := hb7'.trans (hb8.mono hb7'.size)
    have k9 := t_up ((hn6.later hb7).later hb8) (hn7.later hb8) hn8 (HTX.out w8 HB8.out).1
    clear hn6 hn7 hn8 hb6 hb7 hb8 hb7'
    go_wp2_with fail
    refine k9.mono ?_
    rintro r w9 ⟨rfl, hb9⟩
    clear k9
    have HB9 : Hid (Below W3.heap.size W3 w9) := HB8.out.trans (hb9.mono HB8.out.size)
    clear hb9
    have k10 := c61 w9
    have k11 := t_inf (HTX.out w9 HB9.out).2.1
    go_wp2_with fail
    refine k10.mono ?_
    rintro r w10 ⟨rfl, hw10⟩
    replace hw10 := hw10.symm
    subst hw10
    clear k10
    go_wp2_with fail
    refine k11.mono ?_
    rintro r w11 ⟨rfl, hb11⟩
    clear k11
    obtain ⟨W4, hW4⟩ : ∃ W4, W4 = w11.alloc (.cells #[.bool false, .slice none 0 0, .int .i64 0] 25) := ⟨_, rfl⟩
    have HB4' : Hid (Below W3.heap.size W3 W4) := (by rw [hW4]; exact (HB9.out.trans (hb11.mono HB9.out.size)).alloc (Nat.le_trans HB9.out.size hb11.size) _ : Below W3.heap.size W3 W4)
    clear hb11
    have HA : Hid (∀ W', Below W4.heap.size W4 W' → Bx w W' g1 s1 ao1 n1 cap1 ex1 false 3 (-2) ∧ Bx W1 W' g2 s2 ao2 n2 cap2 ex2 true 45 (-2) ∧ Bx W2 W' g3 s3 ao3 n3 cap3 ex3 false 5 (-4) ∧ Ie.Tab W' ∧ Tab10 W' ∧ Below w.heap.size w W') := fun W' h => by
      have h3 : Below W3.heap.size W3 W' := HB4'.out.trans (h.mono HB4'.out.size)
      have h2 : Below W2.heap.size W2 W' := HZ.out.2.2.1.trans (h3.mono HZ.out.2.2.1.size)
      exact ⟨HX2.out.later h2, HY.out.later h2, HZ.out.later h3, (HTX.out W' h3).2.1, (HTX.out W' h3).2.2, HX2.out.2.2.1.trans (h2.mono HX2.out.2.2.1.size)⟩
    obtain ⟨z1, z2, z3, z4, z5, z6⟩ := HA.out W4 (Below.refl _ _)
    obtain ⟨a0, a1, a2⟩ := z1.cells
    rw [hW4] at a0 a1 a2
    have k12 := t_show_a z1.2.2.2 z4 z5
    clear z1 z2 z3 z4 z5 z6
    go_wp2_with fail
    rw [← hW4]
    clear hW4
    refine k12.mono ?_
    rintro r w12 ⟨rfl, hb12⟩
    have HB12 : Hid (Below W4.heap.size W4 w12) := hb12
    clear k12 hb12 a0 a1 a2
    obtain ⟨z1, z2, z3, z4, z5, z6⟩ := HA.out w12 HB12.out
    obtain ⟨a0, a1, a2⟩ := z2.cells
    have k13 := t_show_b z2.2.2.2 z4 z5
    clear z1 z2 z3 z4 z5 z6
    go_wp2_with fail
    refine k13.mono ?_
    rintro r w13 ⟨rfl, hb13⟩
    have HB13 : Hid (Below W4.heap.size W4 w13) := HB12.out.trans (hb13.mono HB12.out.size)
    clear k13 hb13 a0 a1 a2
    obtain ⟨z1, z2, z3, z4, z5, z6⟩ := HA.out w13 HB13.out
    obtain ⟨a0, a1, a2⟩ := z3.cells
    have k14 := t_show_q z3.2.2.2 z4 z5
    clear z1 z2 z3 z4 z5 z6
    go_wp2_with fail
    refine k14.mono ?_
    rintro r w14 ⟨rfl, hb14⟩
    have HB14 : Hid (Below W4.heap.size W4 w14) := HB13.out.trans (hb14.mono HB13.out.size)
    clear k14 hb14 a0 a1 a2
    have k15 := c54 4609047870845172685 4609047870845172685 w14
    go_wp2_with fail
    refine k15.mono ?_
    rintro r w15 ⟨rfl, hw15⟩
    replace hw15 := hw15.symm
    subst hw15
    clear k15
    obtain ⟨z1, z2, z3, z4, z5, z6⟩ := HA.out w14 HB14.out
    obtain ⟨a0, a1, a2⟩ := z1.cells
    have k16 := t_valid z1.2.2.2
    clear z1 z2 z3 z4 z5 z6
    go_wp2_with fail
    refine k16.mono ?_
    rintro r w16 ⟨rfl, hb16⟩
    have HB16 : Hid (Below W4.heap.size W4 w16) := HB14.out.trans (hb16.mono HB14.out.size)
    clear k16 hb16 a0 a1 a2
    obtain ⟨z1, z2, z3, z4, z5, z6⟩ := HA.out w16 HB16.out
    obtain ⟨a0, a1, a2⟩ := z1.cells
    obtain ⟨b0, b1, b2⟩ := z2.cells
    have k17 := t_cmp z1.2.2.2 z2.2.2.2
    clear z1 z2 z3 z4 z5 z6
    go_wp2_with fail
    refine k17.mono ?_
    rintro r w17 ⟨rfl, hb17⟩
    have HB17 : Hid (Below w.heap.size w w17) := (HA.out w17 (HB16.out.trans (hb17.mono HB16.out.size))).2.2.2.2.2
    clear k17 hb17 a0 a1 a2 b0 b1 b2
    go_wp2_with fail
    go_ret
    exact ⟨rfl, HB17.out⟩
end Go.Proofs.YtceoeiojoffnnaaGreatDoor
