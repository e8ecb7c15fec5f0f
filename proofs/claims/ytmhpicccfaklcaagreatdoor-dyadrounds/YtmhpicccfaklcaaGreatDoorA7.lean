/- Own work: contracts of the program's functions, part 7: T4 R4 R5 E1 Tab F3 F4 G1 G2 Q1 Q2 R6 Q3 ON. -/
import Derived.Test.YtmhpicccfaklcaaGreatDoorA6
import Derived.Test.YtmhpicccfaklcaaGreatDoorA5
import Derived.Lib.LaidTab
import Derived.Deep.CutRange
import Derived.Deep.RegionLawGrows
import Derived.Deep.RegionHeld3
import Derived.Laws.AppendOwnNone
import Derived.Test.YtmhpicccfaklcaaGreatDoorA3
import Derived.Test.YtmhpicccfaklcaaGreatDoorRows
import Derived.Carry
import Derived.ChangeSlices
import Derived.WalkKit
import Derived.ProofKit
import Derived.OpenShut
import Derived.WalkLawsBesides
import Derived.ChangeAlike
import Derived.Lib.SmallJoins
import Derived.SizedLaws

/- The law's own small test: it answers true. -/
namespace Go.Proofs.YtmhpicccfaklcaaGreatDoor
set_option linter.unusedVariables false
set_option linter.unusedSimpArgs false
open Go.RowKit Go.Fl64

theorem Bx.lt {w3 wc : World} {g : Nat} {s : Bool} {ao : Option Addr} {n cap : Nat} {ex : Int} {sL : Bool} {zL : Nat} {eL : Int} (h : Bx w3 wc g s ao n cap ex sL zL eL) : g < wc.heap.size := lt_of_box h.1
/-- a number in its box stays -/
theorem Bx.later {w3 wc w' : World} {g : Nat} {s : Bool} {ao : Option Addr} {n cap : Nat} {ex : Int} {sL : Bool} {zL : Nat} {eL : Int} (h : Bx w3 wc g s ao n cap ex sL zL eL) (hb : Below wc.heap.size wc w') : Bx w3 w' g s ao n cap ex sL zL eL :=
  ⟨box_later h.1 hb h.lt, h.2.1, h.2.2.1.trans (hb.mono h.2.2.1.size), h.2.2.2.later hb⟩
theorem Bx.cells {w3 wc : World} {g : Nat} {s : Bool} {ao : Option Addr} {n cap : Nat} {ex : Int} {sL : Bool} {zL : Nat} {eL : Int} (h : Bx w3 wc g s ao n cap ex sL zL eL) :
    wc.cell? ⟨g, 0, none⟩ = some (.bool s) ∧ wc.cell? ⟨g, 1, none⟩ = some (.slice ao n cap) ∧ wc.cell? ⟨g, 2, none⟩ = some (.int .i64 ex) := (box_cells h.1).1

set_option maxHeartbeats 8000000 in
set_option maxRecDepth 200000 in
theorem works_ok (w : World) (hT : Tab32 w) (hI : Ie.Tab w) (h10 : Tab10 w) :
    Calls Tryz.prog 27 #[] w fun r w' => r = .returned (.bool true) ∧ Below w.heap.size w w' := by
  have HT : Hid (∀ W, Below w.heap.size w W → Tab32 W ∧ Ie.Tab W ∧ Tab10 W) := fun W h => ⟨hT.later h, Tab.later hI h, h10.later h⟩
  clear hT hI h10
  have k := t_of (HT.out w (Below.refl _ _)).1 (HT.out w (Below.refl _ _)).2.1
  go_enter Tryz.func27, Tryz.ntmps27
  go_wp2_with fail
  refine k.mono ?_
  rintro r w1 ⟨A, rfl, hA, hb1⟩
  clear k
  obtain ⟨s1, ao1, n1, cap1, ex1, rfl⟩ := hA.shape
  obtain ⟨W1, hW1⟩ : ∃ W1, W1 = w1.alloc (.cells #[.bool s1, .slice ao1 n1 cap1, .int .i64 ex1] 25) := ⟨_, rfl⟩
  have HX : Hid (Bx w W1 w1.heap.size s1 ao1 n1 cap1 ex1 false 3 (-2)) := (by rw [hW1]; exact Bx.new hA hb1 (Nat.le_refl _) : Bx w W1 w1.heap.size s1 ao1 n1 cap1 ex1 false 3 (-2))
  clear hA hb1
  go_upto_region 2 with fail
  rw [← hW1]
  clear hW1
  generalize w1.heap.size = g1 at *
  obtain ⟨a0, a1, a2⟩ := HX.out.cells
  have hBR : Below W1.heap.size W1 W1.drew := (Below.refl _ _).drew
  have HK : Hid (∀ w', Below W1.heap.size W1 w' → (w'.cell? ⟨g1, 0, none⟩ = some (.bool s1) ∧ w'.cell? ⟨g1, 1, none⟩ = some (.slice ao1 n1 cap1) ∧ w'.cell? ⟨g1, 2, none⟩ = some (.int .i64 ex1)) ∧ Below W1.heap.size W1 w') := fun w' hb => ⟨(HX.out.later hb).cells, hb⟩
  have k12 : ∀ w4, Below W1.heap.size W1 w4 → Calls Tryz.prog 68 #[.int .i64 (-12)] w4 fun r w' => ∃ C, r = .returned C ∧ Nrm w' w4.heap.size C true 12 0 ∧ Below W1.heap.size W1 w' ∧ Hid (∀ g o, w4.heap[g]? = some o → w'.heap[g]? = some o) := fun w4 hb =>
    (c12 (n := -12) (HT.out w4 (HX.out.2.2.1.trans (hb.mono HX.out.2.2.1.size))).1 (by omega)).mono fun r w' ⟨v, e1, o1, o2⟩ => ⟨v, e1, o1, hb.trans (o2.mono hb.size), fun g o hg => box_later hg o2 (lt_of_box hg)⟩
  have k19 : ∀ C c w6, Nrm w6 c C true 12 0 → Below W1.heap.size W1 w6 → Calls Tryz.prog 67 #[.agg #[.bool s1, .slice ao1 n1 cap1, .int .i64 ex1], C] w6 fun r w' => ∃ s ao n cap ex, r = .returned (.tuple #[.agg #[.bool s, .slice ao n cap, .int .i64 ex], .int .i64 0]) ∧ Nrm w' w6.heap.size (.agg #[.bool s, .slice ao n cap, .int .i64 ex]) true 45 (-2) ∧ Below W1.heap.size W1 w' ∧ Hid (∀ g o, w6.heap[g]? = some o → w'.heap[g]? = some o) := fun C c w6 hN hb =>
    (t_add (HX.out.later hb).2.2.2 hN (HT.out w6 (HX.out.2.2.1.trans (hb.mono HX.out.2.2.1.size))).1).mono fun r w' ⟨v, e1, o1, o2⟩ => by
      obtain ⟨s, ao, n, cap, ex, rfl⟩ := o1.shape
      exact ⟨s, ao, n, cap, ex, e1, o1, hb.trans (o2.mono hb.size), fun g o hg => box_later hg o2 (lt_of_box hg)⟩
  go_cut [3, 4] from 16 to 21 (fun p e wx => ∃ g s ao n cap ex, p = .pointer (some ⟨g, 0, none⟩) ∧ e = .int .i64 0 ∧ Hid (Bx W1 wx g s ao n cap ex true 45 (-2)))
  case first =>
    go_region_held3 (fun w' => (w'.cell? ⟨g1, 0, none⟩ = some (.bool s1) ∧ w'.cell? ⟨g1, 1, none⟩ = some (.slice ao1 n1 cap1) ∧ w'.cell? ⟨g1, 2, none⟩ = some (.int .i64 ex1)) ∧ Below W1.heap.size W1 w') (first | (with_reducible assumption) | exact ⟨⟨a0, a1, a2⟩, hBR⟩ | (refine HK.out _ ?_; with_reducible assumption) | (refine HK.out _ ?_; refine Below.alloc (by with_reducible assumption) (Below.size (by with_reducible assumption)) _) | (refine HK.out _ (below_store3 (by first | (with_reducible assumption) | exact hb7.alloc hb7.size _) (by first | exact Nat.le_refl _ | exact hb5.size | exact hb7.size) _ _ _)) | go_keep)
      (first | (go_at_call 68; refine (k12 _ (by first | (with_reducible assumption) | exact hBR.alloc hBR.size _)).mono ?_; rintro r w5 ⟨C5, rfl, ho5, hb5, hk5⟩; first | (have HBY : Hid (w5.heap[W1.heap.size]? = some (.cells #[.bool false, .slice none 0 0, .int .i64 0] 25 (0, 0))) := hk5.out _ _ (heap_alloc_new W1.drew _)) | (have HBY : Hid True := trivial))
             | (go_at_call 67; refine (k19 _ _ _ (by first | (with_reducible assumption) | exact ho5.later ((Below.refl _ _).alloc (Nat.le_refl _) _)) (by first | (with_reducible assumption) | exact hb5.alloc hb5.size _)).mono ?_; rintro r w7 ⟨s7, ao7, n7, cap7, ex7, rfl, hn7, hb7, hk7⟩; first | (have HBZ := hidOf (hk7.out _ _ HBY.out); obtain ⟨⟨x1, x2, x3⟩, x4, x5, x6⟩ := box_cells HBZ.out) | (have HBZ : Hid (w7.heap[w5.heap.size]? = some (.cells #[.bool false, .slice none 0 0, .int .i64 0] 25 (0, 0))) := hk7.out _ _ (heap_alloc_new w5 _); obtain ⟨⟨x1, x2, x3⟩, x4, x5, x6⟩ := box_cells HBZ.out) | (have HBZ : Hid True := trivial)))
    all_goals go_wp2_with fail
    all_goals go_meet
    all_goals first
      | exact ⟨_, _, _, _, _, _, rfl, rfl, Bx.new hn7 hb7 hb5.size⟩
      | exact ⟨_, _, _, _, _, _, rfl, rfl, Bx.put hn7 hb7 (Nat.le_trans hb5.size (by simp)) hb5.size (by simp) HBZ.out⟩
      | exact ⟨_, _, _, _, _, _, rfl, rfl, Bx.put hn7 hb7 hb5.size (Nat.le_refl _) (lt_of_box HBY.out) HBZ.out⟩
  case rest =>
    obtain ⟨W2, rfl⟩ : ∃ W2 : World, W2 = wc := ⟨_, rfl⟩
    obtain ⟨g2, s2, ao2, n2, cap2, ex2, rfl, rfl, HY⟩ := hcut
    clear k12 k19 HK hBR a0 a1 a2
    have HX2 : Hid (Bx w W2 g1 s1 ao1 n1 cap1 ex1 false 3 (-2)) := HX.out.later HY.out.2.2.1
    have HTW : Hid (∀ W, Below W2.heap.size W2 W → Tab32 W ∧ Ie.Tab W ∧ Tab10 W) := fun W h => HT.out W (HX2.out.2.2.1.trans (h.mono HX2.out.2.2.1.size))
    have k3 := c12 (n := 1) (HTW.out W2 (Below.refl _ _)).1 (by omega)
    go_wp2_with fail
    refine k3.mono ?_
    rintro r w3 ⟨P3, rfl, hn3, hb3⟩
    clear k3
    have k4 := c12 (n := 3) (HTW.out w3 hb3).1 (by omega)
    go_wp2_with fail
    refine k4.mono ?_
    rintro r w4 ⟨P4, rfl, hn4, hb4⟩
    clear k4
    have HB4 : Hid (Below W2.heap.size W2 w4) := hb3.trans (hb4.mono hb3.size)
    have k5 := t_quo (hn3.later hb4) hn4 (HTW.out w4 HB4.out).1
    clear hn3 hn4 hb3 hb4
    go_wp2_with fail
    refine k5.mono ?_
    rintro r w5 ⟨Q, rfl, hQ, hb5⟩
    clear k5
    obtain ⟨s3, ao3, n3, cap3, ex3, rfl⟩ := hQ.shape
    obtain ⟨W3, hW3⟩ : ∃ W3, W3 = w5.alloc (.cells #[.bool s3, .slice ao3 n3 cap3, .int .i64 ex3] 25) := ⟨_, rfl⟩
    have HZ : Hid (Bx W2 W3 w5.heap.size s3 ao3 n3 cap3 ex3 false 5 (-4)) := (by rw [hW3]; exact Bx.new hQ (HB4.out.trans (hb5.mono HB4.out.size)) HB4.out.size : Bx W2 W3 w5.heap.size s3 ao3 n3 cap3 ex3 false 5 (-4))
    clear hQ hb5
    have k6 := c12 (n := 0) (HTW.out W3 HZ.out.2.2.1).1 (by omega)
    go_wp2_with fail
    rw [← hW3]
    clear hW3
    generalize w5.heap.size = g3 at *
    refine k6.mono ?_
    rintro r w6 ⟨P6, rfl, hn6, hb6⟩
    clear k6
    have HTX : Hid (∀ W, Below W3.heap.size W3 W → Tab32 W ∧ Ie.Tab W ∧ Tab10 W) := fun W h => HTW.out W (HZ.out.2.2.1.trans (h.mono HZ.out.2.2.1.size))
    have k7 := c12 (n := 2) (HTX.out w6 hb6).1 (by omega)
    go_wp2_with fail
    refine k7.mono ?_
    rintro r w7 ⟨P7, rfl, hn7, hb7⟩
    clear k7
    have hb7' : Below W3.heap.size W3 w7 := hb6.trans (hb7.mono hb6.size)
    have k8 := c12 (n := 0) (HTX.out w7 hb7').1 (by omega)
    go_wp2_with fail
    refine k8.mono ?_
    rintro r w8 ⟨P8, rfl, hn8, hb8⟩
    clear k8
    have HB8 : Hid (Below W3.heap.size W3 w8) := hb7'.trans (hb8.mono hb7'.size)
    have k9 := t_up ((hn6.later hb7).later hb8) (hn7.later hb8) hn8 (HTX.out w8 HB8.out).1
    clear hn6 hn7 hn8 hb6 hb7 hb8 hb7'
    go_wp2_with fail
    refine k9.mono ?_
    rintro r w9 ⟨rfl, hb9⟩
    clear k9
    have HB9 : Hid (Below W3.heap.size W3 w9) := HB8.out.trans (hb9.mono HB8.out.size)
    clear hb9
    have k10 := c61 w9
    have k11 := t_inf (HTX.out w9 HB9.out).2.1
    go_wp2_with fail
    refine k10.mono ?_
    rintro r w10 ⟨rfl, hw10⟩
    replace hw10 := hw10.symm
    subst hw10
    clear k10
    go_wp2_with fail
    refine k11.mono ?_
    rintro r w11 ⟨rfl, hb11⟩
    clear k11
    obtain ⟨W4, hW4⟩ : ∃ W4, W4 = w11.alloc (.cells #[.bool false, .slice none 0 0, .int .i64 0] 25) := ⟨_, rfl⟩
    have HB4' : Hid (Below W3.heap.size W3 W4) := (by rw [hW4]; exact (HB9.out.trans (hb11.mono HB9.out.size)).alloc (Nat.le_trans HB9.out.size hb11.size) _ : Below W3.heap.size W3 W4)
    clear hb11
    have HA : Hid (∀ W', Below W4.heap.size W4 W' → Bx w W' g1 s1 ao1 n1 cap1 ex1 false 3 (-2) ∧ Bx W1 W' g2 s2 ao2 n2 cap2 ex2 true 45 (-2) ∧ Bx W2 W' g3 s3 ao3 n3 cap3 ex3 false 5 (-4) ∧ Ie.Tab W' ∧ Tab10 W' ∧ Below w.heap.size w W') := fun W' h => by
      have h3 : Below W3.heap.size W3 W' := HB4'.out.trans (h.mono HB4'.out.size)
      have h2 : Below W2.heap.size W2 W' := HZ.out.2.2.1.trans (h3.mono HZ.out.2.2.1.size)
      exact ⟨HX2.out.later h2, HY.out.later h2, HZ.out.later h3, (HTX.out W' h3).2.1, (HTX.out W' h3).2.2, HX2.out.2.2.1.trans (h2.mono HX2.out.2.2.1.size)⟩
    obtain ⟨z1, z2, z3, z4, z5, z6⟩ := HA.out W4 (Below.refl _ _)
    obtain ⟨a0, a1, a2⟩ := z1.cells
    rw [hW4] at a0 a1 a2
    have k12 := t_show_a z1.2.2.2 z4 z5
    clear z1 z2 z3 z4 z5 z6
    go_wp2_with fail
    rw [← hW4]
    clear hW4
    refine k12.mono ?_
    rintro r w12 ⟨rfl, hb12⟩
    have HB12 : Hid (Below W4.heap.size W4 w12) := hb12
    clear k12 hb12 a0 a1 a2
    obtain ⟨z1, z2, z3, z4, z5, z6⟩ := HA.out w12 HB12.out
    obtain ⟨a0, a1, a2⟩ := z2.cells
    have k13 := t_show_b z2.2.2.2 z4 z5
    clear z1 z2 z3 z4 z5 z6
    go_wp2_with fail
    refine k13.mono ?_
    rintro r w13 ⟨rfl, hb13⟩
    have HB13 : Hid (Below W4.heap.size W4 w13) := HB12.out.trans (hb13.mono HB12.out.size)
    clear k13 hb13 a0 a1 a2
    obtain ⟨z1, z2, z3, z4, z5, z6⟩ := HA.out w13 HB13.out
    obtain ⟨a0, a1, a2⟩ := z3.cells
    have k14 := t_show_q z3.2.2.2 z4 z5
    clear z1 z2 z3 z4 z5 z6
    go_wp2_with fail
    refine k14.mono ?_
    rintro r w14 ⟨rfl, hb14⟩
    have HB14 : Hid (Below W4.heap.size W4 w14) := HB13.out.trans (hb14.mono HB13.out.size)
    clear k14 hb14 a0 a1 a2
    have k15 := c54 4609047870845172685 4609047870845172685 w14
    go_wp2_with fail
    refine k15.mono ?_
    rintro r w15 ⟨rfl, hw15⟩
    replace hw15 := hw15.symm
    subst hw15
    clear k15
    obtain ⟨z1, z2, z3, z4, z5, z6⟩ := HA.out w14 HB14.out
    obtain ⟨a0, a1, a2⟩ := z1.cells
    have k16 := t_valid z1.2.2.2
    clear z1 z2 z3 z4 z5 z6
    go_wp2_with fail
    refine k16.mono ?_
    rintro r w16 ⟨rfl, hb16⟩
    have HB16 : Hid (Below W4.heap.size W4 w16) := HB14.out.trans (hb16.mono HB14.out.size)
    clear k16 hb16 a0 a1 a2
    obtain ⟨z1, z2, z3, z4, z5, z6⟩ := HA.out w16 HB16.out
    obtain ⟨a0, a1, a2⟩ := z1.cells
    obtain ⟨b0, b1, b2⟩ := z2.cells
    have k17 := t_cmp z1.2.2.2 z2.2.2.2
    clear z1 z2 z3 z4 z5 z6
    go_wp2_with fail
    refine k17.mono ?_
    rintro r w17 ⟨rfl, hb17⟩
    have HB17 : Hid (Below w.heap.size w w17) := (HA.out w17 (HB16.out.trans (hb17.mono HB16.out.size))).2.2.2.2.2
    clear k17 hb17 a0 a1 a2 b0 b1 b2
    go_wp2_with fail
    go_ret
    exact ⟨rfl, HB17.out⟩
end Go.Proofs.YtmhpicccfaklcaaGreatDoor

/- The document's Float, Of, Whole. -/
namespace Go.Proofs.YtmhpicccfaklcaaGreatDoor
set_option linter.unusedVariables false
set_option linter.unusedSimpArgs false
open Go.RowKit Go.Fl64

theorem Nr.shape {w : World} {base : Nat} {a : Value} {neg : Bool} {x : Nat} {e : Int} (h : Nr w base a neg x e) : ∃ s ao n cap ex, a = .agg #[.bool s, .slice ao n cap, .int .i64 ex] := by
  rcases h with ⟨_, rfl⟩ | ⟨_, ao, cap, rfl, -⟩
  · exact ⟨_, _, _, _, _, rfl⟩
  · exact ⟨_, _, _, _, _, rfl⟩
theorem cell_far3 {w : World} {g : Nat} {q : Addr} (h : q.block ≠ g) (a b c : Value) : (((w.setCell ⟨g, 0, none⟩ a).setCell ⟨g, 1, none⟩ b).setCell ⟨g, 2, none⟩ c).cell? q = w.cell? q := by
  have h1 : ∀ i, (⟨g, i, none⟩ : Addr) ≠ q := fun i e => h (by rw [← e])
  rw [World.cell?_setCell_other _ _ _ _ (h1 2), World.cell?_setCell_other _ _ _ _ (h1 1), World.cell?_setCell_other _ _ _ _ (h1 0)]
theorem Nr.store {w : World} {base : Nat} {a : Value} {neg : Bool} {x : Nat} {e : Int} (h : Nr w base a neg x e) {g : Nat} (hg : g < base) (p q r : Value) : Nr (((w.setCell ⟨g, 0, none⟩ p).setCell ⟨g, 1, none⟩ q).setCell ⟨g, 2, none⟩ r) base a neg x e := by
  rcases h with h | ⟨h0, g', cap, h1, h2, b, o, h3, h4⟩
  · exact .inl h
  · refine .inr ⟨h0, g', cap, h1, h2, b, o, h3, fun i hi => ?_⟩
    have h5 := h3 (by omega)
    simp only [Option.some.injEq, Addr.mk.injEq] at h5
    obtain ⟨rfl, rfl, -⟩ := h5
    rw [cell_far3 (by show g' ≠ g; omega)]
    exact h4 i hi
theorem Nr.mono {w : World} {base base' : Nat} {a : Value} {neg : Bool} {x : Nat} {e : Int} (h : Nr w base a neg x e) (hb : base' ≤ base) : Nr w base' a neg x e := by
  rcases h with h | ⟨h0, g', cap, h1, h2, h3⟩
  · exact .inl h
  · exact .inr ⟨h0, g', cap, h1, Nat.le_trans hb h2, h3⟩
theorem Nr.later {w w' : World} {base : Nat} {a : Value} {neg : Bool} {x : Nat} {e : Int} (h : Nr w base a neg x e) (hb : Below w.heap.size w w') : Nr w' base a neg x e := by
  rcases h with h | ⟨h0, g', cap, h1, h2, h3⟩
  · exact .inl h
  · exact .inr ⟨h0, g', cap, h1, h2, h3.later hb⟩

end Go.Proofs.YtmhpicccfaklcaaGreatDoor

/- The document's Of. -/
namespace Go.Proofs.YtmhpicccfaklcaaGreatDoor
set_option linter.unusedVariables false
set_option linter.unusedSimpArgs false
open Go.RowKit Go.Fl64

end Go.Proofs.YtmhpicccfaklcaaGreatDoor

/- The law's same: the program's number and the document's, digit by digit. -/
namespace Go.Proofs.YtmhpicccfaklcaaGreatDoor
set_option linter.unusedVariables false
set_option linter.unusedSimpArgs false
open Go.RowKit Go.Fl64

end Go.Proofs.YtmhpicccfaklcaaGreatDoor

/- What the rows list, brought to the walks: the three tables' cells hold their numbers; and a world in which they do. -/
namespace Go.Proofs.YtmhpicccfaklcaaGreatDoor
set_option linter.unusedVariables false
set_option linter.unusedSimpArgs false
open Go.RowKit Go.Fl64

theorem own : ownKnob Tryz.prog.godebug = none := by kernel_rfl
theorem g64 : Tryz.prog.globalNamed "math/bits.deBruijn64tab" = some 1 := by kernel_rfl
theorem g64t : (Tryz.prog.globals[1]?).map (·.type) = some 175 := by kernel_rfl
theorem g32 : Tryz.prog.globalNamed "math/bits.deBruijn32tab" = some 3 := by kernel_rfl
theorem g32t : (Tryz.prog.globals[3]?).map (·.type) = some 196 := by kernel_rfl
theorem g10t : (Tryz.prog.globals[2]?).map (·.type) = some 193 := by kernel_rfl
theorem cells114 : Tryz.prog.cellsOf 175 = 64 := by kernel_rfl
theorem cells130 : Tryz.prog.cellsOf 196 = 32 := by kernel_rfl
theorem cells146 : Tryz.prog.cellsOf 193 = 20 := by kernel_rfl
theorem cells5 : Tryz.prog.cellsOf 5 = 1 := by kernel_rfl
theorem cells58 : Tryz.prog.cellsOf 79 = 1 := by kernel_rfl

def zs64 : List Int := [0, 1, 56, 2, 57, 49, 28, 3, 61, 58, 42, 50, 38, 29, 17, 4, 62, 47, 59, 36, 45, 43, 51, 22, 53, 39, 33, 30, 24, 18, 12, 5, 63, 55, 48, 27, 60, 41, 37, 16, 46, 35, 44, 21, 52, 32, 23, 11, 54, 26, 40, 15, 34, 20, 31, 10, 25, 14, 19, 9, 13, 8, 7, 6]
def zs32 : List Int := [0, 1, 28, 2, 29, 14, 24, 3, 30, 22, 20, 15, 25, 17, 4, 8, 31, 27, 13, 23, 21, 19, 16, 7, 26, 12, 18, 6, 11, 5, 10, 9]
def zs10 : List Int := [1, 10, 100, 1000, 10000, 100000, 1000000, 10000000, 100000000, 1000000000, 10000000000, 100000000000, 1000000000000, 10000000000000, 100000000000000, 1000000000000000, 10000000000000000, 100000000000000000, 1000000000000000000, 10000000000000000000]
theorem zs64_at : ∀ i, i < 64 → zs64.getD i 0 = ((Lib.deBruijn64tab.getD i 0 : Nat) : Int) := by decide +kernel
theorem zs32_at : ∀ i, i < 32 → zs32.getD i 0 = ((Lib.deBruijn32tab.getD i 0 : Nat) : Int) := by decide +kernel
theorem zs10_eq : zs10 = Lib.pow10Tab := by decide +kernel

theorem tab64_of {W : World} (h : Lib.TabIs Tryz.prog W "math/bits.deBruijn64tab" .u8 zs64) : Ie.Tab W := by
  intro i hi
  have := h.cell g64 i (by exact hi)
  rw [zs64_at i hi] at this
  exact this
theorem tab32_of {W : World} (h : Lib.TabIs Tryz.prog W "math/bits.deBruijn32tab" .u8 zs32) : Tab32 W := by
  intro i hi
  have := h.cell g32 i (by exact hi)
  rw [zs32_at i hi] at this
  exact this
theorem tab10_of {W : World} (h : Lib.TabIs Tryz.prog W "internal/strconv.uint64pow10" .u64 zs10) : Tab10 W := by
  rw [zs10_eq] at h
  exact h

theorem laid_tail {P : Program} {W : World} {x : String × DataW Unit} {rest : List (String × DataW Unit)} (h : laidMet P (x :: rest) W) : laidMet P rest W := by
  obtain ⟨ps, ⟨g', t', cs, fuel, p, q, hg', ht', hvar, hd, hr, rfl⟩, hn, hc⟩ := h
  exact ⟨q, hr, (List.nodup_append.1 hn).2.1, fun b off hm => hc b off (List.mem_append_right _ hm)⟩

/-- the three tables, out of the rows' list in its order: 32, 64, ten -/
theorem tabs_of {W : World} (h : laidMet Tryz.prog [("math/bits.deBruijn32tab", Lib.tabData .u8 zs32), ("math/bits.deBruijn64tab", Lib.tabData .u8 zs64), ("internal/strconv.uint64pow10", Lib.tabData .u64 zs10)] W) : Tab32 W ∧ Ie.Tab W ∧ Tab10 W :=
  ⟨tab32_of (Lib.tabIs_of_head g32 g32t Tryz.underlying196 Tryz.underlying5 cells5 cells130 h),
   tab64_of (Lib.tabIs_of_head g64 g64t Tryz.underlying175 Tryz.underlying5 cells5 cells114 (laid_tail h)),
   tab10_of (Lib.tabIs_of_head g10 g10t Tryz.underlying193 Tryz.underlying79 cells58 cells146 (laid_tail (laid_tail h)))⟩

/-- A world whose tables' blocks hold what their initialisers lay. -/
def laidOn (w : World) : World :=
  { w with heap := ((w.heap.modify 1 fun
      | .cells _ t frozen => .cells #[.int .u8 0, .int .u8 1, .int .u8 56, .int .u8 2, .int .u8 57, .int .u8 49, .int .u8 28, .int .u8 3, .int .u8 61, .int .u8 58, .int .u8 42, .int .u8 50, .int .u8 38, .int .u8 29, .int .u8 17, .int .u8 4, .int .u8 62, .int .u8 47, .int .u8 59, .int .u8 36, .int .u8 45, .int .u8 43, .int .u8 51, .int .u8 22, .int .u8 53, .int .u8 39, .int .u8 33, .int .u8 30, .int .u8 24, .int .u8 18, .int .u8 12, .int .u8 5, .int .u8 63, .int .u8 55, .int .u8 48, .int .u8 27, .int .u8 60, .int .u8 41, .int .u8 37, .int .u8 16, .int .u8 46, .int .u8 35, .int .u8 44, .int .u8 21, .int .u8 52, .int .u8 32, .int .u8 23, .int .u8 11, .int .u8 54, .int .u8 26, .int .u8 40, .int .u8 15, .int .u8 34, .int .u8 20, .int .u8 31, .int .u8 10, .int .u8 25, .int .u8 14, .int .u8 19, .int .u8 9, .int .u8 13, .int .u8 8, .int .u8 7, .int .u8 6] t frozen
      | o => o).modify 3 fun
      | .cells _ t frozen => .cells #[.int .u8 0, .int .u8 1, .int .u8 28, .int .u8 2, .int .u8 29, .int .u8 14, .int .u8 24, .int .u8 3, .int .u8 30, .int .u8 22, .int .u8 20, .int .u8 15, .int .u8 25, .int .u8 17, .int .u8 4, .int .u8 8, .int .u8 31, .int .u8 27, .int .u8 13, .int .u8 23, .int .u8 21, .int .u8 19, .int .u8 16, .int .u8 7, .int .u8 26, .int .u8 12, .int .u8 18, .int .u8 6, .int .u8 11, .int .u8 5, .int .u8 10, .int .u8 9] t frozen
      | o => o).modify 2 fun
      | .cells _ t frozen => .cells #[.int .u64 1, .int .u64 10, .int .u64 100, .int .u64 1000, .int .u64 10000, .int .u64 100000, .int .u64 1000000, .int .u64 10000000, .int .u64 100000000, .int .u64 1000000000, .int .u64 10000000000, .int .u64 100000000000, .int .u64 1000000000000, .int .u64 10000000000000, .int .u64 100000000000000, .int .u64 1000000000000000, .int .u64 10000000000000000, .int .u64 100000000000000000, .int .u64 1000000000000000000, .int .u64 10000000000000000000] t frozen
      | o => o }
end Go.Proofs.YtmhpicccfaklcaaGreatDoor

/- compare, where the signs are alike. -/
namespace Go.Proofs.YtmhpicccfaklcaaGreatDoor
set_option linter.unusedVariables false
set_option linter.unusedSimpArgs false
open Go.RowKit Go.Fl64

end Go.Proofs.YtmhpicccfaklcaaGreatDoor

/- compare and Cmp joined; Round. -/
namespace Go.Proofs.YtmhpicccfaklcaaGreatDoor
set_option linter.unusedVariables false
set_option linter.unusedSimpArgs false
open Go.RowKit Go.Fl64

theorem cmpI_cases (x y : Int) : (x < y ∧ cmpI x y = -1) ∨ (y < x ∧ cmpI x y = 1) ∨ (x = y ∧ cmpI x y = 0) := by
  unfold cmpI
  by_cases h1 : x < y
  · rw [if_pos h1]; exact .inl ⟨h1, rfl⟩
  · rw [if_neg h1]
    by_cases h2 : y < x
    · rw [if_pos h2]; exact .inr (.inl ⟨h2, rfl⟩)
    · rw [if_neg h2]; exact .inr (.inr ⟨by omega, rfl⟩)
theorem c48 (m : Int) (hm : m = 1 ∨ m = 2 ∨ m = 3) (w : World) : Calls Tryz.prog 70 #[.int .i64 m] w fun r w' => r = .returned (.bool true) ∧ w' = w := by
  rcases hm with rfl | rfl | rfl
  all_goals go_enter Tryz.func70, Tryz.ntmps70
  all_goals go_wp2
  all_goals go_ret
  all_goals exact ⟨rfl, rfl⟩

set_option maxRecDepth 200000 in
theorem c24_1 (na : Bool) (ua : Option Addr) (un uc F : Nat) (ea mode : Int) (w : World)
    (k43 : ∀ W g, Below w.heap.size w W → W.heap[g]? = some (.cells #[.bool na, .slice ua un uc, .int .i64 ea] 25 (0, 0)) → Calls Tryz.prog 47 #[.slice (some ⟨g, 0, none⟩) 1 1] W fun r w' => r = .returned (.bool true) ∧ Below W.heap.size W w')
    (k48 : ∀ W, Calls Tryz.prog 70 #[.int .i64 mode] W fun r w' => r = .returned (.bool true) ∧ w' = W)
    (k49 : ∀ W, Below w.heap.size w W → Calls Tryz.prog 71 #[.agg #[.bool na, .slice ua un uc, .int .i64 ea], .int .i64 mode] W fun r w' => r = .returned (.float .f64 F) ∧ Below W.heap.size W w') :
    Calls Tryz.prog 28 #[.agg #[.bool na, .slice ua un uc, .int .i64 ea], .int .i64 mode] w fun r w' => r = .returned (.tuple #[.float .f64 F, .int .i64 0]) ∧ Below w.heap.size w w' := by
  obtain ⟨W, hW⟩ : ∃ W, W = w.alloc (.cells #[.bool na, .slice ua un uc, .int .i64 ea] 25) := ⟨_, rfl⟩
  have hBW : Below w.heap.size w W := by rw [hW]; exact (Below.refl _ _).alloc (Nat.le_refl _) _
  have hsz : W.heap.size = w.heap.size + 1 := by rw [hW]; simp
  have hbx : W.heap[w.heap.size]? = some (.cells #[.bool na, .slice ua un uc, .int .i64 ea] 25 (0, 0)) := by rw [hW]; exact heap_alloc_new _ _
  have k1 := k43 (W.alloc (.cells #[.bool na, .slice ua un uc, .int .i64 ea] 25)) (w.heap.size + 1) (hBW.alloc hBW.size _) (by rw [← hsz]; exact heap_alloc_new _ _)
  have HX : Hid (Below w.heap.size w W ∧ W.heap.size = w.heap.size + 1 ∧ W.heap[w.heap.size]? = some (.cells #[.bool na, .slice ua un uc, .int .i64 ea] 25 (0, 0))) := ⟨hBW, hsz, hbx⟩
  have HK : Hid (∀ W, Below w.heap.size w W → Calls Tryz.prog 71 #[.agg #[.bool na, .slice ua un uc, .int .i64 ea], .int .i64 mode] W fun r w' => r = .returned (.float .f64 F) ∧ Below W.heap.size W w') := k49
  clear hBW hsz hbx k43 k49
  go_enter Tryz.func28, Tryz.ntmps28
  go_wp2_with fail
  rw [← hW]
  clear hW
  refine k1.mono ?_
  rintro r w1 ⟨rfl, hb1⟩
  have HB1 : Hid (Below W.heap.size W w1) := ((Below.refl W.heap.size W).alloc (Nat.le_refl _) _).trans (hb1.mono (by simp))
  clear k1 hb1
  obtain ⟨⟨x0, x1, x2⟩, -⟩ := box_cells (box_later HX.out.2.2 HB1.out (by have := HX.out.2.1; omega))
  have HB2 : Hid (Below w.heap.size w w1) := HX.out.1.trans (HB1.out.mono HX.out.1.size)
  have k2 := k48 w1
  clear k48
  go_wp2_with fail
  refine k2.mono ?_
  rintro r w2 ⟨rfl, hw2⟩
  replace hw2 := hw2.symm
  subst hw2
  clear k2
  have k3 := HK.out w1 HB2.out
  go_wp2_with fail
  refine k3.mono ?_
  rintro r w3 ⟨rfl, hb3⟩
  have HB3 : Hid (Below w.heap.size w w3) := HB2.out.trans (hb3.mono HB2.out.size)
  clear k3 hb3 x0 x1 x2
  go_wp2_with fail
  refine bodyPost_ret (results_tmp2 rfl _ _ _) rfl ?_
  exact ⟨rfl, HB3.out⟩
end Go.Proofs.YtmhpicccfaklcaaGreatDoor

/- The laws' give: a number with digits of its own. -/
namespace Go.Proofs.YtmhpicccfaklcaaGreatDoor
set_option linter.unusedVariables false
set_option linter.unusedSimpArgs false
open Go.RowKit

theorem setCell_block {w : World} {g k : Nat} (i : Nat) (v : Value) (h : k ≠ g) : (w.setCell ⟨g, i, none⟩ v).heap[k]? = w.heap[k]? := by
  simp [World.setCell, Array.getElem?_modify, Ne.symm h]
/-- v is a slice in memory of its own (from block base on) that holds the lowest n digits of z -/
def Dn (w : World) (base : Nat) (v : Value) (n z : Nat) : Prop :=
  (v = .slice none 0 0 ∧ n = 0) ∨ ∃ g cap c, v = .slice (some ⟨g, 0, none⟩) n cap ∧ base ≤ g ∧ (n ≤ cap ∧ cap ≤ 9223372036854775807) ∧ w.heap[g]? = some (.cells c 65 (0, 0)) ∧ c.size = cap ∧ ∀ i, i < n → c[i]? = some (.int .u32 (dg z i : Nat))

set_option maxHeartbeats 4000000 in
set_option maxRecDepth 200000 in
theorem give_1 (ng : Bool) (b o n cap z : Nat) (e : Int) (w : World) (hn0 : 0 < n) (hn : n ≤ 35184372088832) (hcell : ∀ i, i < n → w.cell? ⟨b, o + i, none⟩ = some (.int .u32 (dg z i : Nat))) :
    Calls Tryz.prog 9 #[.agg #[.bool ng, .slice (some ⟨b, o, none⟩) n cap, .int .i64 e]] w fun r w' => ∃ v, r = .returned (.agg #[.bool ng, v, .int .i64 e]) ∧ Dn w' w.heap.size v n z ∧ Below w.heap.size w w' := by
  obtain ⟨W, hW⟩ : ∃ W, W = (w.alloc (.cells #[.bool ng, .slice (some ⟨b, o, none⟩) n cap, .int .i64 e] 24)).alloc (.cells #[.bool false, .slice none 0 0, .int .i64 0] 25) := ⟨_, rfl⟩
  have hBW : Below w.heap.size w W := by rw [hW]; exact ((Below.refl _ _).alloc (Nat.le_refl _) _).alloc (by simp) _
  have hbA : W.heap[w.heap.size]? = some (.cells #[.bool ng, .slice (some ⟨b, o, none⟩) n cap, .int .i64 e] 24 (0, 0)) := by
    rw [hW, Below.heap_alloc _ _ _ (by simp)]; exact heap_alloc_new _ _
  have hbB : W.heap[w.heap.size + 1]? = some (.cells #[.bool false, .slice none 0 0, .int .i64 0] 25 (0, 0)) := by
    have := heap_alloc_new (w.alloc (.cells #[.bool ng, .slice (some ⟨b, o, none⟩) n cap, .int .i64 e] 24)) (.cells #[.bool false, .slice none 0 0, .int .i64 0] 25)
    rw [hW]; simpa using this
  have hsz : W.heap.size = w.heap.size + 1 + 1 := by rw [hW]; simp
  have HN : Hid (∀ j u, (cells z n)[j]? = some u → W.drew.cell? ((⟨b, o, none⟩ : Addr).add j) = some u) := fun j u hj => by
    have hjl : j < n := by
      have := (List.getElem?_eq_some_iff.1 hj).1
      rwa [cells_length] at this
    rw [cells_get hjl] at hj
    rw [show (⟨b, o, none⟩ : Addr).add j = ⟨b, o + j, none⟩ by simp [Addr.add], ← hj]
    exact (hBW.cell (World.block_lt_of_cell? _ _ (hcell j hjl))).trans (hcell j hjl)
  have HX : Hid (Below w.heap.size w W ∧ W.heap.size = w.heap.size + 1 + 1 ∧ W.heap[w.heap.size]? = some (.cells #[.bool ng, .slice (some ⟨b, o, none⟩) n cap, .int .i64 e] 24 (0, 0)) ∧ W.heap[w.heap.size + 1]? = some (.cells #[.bool false, .slice none 0 0, .int .i64 0] 25 (0, 0))) := ⟨hBW, hsz, hbA, hbB⟩
  obtain ⟨⟨a0, a1, a2⟩, -⟩ := box_cells29 hbA
  clear hbA hbB hsz hBW hcell
  obtain ⟨i0, hi0, hz0, hz1, hz2⟩ := info_parts Tryz.info65
  go_enter Tryz.func9, Tryz.ntmps9
  go_upto_region 2 with fail
  rw [← hW]
  clear hW
  go_region_held3 (fun w' => w'.cell? ⟨w.heap.size, 0, none⟩ = some (.bool ng) ∧ w'.cell? ⟨w.heap.size, 1, none⟩ = some (.slice (some ⟨b, o, none⟩) n cap) ∧ w'.cell? ⟨w.heap.size, 2, none⟩ = some (.int .i64 e)) (first | (with_reducible assumption) | exact ⟨a0, a1, a2⟩ | exact hS2 | go_keep)
    (first | (refine step_append_grows rfl (.tmp 6) (.tmp 8) 22 rfl 65 i0 (.int .u32 0) 1 4 Tryz.underlying22 hi0 hz0 hz1 hz2 rfl (by decide) none 0 0 [] (by simp [Act.eval, Act.put]) (fun _ => ⟨rfl, rfl⟩) rfl (fun _ h => by cases h) ⟨b, o, none⟩ n cap (cells z n) (by simp [Act.eval, Act.put]) (by rw [cells_length, Nat.mul_one]) HN.out (by intro u hu; simp [cells] at hu; obtain ⟨j, -, rfl⟩ := hu; rfl) (by omega) (by unfold maxLen; omega) (by omega) ?_; intro v' w2 hown hgrow; rw [Nat.zero_add, List.nil_append] at hown; have HG : Hid (Below W.heap.size W w2) := Below.grown (Below.refl W.heap.size W).drew hgrow (Nat.le_refl _) (fun k hk => by cases hk); have hb2 := box_later HX.out.2.2.2 HG.out (by have := HX.out.2.1; omega); obtain ⟨⟨x1, x2, x3⟩, x4, x5, x6⟩ := box_cells hb2; obtain ⟨g2, cap2, cur2, rfl, hg2, hc2, hc3, hc4, hc5, hc6⟩ := (hown.2.resolve_left fun h => by omega); have HR : Hid (w2.heap[w.heap.size + 1]? = some (.cells #[.bool false, .slice none 0 0, .int .i64 0] 25 (0, 0)) ∧ W.heap.size ≤ g2 ∧ w2.heap[g2]? = some (.cells cur2 65 (0, 0)) ∧ (n ≤ cap2 ∧ cap2 ≤ 9223372036854775807) ∧ cur2.size = cap2 * 1 ∧ cur2.toList.take (n * 1) = cells z n) := ⟨hb2, hg2, hc2, ⟨hc3, by unfold maxLen at hc4; omega⟩, hc5, hc6⟩; have hS2 := (box_cells29 (box_later HX.out.2.2.1 HG.out (by have := HX.out.2.1; omega))).1; clear hown hgrow hb2 hg2 hc2 hc3 hc4 hc5 hc6))
  have HR2 : Hid (w2.heap[w.heap.size + 1]? = some (.cells #[.bool false, .slice none 0 0, .int .i64 0] 25 (0, 0)) ∧ W.heap.size ≤ g2 ∧ w2.heap[g2]? = some (.cells cur2 65 (0, 0)) ∧ (n ≤ cap2 ∧ cap2 ≤ 9223372036854775807) ∧ cur2.size = cap2 * 1 ∧ cur2.toList.take (n * 1) = cells z n) := HR
  clear hS2 x1 x2 x3 x4 x5 x6 a0 a1 a2 hi0 hz0 hz1 hz2 HR HN
  go_wp2
  refine bodyPost_ret (results_cell_row rfl _ _ (w.heap.size + 1) 25 #[.bool ng, .slice (some ⟨g2, 0, none⟩) n cap2, .int .i64 e] (0, 0) _ rfl (store3 _ _ _ HR2.out.1) Tryz.underlying25 rfl Tryz.info25) rfl ?_
  obtain ⟨h1, h2, h3, h4, h5, h6⟩ := HR2.out
  obtain ⟨q1, q2, -, -⟩ := HX.out
  refine ⟨_, rfl, .inr ⟨g2, cap2, cur2, rfl, by omega, h4, ?_, by omega, fun i hi => ?_⟩, below_store3 (q1.trans (HG.out.mono q1.size)) (by omega) _ _ _⟩
  · rw [setCell_block _ _ (by omega), setCell_block _ _ (by omega), setCell_block _ _ (by omega)]
    exact h3
  · have h7 : (cells z n)[i]? = cur2[i]? := by
      rw [← h6, Nat.mul_one, List.getElem?_take, if_pos hi, Array.getElem?_toList]
    rw [← h7, cells_get hi]

theorem step_append_zero {P : Program} {ops : Array Oper} {o : Oper} {a : Act} {w : World} {K : Act → World → Prop} {Q : Exit → Act → World → Prop} {E : Prop}
    (hg : o.guard = none) (s x : Operand) (t : TypeId) (hop : o.op = Op.call { callee := Callee.builtin Builtin.append, args := #[s, x], argTypes := #[t, t] })
    (e : TypeId) (i : TypeInfo) (z : Value) (size bytes : Nat) (h1 : P.underlying t = some (.slice e)) (h2 : P.info? e = some i) (h3 : i.zero = some z) (h4 : i.size = size) (h5 : i.bytes = bytes) (h6 : z.cells.size = size) (h7 : 0 < size)
    (hs : a.eval s = .slice none 0 0) (ao : Option Addr) (c : Nat) (hx : a.eval x = .slice ao 0 c) (hao : (∃ ad, ao = some ad) ∨ (ao = none ∧ c = 0))
    (hK : ∀ w', Below w.heap.size w w' → K (a.put o.dst (.slice none 0 0)) w') :
    if Region.wanted o (yielded ops a.tmps) = true then Oper.wp P o a w K Q else E := by
  have hw : Region.wanted o (yielded ops a.tmps) = true := by simp [Region.wanted, hg]
  rw [if_pos hw]
  rcases hao with ⟨ad, rfl⟩ | ⟨rfl, rfl⟩
  · obtain ⟨v', w', hrun, r1, r2, r3⟩ := run_append_own (P := P) w w.heap.size t o.type e i z size bytes h1 h2 h3 h4 h5 h6 h7 (.slice none 0 0) 0 [] (World.ownsRow_nil w _ e size) ad 0 c [] (by simp) (by intro j u hj; simp at hj) (by intro u hu; simp at hu) (by unfold maxLen; omega) (by omega) (Nat.le_refl _)
    obtain rfl : v' = .slice none 0 0 := r3.2 ⟨rfl, rfl⟩
    unfold Oper.wp
    simp [execOp, hop, resolve, invoke, builtin, hs, hx, hrun, Result.andThen]
    exact hK w' (Below.grown (Below.refl _ _) r2 (Nat.le_refl _) (fun k hk => by simp [Value.ownBlock] at hk))
  · have hrun := run_append_owned_none (P := P) (w := w) w.heap.size t o.type e i size h1 h2 (.slice none 0 0) 0 [] (World.ownsRow_nil w _ e size)
    unfold Oper.wp
    simp [execOp, hop, resolve, invoke, builtin, hs, hx, hrun, Result.andThen]
    exact hK w (Below.refl _ _)

set_option maxHeartbeats 4000000 in
set_option maxRecDepth 200000 in
theorem give_0 (ng : Bool) (ao : Option Addr) (cap : Nat) (e : Int) (w : World) (hao : (∃ ad, ao = some ad) ∨ (ao = none ∧ cap = 0)) :
    Calls Tryz.prog 9 #[.agg #[.bool ng, .slice ao 0 cap, .int .i64 e]] w fun r w' => r = .returned (.agg #[.bool ng, .slice none 0 0, .int .i64 e]) ∧ Below w.heap.size w w' := by
  obtain ⟨W, hW⟩ : ∃ W, W = (w.alloc (.cells #[.bool ng, .slice ao 0 cap, .int .i64 e] 24)).alloc (.cells #[.bool false, .slice none 0 0, .int .i64 0] 25) := ⟨_, rfl⟩
  have hBW : Below w.heap.size w W := by rw [hW]; exact ((Below.refl _ _).alloc (Nat.le_refl _) _).alloc (by simp) _
  have hbA : W.heap[w.heap.size]? = some (.cells #[.bool ng, .slice ao 0 cap, .int .i64 e] 24 (0, 0)) := by
    rw [hW, Below.heap_alloc _ _ _ (by simp)]; exact heap_alloc_new _ _
  have hbB : W.heap[w.heap.size + 1]? = some (.cells #[.bool false, .slice none 0 0, .int .i64 0] 25 (0, 0)) := by
    have := heap_alloc_new (w.alloc (.cells #[.bool ng, .slice ao 0 cap, .int .i64 e] 24)) (.cells #[.bool false, .slice none 0 0, .int .i64 0] 25)
    rw [hW]; simpa using this
  have hsz : W.heap.size = w.heap.size + 1 + 1 := by rw [hW]; simp
  have HX : Hid (Below w.heap.size w W ∧ W.heap.size = w.heap.size + 1 + 1 ∧ W.heap[w.heap.size]? = some (.cells #[.bool ng, .slice ao 0 cap, .int .i64 e] 24 (0, 0)) ∧ W.heap[w.heap.size + 1]? = some (.cells #[.bool false, .slice none 0 0, .int .i64 0] 25 (0, 0))) := ⟨hBW, hsz, hbA, hbB⟩
  have HAO : Hid ((∃ ad, ao = some ad) ∨ (ao = none ∧ cap = 0)) := hao
  obtain ⟨⟨a0, a1, a2⟩, -⟩ := box_cells29 hbA
  clear hbA hbB hsz hBW hao
  obtain ⟨i0, hi0, hz0, hz1, hz2⟩ := info_parts Tryz.info65
  go_enter Tryz.func9, Tryz.ntmps9
  go_upto_region 2 with fail
  rw [← hW]
  clear hW
  go_region_held3 (fun w' => w'.cell? ⟨w.heap.size, 0, none⟩ = some (.bool ng) ∧ w'.cell? ⟨w.heap.size, 1, none⟩ = some (.slice ao 0 cap) ∧ w'.cell? ⟨w.heap.size, 2, none⟩ = some (.int .i64 e)) (first | (with_reducible assumption) | exact ⟨a0, a1, a2⟩ | exact hS2 | go_keep)
    (first | (refine step_append_zero rfl (.tmp 6) (.tmp 8) 22 rfl 65 i0 (.int .u32 0) 1 4 Tryz.underlying22 hi0 hz0 hz1 hz2 rfl (by decide) (by simp [Act.eval, Act.put]) ao cap (by simp [Act.eval, Act.put]) HAO.out ?_; intro w2 hb; have HG : Hid (Below W.heap.size W w2) := (Below.refl W.heap.size W).drew.trans hb; have hb2 := box_later HX.out.2.2.2 HG.out (by have := HX.out.2.1; omega); obtain ⟨⟨x1, x2, x3⟩, x4, x5, x6⟩ := box_cells hb2; have HR : Hid (w2.heap[w.heap.size + 1]? = some (.cells #[.bool false, .slice none 0 0, .int .i64 0] 25 (0, 0))) := hb2; have hS2 := (box_cells29 (box_later HX.out.2.2.1 HG.out (by have := HX.out.2.1; omega))).1; clear hb hb2))
  have HR2 : Hid (w2.heap[w.heap.size + 1]? = some (.cells #[.bool false, .slice none 0 0, .int .i64 0] 25 (0, 0))) := HR
  clear hS2 x1 x2 x3 x4 x5 x6 a0 a1 a2 hi0 hz0 hz1 hz2 HR
  go_wp2
  refine bodyPost_ret (results_cell_row rfl _ _ (w.heap.size + 1) 25 #[.bool ng, .slice none 0 0, .int .i64 e] (0, 0) _ rfl (store3 _ _ _ HR2.out) Tryz.underlying25 rfl Tryz.info25) rfl ?_
  obtain ⟨q1, q2, -, -⟩ := HX.out
  exact ⟨rfl, below_store3 (q1.trans (HG.out.mono q1.size)) (by omega) _ _ _⟩

/-- a number as the laws are handed it: n digits of z, in memory -/
structure Arg (w : World) (ao : Option Addr) (n cap z : Nat) : Prop where
  nil : n = 0 → (∃ ad, ao = some ad) ∨ (ao = none ∧ cap = 0)
  at_ : At w ao n z
  le : n ≤ cap
  small : n ≤ 35184372088832
theorem Arg.later {w w' : World} {ao : Option Addr} {n cap z : Nat} (h : Arg w ao n cap z) (hb : Below w.heap.size w w') : Arg w' ao n cap z := ⟨h.nil, h.at_.later hb, h.le, h.small⟩

theorem give_ok {ng : Bool} {ao : Option Addr} {n cap z : Nat} {e : Int} {w : World} (h : Arg w ao n cap z) :
    Calls Tryz.prog 9 #[.agg #[.bool ng, .slice ao n cap, .int .i64 e]] w fun r w' => ∃ v, r = .returned (.agg #[.bool ng, v, .int .i64 e]) ∧ Dn w' w.heap.size v n z ∧ Below w.heap.size w w' := by
  by_cases h0 : n = 0
  · subst h0
    refine (give_0 ng ao cap e w (h.nil rfl)).mono ?_
    rintro r w' ⟨rfl, hb⟩
    exact ⟨_, rfl, .inl ⟨rfl, rfl⟩, hb⟩
  · obtain ⟨b, o, h1, h2⟩ := h.at_
    obtain rfl := h1 (by omega)
    exact give_1 ng b o n cap z e w (by omega) h.small h2

theorem Dn.later {w w' : World} {base : Nat} {v : Value} {n z : Nat} (h : Dn w base v n z) (hb : Below w.heap.size w w') : Dn w' base v n z := by
  rcases h with h | ⟨g, cap, c, h0, h1, h2, h3, h4, h5⟩
  · exact .inl h
  · exact .inr ⟨g, cap, c, h0, h1, h2, (hb.block g (Array.getElem?_eq_some_iff.1 h3).1).trans h3, h4, h5⟩
theorem Dn.row {w : World} {base : Nat} {v : Value} {n z : Nat} (h : Dn w base v n z) {g : Nat} {cs : Array Value} {t : TypeId} {fr : Nat × Nat} (hg : w.heap[g]? = some (.cells cs t fr)) (ht : t ≠ 65) (cs' : Array Value) : Dn (w.setRow g cs') base v n z := by
  rcases h with h | ⟨g', cap, c, h0, h1, h2, h3, h4, h5⟩
  · exact .inl h
  · refine .inr ⟨g', cap, c, h0, h1, h2, ?_, h4, h5⟩
    rw [setRow_other]
    · exact h3
    · intro e
      subst e
      rw [h3] at hg
      simp only [Option.some.injEq, Obj.cells.injEq] at hg
      exact ht hg.2.1.symm
theorem Dn.mono {w : World} {base base' : Nat} {v : Value} {n z : Nat} (h : Dn w base v n z) (hb : base' ≤ base) : Dn w base' v n z := by
  rcases h with h | ⟨g, cap, c, h0, h1, h2⟩
  · exact .inl h
  · exact .inr ⟨g, cap, c, h0, by omega, h2⟩
theorem Dn.at {w : World} {base : Nat} {v : Value} {n z : Nat} (h : Dn w base v n z) : ∃ ao cap, v = .slice ao n cap ∧ n ≤ cap ∧ At w ao n z := by
  rcases h with ⟨rfl, rfl⟩ | ⟨g, cap, c, rfl, h1, h2, h3, h4, h5⟩
  · exact ⟨none, 0, rfl, by omega, 0, 0, fun h => by omega, fun i hi => by omega⟩
  · exact ⟨_, cap, rfl, h2.1, g, 0, fun _ => rfl, fun i hi => by rw [Nat.zero_add]; simp [World.cell?, h3, h5 i hi]⟩
end Go.Proofs.YtmhpicccfaklcaaGreatDoor

/- Several numbers given at once: x, y := give(a), give(b). -/
namespace Go.Proofs.YtmhpicccfaklcaaGreatDoor
set_option linter.unusedVariables false
set_option linter.unusedSimpArgs false
open Go.RowKit

/-- a frame with values put into slots, one behind the other -/
def putL (a : Act) (l : List (Tmp × Value)) : Act := l.foldl (fun a p => a.put (some p.1) p.2) a

theorem putL_defers (l : List (Tmp × Value)) : ∀ a : Act, (putL a l).defers = a.defers := by
  induction l with
  | nil => intro a; rfl
  | cons p r ih => intro a; show (putL (a.put (some p.1) p.2) r).defers = _; rw [ih, put_defers]
theorem putL_other {s : Tmp} (l : List (Tmp × Value)) : ∀ a : Act, s ∉ l.map (·.1) → (putL a l).tmps[s]? = a.tmps[s]? := by
  induction l with
  | nil => intro a _; rfl
  | cons p r ih =>
    intro a h
    simp only [List.map_cons, List.mem_cons, not_or] at h
    show (putL (a.put (some p.1) p.2) r).tmps[s]? = _
    rw [ih _ h.2, put_get_ne h.1]
theorem putL_mem {s : Tmp} {v : Value} (l : List (Tmp × Value)) : ∀ a : Act, (s, v) ∈ l → (l.map (·.1)).Nodup → s < a.tmps.size → (putL a l).tmps[s]? = some v := by
  induction l with
  | nil => intro a h; cases h
  | cons p r ih =>
    intro a h hn hs
    simp only [List.map_cons, List.nodup_cons] at hn
    show (putL (a.put (some p.1) p.2) r).tmps[s]? = _
    rcases List.mem_cons.1 h with h | h
    · subst h
      rw [putL_other _ _ hn.1, put_get hs]
    · exact ih _ h hn.2 (by rw [put_size]; exact hs)
theorem act_putL {a a0 : Act} {l : List (Tmp × Value)} (hn : (l.map (·.1)).Nodup) (hs : a.tmps.size = a0.tmps.size) (hd : a.defers = a0.defers) (hl : ∀ p ∈ l, a.tmps[p.1]? = some p.2) (ho : ∀ s, s ∉ l.map (·.1) → a.tmps[s]? = a0.tmps[s]?) : a = putL a0 l := by
  have ht : a.tmps = (putL a0 l).tmps := by
    refine Array.ext_getElem? fun s => ?_
    by_cases h : s ∈ l.map (·.1)
    · obtain ⟨p, hp, rfl⟩ := List.mem_map.1 h
      have h1 := hl p hp
      rw [h1, putL_mem l a0 hp hn (by rw [← hs]; exact (Array.getElem?_eq_some_iff.1 h1).1)]
    · rw [putL_other l a0 h]; exact ho s h
  have hd' : a.defers = (putL a0 l).defers := by rw [putL_defers]; exact hd
  cases a with
  | mk t d =>
    cases hp : putL a0 l with
    | mk t' d' =>
      rw [hp] at ht hd'
      simp only at ht hd'
      rw [ht, hd']

/-- the slot of value number j: loads stand at even numbers, calls at odd ones -/
def gslot (ld cl : Nat → Tmp) (j : Nat) : Tmp := if j % 2 = 0 then ld (j / 2) else cl (j / 2)
def gval (W0 : World) (ng : Nat → Bool) (ao : Nat → Option Addr) (ln cp z : Nat → Nat) (e : Nat → Int) (j : Nat) (w : World) (u : Value) : Prop :=
  if j % 2 = 0 then u = .agg #[.bool (ng (j / 2)), .slice (ao (j / 2)) (ln (j / 2)) (cp (j / 2)), .int .i64 (e (j / 2))]
  else ∃ v, u = .agg #[.bool (ng (j / 2)), v, .int .i64 (e (j / 2))] ∧ Dn w W0.heap.size v (ln (j / 2)) (z (j / 2))

theorem follows_mixed : Tryz.prog.follows .mixedOrders = true := by kernel_rfl
theorem zero_num (w : World) : (zeroValue 25).run Tryz.prog w = .ok (.agg #[.bool false, .slice none 0 0, .int .i64 0]) w := Tryz.zeroValue25 w

theorem give_region {ops : Array Oper} {Q : Exit → Act → World → Prop} {id : Nat} (n : Nat) (src ld cl bx : Nat → Tmp) (gs : Nat → Nat) (ng : Nat → Bool) (ao : Nat → Option Addr) (ln cp z : Nat → Nat) (e : Nat → Int) (W0 : World) (a0 : Act)
    (hsz : ops.size = 2 * n + n + n) (hord : ∀ (i : Nat) (o : Oper), ops[i]? = some o → ∀ e ∈ o.after, e.on < i)
    (hsrc : ∀ k, k < n → a0.tmps[src k]? = some (.pointer (some ⟨gs k, 0, none⟩)) ∧ W0.heap[gs k]? = some (.cells #[.bool (ng k), .slice (ao k) (ln k) (cp k), .int .i64 (e k)] 24 (0, 0)) ∧ Arg W0 (ao k) (ln k) (cp k) (z k))
    (hfree : ∀ k, k < n → (∀ j, j < 2 * n → src k ≠ gslot ld cl j) ∧ ∀ j, j < n → src k ≠ bx j)
    (hld : ∀ k, k < n → ∃ o, ops[2 * k]? = some o ∧ o.guard = none ∧ o.op = .load 24 (.tmp (src k)) ∧ o.dst = some (ld k))
    (hcl : ∀ k, k < n → ∃ o, ops[2 * k + 1]? = some o ∧ o.guard = none ∧ (∃ ts, o.op = .call { callee := .value (.func 9), args := #[.tmp (ld k)], argTypes := ts }) ∧ o.dst = some (cl k) ∧ ∃ e ∈ o.after, e.on = 2 * k ∧ Region.binds .any e = true)
    (hal : ∀ k, k < n → ∃ o, ops[2 * n + k]? = some o ∧ o.guard = none ∧ o.op = .alloc 25 ∧ o.dst = some (bx k))
    (hst : ∀ k, k < n → ∃ o, ops[2 * n + n + k]? = some o ∧ o.guard = none ∧ o.op = .store 25 (.tmp (bx k)) (.tmp (cl k)) ∧ o.dst = none ∧ (∃ e ∈ o.after, e.on = 2 * n + k ∧ Region.binds .any e = true) ∧ (∃ e ∈ o.after, e.on = 2 * k + 1 ∧ Region.binds .any e = true))
    (hin : ∀ j, j < 2 * n → gslot ld cl j < a0.tmps.size) (hbin : ∀ k, k < n → bx k < a0.tmps.size)
    (hinj : ∀ j, j < 2 * n → ∀ j', j' < 2 * n → gslot ld cl j = gslot ld cl j' → j = j') (hbinj : ∀ k, k < n → ∀ k', k' < n → bx k = bx k' → k = k') (hsb : ∀ j, j < 2 * n → ∀ k, k < n → gslot ld cl j ≠ bx k)
    (hQ : ∀ (u v : Nat → Value) (g : Nat → Nat) (w : World), Below W0.heap.size W0 w → (∀ k, k < n → Dn w W0.heap.size (v k) (ln k) (z k) ∧ W0.heap.size ≤ g k ∧ w.heap[g k]? = some (.cells #[.bool (ng k), v k, .int .i64 (e k)] 25 (0, 0))) →
      Q .normal (putL a0 ((List.range (2 * n)).map (fun j => (gslot ld cl j, u j)) ++ (List.range n).map (fun k => (bx k, .pointer (some ⟨g k, 0, none⟩))))) w) :
    (Code.region id ops true).wp Tryz.prog Q a0 W0 := by
  refine par_region follows_mixed (2 * n) n (gslot ld cl) bx (fun k => 2 * k + 1) (fun j => if j % 2 = 0 then [] else [j - 1]) 25 #[.bool false, .slice none 0 0, .int .i64 0] W0 a0 (gval W0 ng ao ln cp z e) hsz hord ?_ ?_ ?_ ?_ ?_ hal zero_num Tryz.info25 ?_ hin hbin (fun j j' hj hj' h => hinj j hj j' hj' h) (fun k k' hk hk' h => hbinj k hk k' hk' h) (fun j k hj hk => hsb j hj k hk) ?_
  · intro j w w' u hb h
    unfold gval at *
    split
    · rename_i h0; rw [if_pos h0] at h; exact h
    · rename_i h0
      rw [if_neg h0] at h
      obtain ⟨v, rfl, hd⟩ := h
      exact ⟨v, rfl, hd.later hb⟩
  · intro j w u g cs cs' hg h
    unfold gval at *
    split
    · rename_i h0; rw [if_pos h0] at h; exact h
    · rename_i h0
      rw [if_neg h0] at h
      obtain ⟨v, rfl, hd⟩ := h
      exact ⟨v, rfl, hd.row hg (by decide) cs'⟩
  · intro k hk w u h
    unfold gval at h
    rw [if_neg (by omega)] at h
    obtain ⟨v, rfl, hd⟩ := h
    obtain ⟨ao', cap', rfl, -, -⟩ := hd.at
    exact ⟨_, rfl, rfl, one3 rfl rfl⟩
  · intro j hj j' hj'
    by_cases h0 : j % 2 = 0
    · rw [if_pos h0] at hj'; cases hj'
    · rw [if_neg h0] at hj'
      obtain rfl : j' = j - 1 := by simpa using hj'
      refine ⟨by omega, fun o ho => ?_⟩
      obtain ⟨o', ho', -, -, -, e, he, h1, h2⟩ := hcl (j / 2) (by omega)
      rw [show 2 * (j / 2) + 1 = j by omega] at ho'
      obtain rfl : o' = o := Option.some.inj (ho'.symm.trans ho)
      exact ⟨e, he, by omega, h2⟩
  · intro j hj a w hb hoth hdep
    by_cases h0 : j % 2 = 0
    · obtain ⟨o, ho, hg, hop, hd⟩ := hld (j / 2) (by omega)
      rw [show 2 * (j / 2) = j by omega] at ho
      obtain ⟨s1, s2, s3⟩ := hsrc (j / 2) (by omega)
      obtain ⟨f1, f2⟩ := hfree (j / 2) (by omega)
      have hsl : gslot ld cl j = ld (j / 2) := by unfold gslot; rw [if_pos h0]
      refine step_load ho hg hop (by rw [hoth _ f1 f2]; exact s1) ((hb.block _ (Array.getElem?_eq_some_iff.1 s2).1).trans s2) Tryz.underlying24 rfl Tryz.info24 ?_
      refine ⟨_, by rw [hd, hsl], ?_, Below.refl _ _⟩
      unfold gval
      rw [if_pos h0]
    · obtain ⟨o, ho, hg, ⟨ts, hop⟩, hd, -⟩ := hcl (j / 2) (by omega)
      rw [show 2 * (j / 2) + 1 = j by omega] at ho
      obtain ⟨s1, s2, s3⟩ := hsrc (j / 2) (by omega)
      have hsl : gslot ld cl j = cl (j / 2) := by unfold gslot; rw [if_neg h0]
      have hsl' : gslot ld cl (j - 1) = ld (j / 2) := by unfold gslot; rw [if_pos (by omega), show (j - 1) / 2 = j / 2 by omega]
      obtain ⟨u, hu, hv⟩ := hdep (j - 1) (by rw [if_neg h0]; simp)
      unfold gval at hv
      rw [if_pos (by omega), show (j - 1) / 2 = j / 2 by omega] at hv
      subst hv
      rw [hsl'] at hu
      refine step_call ho hg hop (enters Tryz.func9 (by kernel_rfl) (by kernel_rfl)) (vs := #[_]) (by simp only [List.map_toArray, List.map_cons, List.map_nil]; rw [eval_get hu]) ?_
      refine (give_ok (s3.later hb)).mono ?_
      rintro r w' ⟨v, rfl, hd', hb'⟩
      refine ⟨_, rfl, _, by rw [hd, hsl], ?_, hb'⟩
      unfold gval
      rw [if_neg h0]
      exact ⟨v, rfl, hd'.mono hb.size⟩
  · intro k hk
    obtain ⟨o, h1, h2, h3, h4, h5, h6⟩ := hst k hk
    have hsl : gslot ld cl (2 * k + 1) = cl k := by unfold gslot; rw [if_neg (by omega), show (2 * k + 1) / 2 = k by omega]
    exact ⟨by omega, o, h1, h2, by rw [h3, hsl], h4, h5, h6⟩
  · intro u g a w hb hu hg hs hd hoth
    have hv : ∀ k, ∃ v, k < n → Dn w W0.heap.size v (ln k) (z k) ∧ W0.heap.size ≤ g k ∧ w.heap[g k]? = some (.cells #[.bool (ng k), v, .int .i64 (e k)] 25 (0, 0)) := fun k => by
      by_cases hk : k < n
      · have h1 := (hu (2 * k + 1) (by omega)).2
        obtain ⟨h2, h3, cs, h4, h5⟩ := hg k hk
        unfold gval at h1
        rw [if_neg (by omega), show (2 * k + 1) / 2 = k by omega] at h1
        obtain ⟨v, h6, h7⟩ := h1
        rw [h6] at h4
        simp only [Value.agg.injEq] at h4
        subst h4
        exact ⟨v, fun _ => ⟨h7, h3, h5⟩⟩
      · exact ⟨undef, fun h => absurd h hk⟩
    obtain ⟨v, hv⟩ := Classical.axiomOfChoice hv
    have ha : a = putL a0 ((List.range (2 * n)).map (fun j => (gslot ld cl j, u j)) ++ (List.range n).map (fun k => (bx k, .pointer (some ⟨g k, 0, none⟩)))) := by
      have hkeys : ((List.range (2 * n)).map (fun j => (gslot ld cl j, u j)) ++ (List.range n).map (fun k => (bx k, Value.pointer (some ⟨g k, 0, none⟩)))).map (·.1) = (List.range (2 * n)).map (gslot ld cl) ++ (List.range n).map bx := by
        simp [Function.comp_def]
      refine act_putL ?_ hs hd ?_ ?_
      · rw [hkeys, List.nodup_append]
        refine ⟨?_, ?_, ?_⟩
        · refine List.pairwise_map.2 ((List.nodup_range (n := 2 * n)).imp_of_mem ?_)
          intro x y hx hy hne he
          exact hne (hinj x (List.mem_range.1 hx) y (List.mem_range.1 hy) he)
        · refine List.pairwise_map.2 ((List.nodup_range (n := n)).imp_of_mem ?_)
          intro x y hx hy hne he
          exact hne (hbinj x (List.mem_range.1 hx) y (List.mem_range.1 hy) he)
        · intro x hx y hy
          obtain ⟨j, hj, rfl⟩ := List.mem_map.1 hx
          obtain ⟨k, hk, rfl⟩ := List.mem_map.1 hy
          exact hsb j (List.mem_range.1 hj) k (List.mem_range.1 hk)
      · intro p hp
        rcases List.mem_append.1 hp with h | h
        · obtain ⟨j, hj, rfl⟩ := List.mem_map.1 h
          exact (hu j (List.mem_range.1 hj)).1
        · obtain ⟨k, hk, rfl⟩ := List.mem_map.1 h
          exact (hg k (List.mem_range.1 hk)).1
      · intro s hsn
        rw [hkeys] at hsn
        refine hoth s (fun j hj he => hsn ?_) (fun k hk he => hsn ?_)
        · exact List.mem_append_left _ (List.mem_map.2 ⟨j, List.mem_range.2 hj, he.symm⟩)
        · exact List.mem_append_right _ (List.mem_map.2 ⟨k, List.mem_range.2 hk, he.symm⟩)
    rw [ha]
    exact hQ u v g w hb hv
end Go.Proofs.YtmhpicccfaklcaaGreatDoor

/- Exact values: a sign, a whole number, an exponent; one form for each. -/
namespace Go.Proofs.YtmhpicccfaklcaaGreatDoor
set_option linter.unusedVariables false
set_option linter.unusedSimpArgs false
open Go.RowKit

/-- the one form -/
def cn (s : Bool) (z : Nat) (e : Int) : Bool × Nat × Int := if z = 0 then (false, 0, 0) else (s, z / 2 ^ tz z, e + tz z)

/-- how far a number reaches: its lowest place, the place above its highest -/
def Fits (lo hi : Int) (x : Nat) (e : Int) : Prop := x = 0 ∨ (lo ≤ e ∧ e ≤ hi ∧ x < 2 ^ (hi - e).toNat)

theorem Fits.cn {lo hi : Int} {s : Bool} {z : Nat} {e : Int} (h : Fits lo hi z e) : Fits lo hi (cn s z e).2.1 (cn s z e).2.2 := by
  rcases h with rfl | ⟨h1, h2, h3⟩
  · left; simp [YtmhpicccfaklcaaGreatDoor.cn]
  · unfold YtmhpicccfaklcaaGreatDoor.cn
    by_cases h0 : z = 0
    · subst h0; left; simp
    · rw [if_neg h0]
      right
      have hs := (tz_spec z z (Nat.le_refl _) h0).1
      have ho := (tz_spec z z (Nat.le_refl _) h0).2
      have hq : 1 ≤ z / 2 ^ tz z := Nat.pos_of_ne_zero fun e0 => by rw [e0] at ho; simp at ho
      have ht : tz z < (hi - e).toNat := by
        refine Nat.lt_of_not_le fun h => ?_
        have h4 := Nat.pow_le_pow_right (n := 2) (by omega) h
        have h5 := Nat.mul_le_mul_left (2 ^ tz z) hq
        omega
      refine ⟨by show lo ≤ e + (tz z : Int); omega, by show e + (tz z : Int) ≤ hi; omega, ?_⟩
      show z / 2 ^ tz z < 2 ^ (hi - (e + (tz z : Int))).toNat
      refine (Nat.div_lt_iff_lt_mul (Nat.two_pow_pos _)).2 ?_
      rw [← Nat.pow_add, show (hi - (e + (tz z : Int))).toNat + tz z = (hi - e).toNat by omega]
      exact h3

theorem Fits.mono {lo hi lo' hi' : Int} {x : Nat} {e : Int} (h : Fits lo hi x e) (h1 : lo' ≤ lo) (h2 : hi ≤ hi') : Fits lo' hi' x e := by
  rcases h with h | ⟨h3, h4, h5⟩
  · exact .inl h
  · exact .inr ⟨by omega, by omega, Nat.lt_of_lt_of_le h5 (Nat.pow_le_pow_right (by omega) (by omega))⟩

theorem Fits.at {lo hi : Int} {x : Nat} {e m : Int} (h : Fits lo hi x e) (hm : m ≤ e) : x * 2 ^ (e - m).toNat < 2 ^ (hi - m).toNat := by
  rcases h with rfl | ⟨h3, h4, h5⟩
  · rw [Nat.zero_mul]; exact Nat.two_pow_pos _
  · rw [show (hi - m).toNat = (hi - e).toNat + (e - m).toNat by omega, Nat.pow_add]
    exact Nat.mul_lt_mul_of_pos_right h5 (Nat.two_pow_pos _)

theorem Fits.sum {lo hi : Int} {na nb : Bool} {x y : Nat} {ea eb : Int} (h1 : Fits lo hi x ea) (h2 : Fits lo hi y eb) :
    Fits lo (hi + 1) (sumN na x ea nb y eb).2.1 (sumN na x ea nb y eb).2.2 := by
  unfold sumN
  by_cases x0 : x = 0
  · rw [if_pos x0]; exact h2.mono (by omega) (by omega)
  · rw [if_neg x0]
    by_cases y0 : y = 0
    · rw [if_pos y0]; exact h1.mono (by omega) (by omega)
    · rw [if_neg y0]
      have a1 := h1.at (m := min ea eb) (by omega)
      have a2 := h2.at (m := min ea eb) (by omega)
      obtain ⟨p1, p2, -⟩ := h1.resolve_left x0
      obtain ⟨q1, q2, -⟩ := h2.resolve_left y0
      have hp : 2 ^ (hi + 1 - min ea eb).toNat = 2 ^ (hi - min ea eb).toNat * 2 := by
        rw [show (hi + 1 - min ea eb).toNat = (hi - min ea eb).toNat + 1 by omega, Nat.pow_succ]
      generalize x * 2 ^ (ea - min ea eb).toNat = X at *
      generalize y * 2 ^ (eb - min ea eb).toNat = Y at *
      have hall : ∀ Z, Z ≤ X + Y → Fits lo (hi + 1) Z (min ea eb) := fun Z hZ => .inr ⟨by omega, by omega, by omega⟩
      split
      · exact hall _ (Nat.le_refl _)
      · split
        · exact hall _ (by show Y - X ≤ X + Y; omega)
        · exact hall _ (by show X - Y ≤ X + Y; omega)

theorem Fits.dlen {lo hi : Int} {x : Nat} {e : Int} (h : Fits lo hi x e) (hb : hi - lo ≤ 65536) : dlen x ≤ 2048 := by
  rcases h with rfl | ⟨h1, h2, h3⟩
  · rw [dlen_zero]; omega
  · refine (dlen_le _ _).2 (Nat.lt_of_lt_of_le h3 ?_)
    have hB : ∀ n, B ^ n = 2 ^ (32 * n) := fun n => by
      have : (B : Nat) = 2 ^ 32 := by decide
      rw [this, ← Nat.pow_mul]
    have hn : (hi - e).toNat ≤ 32 * 2048 := by omega
    generalize 2048 = n at *
    rw [hB]
    exact Nat.pow_le_pow_right (by omega) hn

/-- what fits may be -/
theorem Fits.ok {lo hi : Int} {s : Bool} {z : Nat} {e : Int} (h : Fits lo hi z e) (hb : hi - lo ≤ 65536) (h1 : -65536 ≤ lo) (h2 : hi ≤ 65536) : okR s z e = true := by
  unfold okR
  by_cases h0 : z = 0
  · rw [if_pos h0]
  · rw [if_neg h0]
    have hc := h.cn (s := s)
    have hd := hc.dlen hb
    unfold YtmhpicccfaklcaaGreatDoor.cn at hc hd
    rw [if_neg h0] at hc hd
    have ho := (tz_spec z z (Nat.le_refl _) h0).2
    simp only at hc hd
    generalize z / 2 ^ tz z = x at *
    have hx0 : x ≠ 0 := by omega
    obtain ⟨c1, c2, c3⟩ := hc.resolve_left hx0
    unfold okN
    rw [if_neg (fun e => hx0 (dlen_eq_zero.1 e))]
    have e0 : dg x 0 % 2 = 1 := by
      unfold dg
      rw [Nat.pow_zero, Nat.div_one]
      unfold B
      omega
    have e1 := dg_top hx0
    simp only [Bool.and_eq_true, decide_eq_true_eq, bne_iff_ne, ne_eq, beq_iff_eq]
    exact ⟨⟨⟨⟨hd, e1⟩, e0⟩, by omega⟩, by omega⟩
end Go.Proofs.YtmhpicccfaklcaaGreatDoor

/- Numbers in memory by their one form, and what Add, Sub, Mul make of them. -/
namespace Go.Proofs.YtmhpicccfaklcaaGreatDoor
set_option linter.unusedVariables false
set_option linter.unusedSimpArgs false
open Go.RowKit

/-- A is, in memory, the number t: sign, digits, exponent -/
def PN (w : World) (A : Value) (t : Bool × Nat × Int) : Prop := ∃ ao cap, A = .agg #[.bool t.1, .slice ao (dlen t.2.1) cap, .int .i64 t.2.2] ∧ Is w (.slice ao (dlen t.2.1) cap) t.2.1
/-- t may be -/
def Ok (t : Bool × Nat × Int) : Prop := okN t.1 (dlen t.2.1) t.2.1 t.2.2 = true

theorem PN.later {w w' : World} {A : Value} {t : Bool × Nat × Int} (h : PN w A t) (hb : Below w.heap.size w w') : PN w' A t := by
  obtain ⟨ao, cap, h1, h2⟩ := h
  exact ⟨ao, cap, h1, h2.later hb⟩
theorem PN.shape {w : World} {A : Value} {t : Bool × Nat × Int} (h : PN w A t) : ∃ s ao n cap e, A = .agg #[.bool s, .slice ao n cap, .int .i64 e] := by
  obtain ⟨ao, cap, h1, -⟩ := h
  exact ⟨_, _, _, _, _, h1⟩
/-- what may be is its own form -/
theorem Ok.facts {t : Bool × Nat × Int} (h : Ok t) : dlen t.2.1 ≤ 2048 ∧ -65536 ≤ t.2.2 ∧ t.2.2 ≤ 65536 ∧ (t.2.1 = 0 → t = (false, 0, 0)) ∧ (t.2.1 ≠ 0 → t.2.1 % 2 = 1) := by
  obtain ⟨s, x, e⟩ := t
  unfold Ok okN at h
  simp only at h ⊢
  by_cases h0 : x = 0
  · subst h0
    rw [dlen_zero, if_pos rfl] at h
    simp at h
    obtain ⟨rfl, rfl⟩ := h
    rw [dlen_zero]
    exact ⟨by omega, by omega, by omega, fun _ => rfl, fun h => absurd rfl h⟩
  · rw [if_neg (fun e => h0 (dlen_eq_zero.1 e))] at h
    simp only [Bool.and_eq_true, decide_eq_true_eq, bne_iff_ne, ne_eq, beq_iff_eq] at h
    obtain ⟨⟨⟨⟨h1, h2⟩, h3⟩, h4⟩, h5⟩ := h
    refine ⟨h1, h4, h5, fun h => absurd h h0, fun _ => ?_⟩
    unfold dg at h3
    rw [Nat.pow_zero, Nat.div_one] at h3
    unfold B at h3
    omega
/-- digits that give laid, of a number that may be -/
theorem dn_pn {w : World} {base : Nat} {v : Value} {s : Bool} {x : Nat} {e : Int} (h : Dn w base v (dlen x) x) : PN w (.agg #[.bool s, v, .int .i64 e]) (s, x, e) := by
  rcases h with ⟨rfl, h0⟩ | ⟨g, cap, c, rfl, h1, h2, h3, h4, h5⟩
  · obtain rfl := dlen_eq_zero.1 h0
    exact ⟨none, 0, by rw [dlen_zero], by rw [dlen_zero]; exact is_nil w⟩
  · exact ⟨_, cap, rfl, _, cap, rfl, h2.1, h2.2, g, 0, fun _ => rfl, fun i hi => by rw [Nat.zero_add]; simp [World.cell?, h3, h5 i hi]⟩
end Go.Proofs.YtmhpicccfaklcaaGreatDoor

/- The document's size, Valid, kept. -/
namespace Go.Proofs.YtmhpicccfaklcaaGreatDoor
set_option linter.unusedVariables false
set_option linter.unusedSimpArgs false
open Go.RowKit Go.Fl64

theorem bl_half {x : Nat} (h : x ≠ 0) : bl x = bl (x / 2) + 1 := by
  have h1 := lt_bl (x / 2)
  apply bl_eq
  · rw [Nat.pow_succ]; omega
  · refine .inr ?_
    rw [Nat.add_sub_cancel]
    by_cases h2 : x / 2 = 0
    · rw [h2]
      have : bl 0 = 0 := by unfold bl; simp
      rw [this]; omega
    · have h3 := le_bl h2
      have h4 : bl (x / 2) ≠ 0 := by unfold bl; rw [if_neg h2]; omega
      obtain ⟨k, hk⟩ : ∃ k, bl (x / 2) = k + 1 := ⟨bl (x / 2) - 1, by omega⟩
      rw [hk] at h3 ⊢
      rw [Nat.add_sub_cancel] at h3
      rw [Nat.pow_succ]; omega

set_option maxRecDepth 200000 in
theorem r42 (b o n cap x : Nat) (w : World) (hn0 : 0 < n) (hn : n ≤ 1000000000) (hx : dlen x = n) (hcell : ∀ i, i < n → w.cell? ⟨b, o + i, none⟩ = some (.int .u32 (dg x i : Nat))) :
    Calls Tryz.prog 46 #[.slice (some ⟨b, o, none⟩) n cap] w fun e w' => e = .returned (.int .i64 (bl x : Nat)) ∧ w' = w := by
  have hx0 : x ≠ 0 := by intro e; subst e; rw [dlen_zero] at hx; omega
  have hbt := bl_top hx0
  have hlt := dg_lt x (n - 1)
  have g := hcell (n - 1) (by omega)
  rw [hx] at hbt
  obtain ⟨k, rfl⟩ : ∃ k, n = k + 1 := ⟨n - 1, by omega⟩
  rw [Nat.add_sub_cancel] at hbt hlt g
  generalize hd : dg x k = d at *
  have HB : Hid (bl x = 32 * k + bl d ∧ d < 4294967296) := ⟨hbt, hlt⟩
  have hn0' : (((k + 1 : Nat) : Int) == 0) = false := by simp; omega
  clear hcell hbt hlt hx hx0 hd
  go_enter Tryz.func46, Tryz.ntmps46
  go_wp2
  go_loop [3, 4] (fun c t => ∃ (j u : Nat), c = .int .i64 (32 * (k : Int) + j) ∧ t = .int .u32 (u : Int) ∧ Hid (bl d = j + bl u ∧ u < 4294967296) ∧ j ≤ 32) (fun _ t => (intOf t).toNat)
  case atStart => exact ⟨0, d, by simp, rfl, ⟨by omega, HB.out.2⟩, by omega⟩
  case round =>
    obtain ⟨j, u, rfl, rfl, HU, hj⟩ := hrel
    by_cases hu : u = 0
    · subst hu
      have e : bl x = 32 * k + j := by
        have h1 := HU.out.1
        have : bl 0 = 0 := by unfold bl; simp
        rw [this] at h1
        have := HB.out.1
        omega
      have HE : Hid (((bl x : Nat) : Int) = 32 * (k : Int) + j) := (by rw [e]; simp : ((bl x : Nat) : Int) = 32 * (k : Int) + j)
      clear e
      go_wp2
      go_ret
      rw [HE.out]
      exact ⟨rfl, rfl⟩
    · have hu0 : 0 < (u : Int) := by omega
      have hb := bl_half hu
      have hj' : j + 1 ≤ 32 := by
        have h1 := HU.out.1
        have := bl_le32 (x := d) HB.out.2
        omega
      have HN : Hid (bl d = (j + 1) + bl (u / 2) ∧ u / 2 < 4294967296) := ⟨by have := HU.out.1; omega, by have := HU.out.2; omega⟩
      clear hb
      go_wp2
      exact ⟨⟨j + 1, u / 2, by congr 1, by simp, HN, hj'⟩, by simp [intOf]; omega⟩

set_option maxHeartbeats 4000000 in
set_option maxRecDepth 200000 in
theorem r17 (s : Bool) (b o n cap z : Nat) (e : Int) (w : World) (hn0 : 0 < n) (hn : n ≤ 1000000000) (hz : dlen z = n) (hodd : z % 2 = 1) (hcell : ∀ i, i < n → w.cell? ⟨b, o + i, none⟩ = some (.int .u32 (dg z i : Nat))) :
    Calls Tryz.prog 11 #[.agg #[.bool s, .slice (some ⟨b, o, none⟩) n cap, .int .i64 e]] w fun r w' => r = .returned (.bool (decide (n ≤ 2048) && decide (-65536 ≤ e) && decide (e ≤ 65536))) ∧ Below w.heap.size w w' := by
  have hz0 : z ≠ 0 := by intro e; subst e; simp at hodd
  obtain ⟨W, hW⟩ : ∃ W, W = w.alloc (.cells #[.bool s, .slice (some ⟨b, o, none⟩) n cap, .int .i64 e] 24) := ⟨_, rfl⟩
  have hBW : Below w.heap.size w W := by rw [hW]; exact (Below.refl _ _).alloc (Nat.le_refl _) _
  have hbx : W.heap[w.heap.size]? = some (.cells #[.bool s, .slice (some ⟨b, o, none⟩) n cap, .int .i64 e] 24 (0, 0)) := by rw [hW]; exact heap_alloc_new _ _
  have hc : ∀ i, i < n → W.cell? ⟨b, o + i, none⟩ = some (.int .u32 (dg z i : Nat)) := fun i hi => (hBW.cell (World.block_lt_of_cell? _ _ (hcell i hi))).trans (hcell i hi)
  have k42 := r42 b o n cap z W hn0 hn hz hc
  obtain ⟨⟨a0, a1, a2⟩, -⟩ := box_cells29 hbx
  have g1 := hc (n - 1) (by omega)
  have g0 : W.cell? ⟨b, o, none⟩ = some (.int .u32 (dg z 0 : Nat)) := hc 0 hn0
  have ht : dg z (n - 1) ≠ 0 := by rw [← hz]; exact dg_top hz0
  have hlow : dg z 0 % 2 = 1 := by
    unfold dg
    simp only [Nat.pow_zero, Nat.div_one]
    unfold B
    omega
  have hand := and_one32 (dg z 0) (dg_lt z 0)
  rw [hlow, show ((1 : Nat) : Int) = 1 from rfl] at hand
  have hbl : bl z ≤ 32 * n := by
    have h1 := bl_top hz0
    have h2 := bl_le32 (dg_lt z (dlen z - 1))
    rw [hz] at h1 h2
    omega
  obtain ⟨k, rfl⟩ : ∃ k, n = k + 1 := ⟨n - 1, by omega⟩
  rw [Nat.add_sub_cancel] at g1 ht
  generalize dg z k = d1 at *
  generalize dg z 0 = d0 at *
  generalize bl z = L at *
  have t1 : ((d1 : Int) != 0) = true := by simp; omega
  have hn0' : (((k + 1 : Nat) : Int) == 0) = false := by simp; omega
  have HB : Hid (Below w.heap.size w W) := hBW
  clear hcell hc hbx hBW hlow hz hodd hz0 ht
  rw [hW] at a0 a1 a2 g0 g1
  have hn1 : ((k : Int) + 1 == 0) = false := by simp; omega
  by_cases c1 : k + 1 ≤ 2048
  · have hL : (L : Int) ≤ 65536 := by omega
    have c1' : (k : Int) + 1 ≤ 2048 := by omega
    by_cases c2 : -65536 ≤ e
    · by_cases c3 : e ≤ 65536
      · rw [decide_eq_true c1, decide_eq_true c2, decide_eq_true c3]
        have t3 : decide (e ≤ 65536) = true := decide_eq_true c3
        go_enter Tryz.func11, Tryz.ntmps11
        go_wp2_with fail
        rw [← hW]
        refine k42.mono ?_
        rintro r w' ⟨rfl, hw'⟩
        rw [hw']
        clear hw' k42
        rw [← hW] at a0 a1 a2
        clear hW g0 g1
        go_wp2_with fail
        go_ret
        exact ⟨rfl, HB.out⟩
      · rw [decide_eq_true c1, decide_eq_true c2, decide_eq_false c3]
        have t3 : decide (e ≤ 65536) = false := decide_eq_false c3
        go_enter Tryz.func11, Tryz.ntmps11
        go_wp2_with fail
        rw [← hW]
        refine k42.mono ?_
        rintro r w' ⟨rfl, hw'⟩
        rw [hw']
        clear hw' k42
        rw [← hW] at a0 a1 a2
        clear hW g0 g1
        go_wp2_with fail
        go_ret
        exact ⟨rfl, HB.out⟩
    · rw [decide_eq_true c1, decide_eq_false c2]
      go_enter Tryz.func11, Tryz.ntmps11
      go_wp2_with fail
      rw [← hW]
      refine k42.mono ?_
      rintro r w' ⟨rfl, hw'⟩
      rw [hw']
      clear hw' k42
      rw [← hW] at a0 a1 a2
      clear hW g0 g1
      go_wp2_with fail
      go_ret
      exact ⟨rfl, HB.out⟩
  · have c1' : ¬ (k : Int) + 1 ≤ 2048 := by omega
    rw [decide_eq_false c1]
    go_enter Tryz.func11, Tryz.ntmps11
    go_wp2_with fail
    rw [← hW]
    go_ret
    exact ⟨rfl, HB.out⟩
end Go.Proofs.YtmhpicccfaklcaaGreatDoor

/- The document's Valid, of all numbers. -/
namespace Go.Proofs.YtmhpicccfaklcaaGreatDoor
set_option linter.unusedVariables false
set_option linter.unusedSimpArgs false
open Go.RowKit Go.Fl64

set_option maxRecDepth 200000 in
theorem rv_0 (s : Bool) (ao : Option Addr) (cap : Nat) (e : Int) (w : World) :
    Calls Tryz.prog 11 #[.agg #[.bool s, .slice ao 0 cap, .int .i64 e]] w fun r w' => r = .returned (.bool (e == 0 && !s)) ∧ Below w.heap.size w w' := by
  have HB : Hid (Below w.heap.size w (w.alloc (.cells #[.bool s, .slice ao 0 cap, .int .i64 e] 24))) := (Below.refl _ _).alloc (Nat.le_refl _) _
  cases s
  · by_cases he : e = 0
    · subst he
      go_enter Tryz.func11, Tryz.ntmps11
      go_wp2
      go_ret
      exact ⟨by simp, HB.out⟩
    · have he' : (e == 0) = false := by simp; exact he
      go_enter Tryz.func11, Tryz.ntmps11
      go_wp2
      go_ret
      exact ⟨by simp [he'], HB.out⟩
  · go_enter Tryz.func11, Tryz.ntmps11
    go_wp2
    go_ret
    exact ⟨by simp, HB.out⟩

set_option maxRecDepth 200000 in
theorem rv_not (s : Bool) (b o k cap d0 d1 : Nat) (e : Int) (w : World) (hk : k ≤ 35184372088832) (hd0 : d0 < B) (g1 : w.cell? ⟨b, o + k, none⟩ = some (.int .u32 (d1 : Nat))) (g0 : w.cell? ⟨b, o, none⟩ = some (.int .u32 (d0 : Nat)))
    (hno : d1 = 0 ∨ d0 % 2 = 0 ∨ 2048 < k + 1) :
    Calls Tryz.prog 11 #[.agg #[.bool s, .slice (some ⟨b, o, none⟩) (k + 1 : Nat) cap, .int .i64 e]] w fun r w' => r = .returned (.bool false) ∧ Below w.heap.size w w' := by
  obtain ⟨W, hW⟩ : ∃ W, W = w.alloc (.cells #[.bool s, .slice (some ⟨b, o, none⟩) (k + 1 : Nat) cap, .int .i64 e] 24) := ⟨_, rfl⟩
  have hBW : Below w.heap.size w W := by rw [hW]; exact (Below.refl _ _).alloc (Nat.le_refl _) _
  have hbx : W.heap[w.heap.size]? = some (.cells #[.bool s, .slice (some ⟨b, o, none⟩) (k + 1 : Nat) cap, .int .i64 e] 24 (0, 0)) := by rw [hW]; exact heap_alloc_new _ _
  obtain ⟨⟨a0, a1, a2⟩, -⟩ := box_cells29 hbx
  replace g1 := (hBW.cell (World.block_lt_of_cell? _ _ g1)).trans g1
  replace g0 := (hBW.cell (World.block_lt_of_cell? _ _ g0)).trans g0
  have hand := and_one32 d0 hd0
  have HB : Hid (Below w.heap.size w W) := hBW
  have hn1 : ((k : Int) + 1 == 0) = false := by simp; omega
  clear hbx hBW
  rw [hW] at a0 a1 a2 g0 g1
  by_cases c0 : d1 = 0
  · subst c0
    go_enter Tryz.func11, Tryz.ntmps11
    go_wp2_with fail
    rw [← hW]
    go_ret
    exact ⟨rfl, HB.out⟩
  · have t1 : ((d1 : Int) != 0) = true := by simp; omega
    by_cases c1 : d0 % 2 = 0
    · rw [c1, show ((0 : Nat) : Int) = 0 from rfl] at hand
      clear hno
      go_enter Tryz.func11, Tryz.ntmps11
      go_wp2_with fail
      rw [← hW]
      go_ret
      exact ⟨rfl, HB.out⟩
    · have c1' : d0 % 2 = 1 := by omega
      rw [c1', show ((1 : Nat) : Int) = 1 from rfl] at hand
      have c2 : ¬ (k : Int) + 1 ≤ 2048 := by omega
      clear hno c1 c1'
      go_enter Tryz.func11, Tryz.ntmps11
      go_wp2_with fail
      rw [← hW]
      go_ret
      exact ⟨rfl, HB.out⟩

theorem rvalid_at {s : Bool} {ao : Option Addr} {n cap z : Nat} {e : Int} {w : World} (hat : At w ao n z) (hs : n ≤ 35184372088832) :
    Calls Tryz.prog 11 #[.agg #[.bool s, .slice ao n cap, .int .i64 e]] w fun r w' => r = .returned (.bool (okN s n z e)) ∧ Below w.heap.size w w' := by
  unfold okN
  by_cases h0 : n = 0
  · subst h0
    exact rv_0 s ao cap e w
  · rw [if_neg h0]
    obtain ⟨b, o, h1, h2⟩ := hat
    obtain rfl := h1 (by omega)
    by_cases hno : dg z (n - 1) = 0 ∨ dg z 0 % 2 = 0 ∨ 2048 < n
    · have hf : (decide (n ≤ 2048) && (dg z (n - 1) != 0) && (dg z 0 % 2 == 1) && decide (-65536 ≤ e) && decide (e ≤ 65536)) = false := by
        rcases hno with h | h | h
        · simp [h]
        · simp [h]
        · rw [decide_eq_false (by omega)]; simp
      rw [hf]
      obtain ⟨k, rfl⟩ : ∃ k, n = k + 1 := ⟨n - 1, by omega⟩
      rw [Nat.add_sub_cancel] at hno
      exact rv_not s b o k cap (dg z 0) (dg z k) e w (by omega) (dg_lt z 0) (h2 k (by omega)) (h2 0 (by omega)) hno
    · have ht : dg z (n - 1) ≠ 0 := fun e => hno (.inl e)
      have ho : dg z 0 % 2 = 1 := by
        have : ¬ dg z 0 % 2 = 0 := fun e => hno (.inr (.inl e))
        omega
      have hl : n ≤ 2048 := by
        have : ¬ 2048 < n := fun e => hno (.inr (.inr e))
        omega
      have hB : ∀ i, i < n → dg z i < B := fun i _ => dg_lt z i
      -- only the lowest n digits count
      have hz : dlen (z % B ^ n) = n := by
        refine dlen_here ((dlen_le _ _).2 (Nat.mod_lt _ (Bpow_pos n))) (.inr ?_)
        rw [dg_mod (by omega)]
        exact ht
      have hodd : z % B ^ n % 2 = 1 := by
        have e1 := dg_mod (x := z) (n := n) (i := 0) (by omega)
        have : dg (z % B ^ n) 0 % 2 = 1 := by rw [e1]; exact ho
        unfold dg at this
        rw [Nat.pow_zero, Nat.div_one] at this
        unfold B at this ⊢
        omega
      refine (r17 s b o n cap (z % B ^ n) e w (by omega) (by omega) hz hodd (fun i hi => by rw [dg_mod hi]; exact h2 i hi)).mono ?_
      rintro r w' ⟨rfl, hb⟩
      refine ⟨?_, hb⟩
      have t : (dg z (n - 1) != 0) = true := by simp; exact ht
      have t2 : (dg z 0 % 2 == 1) = true := by simp; exact ho
      rw [t, t2]
      simp

theorem rvalid {s : Bool} {ao : Option Addr} {n cap z : Nat} {e : Int} {w : World} (h : Arg w ao n cap z) :
    Calls Tryz.prog 11 #[.agg #[.bool s, .slice ao n cap, .int .i64 e]] w fun r w' => r = .returned (.bool (okN s n z e)) ∧ Below w.heap.size w w' := rvalid_at h.at_ h.small
end Go.Proofs.YtmhpicccfaklcaaGreatDoor

/- An argument that is the document's number, opened. -/
namespace Go.Proofs.YtmhpicccfaklcaaGreatDoor
set_option linter.unusedVariables false
set_option linter.unusedSimpArgs false
open Go.ChangeShapes Go.WideShapes Go.ChangeAt Go.RowKit Go.Joins

theorem laidOut : laidOutB Tryz.prog = true := by kernel_rfl
theorem cellsU32 : Tryz.prog.cellsOf 65 = 1 := by kernel_rfl
theorem bytesU32 : Tryz.prog.bytesOf 65 = 4 := by kernel_rfl
theorem cellsRef : Tryz.prog.cellsOf 24 = 3 := by kernel_rfl
theorem wf_i64 {n : Int} (h : (Lit.int .i64 n).wf = true) : -9223372036854775808 ≤ n ∧ n ≤ 9223372036854775807 := by
  simp only [Lit.wf, Bool.and_eq_true, decide_eq_true_eq] at h
  have e1 : IntKind.i64.min = -9223372036854775808 := by decide +kernel
  have e2 : IntKind.i64.max = 9223372036854775807 := by decide +kernel
  rw [e1, e2] at h
  exact h

set_option maxRecDepth 100000 in
theorem open_num {H : Type} {enc : TypeId × Value → H} {W : World} {base : Nat} {v : Value} {d : DataW H} {p : List MemPlace} (hval : Value.okWide Tryz.prog W .any base 24 v)
    (h : DataW.Trod enc Tryz.prog W 0 (fun _ => true) true 24 v d p) (hw : ∀ n ∈ d.weights Tryz.prog 24, n ≤ reachBytes) :
    ∃ ng ao n cap z e, v = .agg #[.bool ng, .slice ao n cap, .int .i64 e] ∧ Arg W ao n cap z ∧ dlen z ≤ n ∧ -9223372036854775808 ≤ e ∧ e ≤ 9223372036854775807 := by
  obtain ⟨v0, v1, v2, y0, y1, y2, m, rfl, rfl, rfl, h0, h1, h2⟩ := open_agg3 Tryz.underlying24 (by kernel_rfl) cellsRef hval h
  obtain ⟨ng, e0, -⟩ := DataW.trod_bool Tryz.underlying4 h0
  obtain ⟨e, e2, -, we⟩ := DataW.trod_int Tryz.underlying3 h2
  simp only [List.cons.injEq, and_true] at e0 e2
  subst e0 e2
  have he := wf_i64 we
  rcases open_ints Tryz.underlying22 Tryz.underlying65 cellsU32 h1 with ⟨hcs, hx⟩ | ⟨a, len, cap, zs, hcs, _, hl, hm, hz, hx, hcell, hwz⟩
  · simp only [List.cons.injEq, and_true] at hcs
    subst hcs
    exact ⟨ng, none, 0, 0, 0, e, rfl, ⟨fun _ => .inr ⟨rfl, rfl⟩, ⟨0, 0, fun h => by omega, fun i hi => by omega⟩, Nat.le_refl _, by omega⟩, by rw [dlen_zero]; omega, he⟩
  · simp only [List.cons.injEq, and_true] at hcs
    subst hcs
    subst hx
    simp only [if_true] at hz
    have hwt : (zs.take len).length * 1 + (zs.drop len).length * 1 ≤ 35184372088832 := by
      have := hw (((lits (H := H) .u32 (zs.take len)).length + (lits (H := H) .u32 (zs.drop len)).length) * Tryz.prog.bytesOf 65) (by
        simp only [DataW.weights, Tryz.underlying24, List.map_cons, List.map_nil, DataW.weightsEach, Tryz.underlying22, List.mem_append, List.mem_cons]
        simp)
      rw [bytesU32] at this
      simp only [lits, List.length_map, reachBytes] at this
      omega
    have hlen : len ≤ 35184372088832 := by
      simp only [List.length_take, List.length_drop] at hwt
      omega
    by_cases hl0 : len = 0
    · subst hl0
      exact ⟨ng, some a, 0, cap, 0, e, rfl, ⟨fun _ => .inl ⟨a, rfl⟩, ⟨0, 0, fun h => by omega, fun i hi => by omega⟩, by omega, by omega⟩, by rw [dlen_zero]; omega, he⟩
    · obtain ⟨b, off, spot⟩ := a
      have hspot : spot = none := by simpa [Addr.add] using World.cell?_spot (hcell 0 (by omega))
      subst hspot
      have hbd : ∀ i, i < len → 0 ≤ zs.getD i 0 ∧ zs.getD i 0 < 4294967296 := fun i hi => by
        have hm' : zs.getD i 0 ∈ zs := by
          rw [List.getD_eq_getElem?_getD, List.getElem?_eq_getElem (by omega)]
          simp
        have h := hwz _ hm'
        simp only [Lit.wf, Bool.and_eq_true, decide_eq_true_eq] at h
        have e1 : IntKind.u32.min = 0 := by decide +kernel
        have e2 : IntKind.u32.max = 4294967295 := by decide +kernel
        rw [e1, e2] at h
        omega
      have hB : ∀ i, i < len → (fun i => (zs.getD i 0).toNat) i < B := fun i hi => by
        have := hbd i hi
        show (zs.getD i 0).toNat < B
        unfold B
        omega
      refine ⟨ng, some ⟨b, off, none⟩, len, cap, V (fun i => (zs.getD i 0).toNat) len, e, rfl, ⟨fun h => absurd h hl0, ⟨b, off, fun _ => rfl, fun i hi => ?_⟩, hl, hlen⟩, (dlen_le _ _).2 (V_lt hB), he⟩
      rw [dg_V hB i hi]
      have hc := hcell i (by omega)
      rw [show (⟨b, off, none⟩ : Addr).add i = ⟨b, off + i, none⟩ by simp [Addr.add]] at hc
      rw [hc]
      have := hbd i hi
      congr 2
      omega
end Go.Proofs.YtmhpicccfaklcaaGreatDoor
