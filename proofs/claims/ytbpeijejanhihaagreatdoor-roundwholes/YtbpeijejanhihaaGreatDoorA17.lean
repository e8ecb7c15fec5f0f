/- Own work: contracts of the program's functions, part 17: SH5 SH6 SH7 SH8 SH9 SI1 SI2. -/
import Derived.Test.YtbpeijejanhihaaGreatDoorA16
import Derived.Test.YtbpeijejanhihaaGreatDoorA15

set_option maxHeartbeats 16000000
namespace Go.Proofs.YtbpeijejanhihaaGreatDoor
set_option linter.unusedVariables false
set_option linter.unusedSimpArgs false
open Go.RowKit Go.Fl64
set_option maxRecDepth 200000 in
theorem lrest_l (s1 s2 : Bool) (ao1 ao2 : Option Addr) (n1 cap1 n2 cap2 : Nat) (ex1 ex2 c : Int) (ta tb tq tm tr tn tra tna : Bool × Nat × Int) (w : World) (hc : c < 0)
    (hA : PN w (.agg #[.bool s1, .slice ao1 n1 cap1, .int .i64 ex1]) ta) (hB : PN w (.agg #[.bool s2, .slice ao2 n2 cap2, .int .i64 ex2]) tb)
    (kQ : ∀ W, Below w.heap.size w W → Calls Tryz.prog 64 #[.agg #[.bool s1, .slice ao1 n1 cap1, .int .i64 ex1], .agg #[.bool s2, .slice ao2 n2 cap2, .int .i64 ex2], .int .i64 0] W fun r w' => ∃ s ao n cap e x, r = .returned (.tuple #[.agg #[.bool s, .slice ao n cap, .int .i64 e], .bool x, .int .i64 0]) ∧ PN w' (.agg #[.bool s, .slice ao n cap, .int .i64 e]) tq ∧ Below W.heap.size W w')
    (kM : ∀ W X Y, Below w.heap.size w W → PN W X tq → PN W Y tb → Calls Tryz.prog 66 #[X, Y] W fun r w' => OutA W tm r w')
    (kT1 : ∀ W X Y, Below w.heap.size w W → PN W X ta → PN W Y tm → Calls Tryz.prog 65 #[X, Y] W fun r w' => OutA W tr r w')
    (kT2 : ∀ W X Y, Below w.heap.size w W → PN W X tr → PN W Y tb → Calls Tryz.prog 65 #[X, Y] W fun r w' => OutA W tn r w')
    (kA1 : ∀ W X, Below w.heap.size w W → PN W X tr → Calls Tryz.prog 68 #[X] W fun r w' => OutA W tra r w')
    (kA2 : ∀ W X, Below w.heap.size w W → PN W X tn → Calls Tryz.prog 68 #[X] W fun r w' => OutA W tna r w')
    (kC : ∀ W X Y, Below w.heap.size w W → PN W X tra → PN W Y tna → Calls Tryz.prog 67 #[X, Y] W fun r w' => r = .returned (.int .i64 c) ∧ Below W.heap.size W w') :
    Calls Tryz.prog 29 #[.agg #[.bool s1, .slice ao1 n1 cap1, .int .i64 ex1], .agg #[.bool s2, .slice ao2 n2 cap2, .int .i64 ex2]] w fun r w' => OutA w tr r w' := by
  have HQ : Hid _ := kQ
  have HM : Hid _ := kM
  have HT1 : Hid _ := kT1
  have HT2 : Hid _ := kT2
  have HA1 : Hid _ := kA1
  have HA2 : Hid _ := kA2
  have HC : Hid _ := kC
  obtain ⟨W, hW⟩ : ∃ W, W = ((w.alloc (.cells #[.bool s1, .slice ao1 n1 cap1, .int .i64 ex1] 44)).alloc (.cells #[.bool s2, .slice ao2 n2 cap2, .int .i64 ex2] 44)).alloc (.cells #[.bool false, .slice none 0 0, .int .i64 0] 44) := ⟨_, rfl⟩
  obtain ⟨gA, gB, gZ, hsz, hBW⟩ := boxes3 _ _ _ hW
  have HX : Hid (Below w.heap.size w W ∧ W.heap[w.heap.size]? = some (.cells #[.bool s1, .slice ao1 n1 cap1, .int .i64 ex1] 44 (0, 0)) ∧ W.heap[w.heap.size + 1]? = some (.cells #[.bool s2, .slice ao2 n2 cap2, .int .i64 ex2] 44 (0, 0)) ∧ W.heap[w.heap.size + 1 + 1]? = some (.cells #[.bool false, .slice none 0 0, .int .i64 0] 44 (0, 0)) ∧ PN w (.agg #[.bool s1, .slice ao1 n1 cap1, .int .i64 ex1]) ta ∧ PN w (.agg #[.bool s2, .slice ao2 n2 cap2, .int .i64 ex2]) tb) := ⟨hBW, gA, gB, gZ, hA, hB⟩
  obtain ⟨⟨a0, a1, a2⟩, -⟩ := box_cells gA
  obtain ⟨⟨b0, b1, b2⟩, -⟩ := box_cells gB
  have k1 := kQ W hBW
  clear kQ kM kT1 kT2 kA1 kA2 kC gA gB gZ hsz hBW hA hB
  rw [hW] at a0 a1 a2 b0 b1 b2
  have x1 : ¬ 0 < c := by omega
  have x2 : (c == 0) = false := beq_eq_false_iff_ne.2 (by omega)
  go_enter Tryz.func29, Tryz.ntmps29
  go_wp2_with fail
  rw [← hW]
  clear hW a0 a1 a2 b0 b1 b2
  refine k1.mono ?_
  rintro r w1 ⟨s3, ao3, n3, cap3, ex3, xq, rfl, hP3, hb1⟩
  clear k1
  obtain ⟨W1, hW1⟩ : ∃ W1, W1 = w1.alloc (.cells #[.bool s3, .slice ao3 n3 cap3, .int .i64 ex3] 44) := ⟨_, rfl⟩
  have hbW : Below W.heap.size W W1 := by rw [hW1]; exact hb1.alloc hb1.size _
  have HY : Hid (Below w.heap.size w W1 ∧ W1.heap[w.heap.size]? = some (.cells #[.bool s1, .slice ao1 n1 cap1, .int .i64 ex1] 44 (0, 0)) ∧ W1.heap[w.heap.size + 1]? = some (.cells #[.bool s2, .slice ao2 n2 cap2, .int .i64 ex2] 44 (0, 0)) ∧ W1.heap[w.heap.size + 1 + 1]? = some (.cells #[.bool false, .slice none 0 0, .int .i64 0] 44 (0, 0)) ∧ PN W1 (.agg #[.bool s1, .slice ao1 n1 cap1, .int .i64 ex1]) ta ∧ PN W1 (.agg #[.bool s2, .slice ao2 n2 cap2, .int .i64 ex2]) tb ∧ W1.heap[w1.heap.size]? = some (.cells #[.bool s3, .slice ao3 n3 cap3, .int .i64 ex3] 44 (0, 0)) ∧ PN W1 (.agg #[.bool s3, .slice ao3 n3 cap3, .int .i64 ex3]) tq) :=
    ⟨HX.out.1.trans (hbW.mono HX.out.1.size), box_later HX.out.2.1 hbW (lt_of_box HX.out.2.1), box_later HX.out.2.2.1 hbW (lt_of_box HX.out.2.2.1), box_later HX.out.2.2.2.1 hbW (lt_of_box HX.out.2.2.2.1), HX.out.2.2.2.2.1.later (HX.out.1.trans (hbW.mono HX.out.1.size)), HX.out.2.2.2.2.2.later (HX.out.1.trans (hbW.mono HX.out.1.size)), by rw [hW1]; exact heap_alloc_new _ _, by rw [hW1]; exact hP3.later ((Below.refl _ _).alloc (Nat.le_refl _) _)⟩
  clear hbW hP3 hb1
  go_upto_region 2 with fail
  rw [← hW1]
  clear hW1 HX
  generalize w1.heap.size = g3 at *
  have HK : Hid (∀ w', Below W1.heap.size W1 w' → ((w'.cell? ⟨w.heap.size, 0, none⟩ = some (.bool s1) ∧ w'.cell? ⟨w.heap.size, 1, none⟩ = some (.slice ao1 n1 cap1) ∧ w'.cell? ⟨w.heap.size, 2, none⟩ = some (.int .i64 ex1)) ∧ (w'.cell? ⟨w.heap.size + 1, 0, none⟩ = some (.bool s2) ∧ w'.cell? ⟨w.heap.size + 1, 1, none⟩ = some (.slice ao2 n2 cap2) ∧ w'.cell? ⟨w.heap.size + 1, 2, none⟩ = some (.int .i64 ex2)) ∧ (w'.cell? ⟨g3, 0, none⟩ = some (.bool s3) ∧ w'.cell? ⟨g3, 1, none⟩ = some (.slice ao3 n3 cap3) ∧ w'.cell? ⟨g3, 2, none⟩ = some (.int .i64 ex3))) ∧ Below W1.heap.size W1 w') := fun w' hb => ⟨⟨(box_cells (box_later HY.out.2.1 hb (lt_of_box HY.out.2.1))).1, (box_cells (box_later HY.out.2.2.1 hb (lt_of_box HY.out.2.2.1))).1, (box_cells (box_later HY.out.2.2.2.2.2.2.1 hb (lt_of_box HY.out.2.2.2.2.2.2.1))).1⟩, hb⟩
  have hBR : Below W1.heap.size W1 W1.drew := (Below.refl _ _).drew
  have km : ∀ w4, Below W1.heap.size W1 w4 → Calls Tryz.prog 66 #[.agg #[.bool s3, .slice ao3 n3 cap3, .int .i64 ex3], .agg #[.bool s2, .slice ao2 n2 cap2, .int .i64 ex2]] w4 fun r w' => ∃ s ao n cap e, r = .returned (.agg #[.bool s, .slice ao n cap, .int .i64 e]) ∧ PN w' (.agg #[.bool s, .slice ao n cap, .int .i64 e]) tm ∧ Below W1.heap.size W1 w' ∧ Hid (∀ g o, w4.heap[g]? = some o → w'.heap[g]? = some o) := fun w4 hb =>
    (HM.out w4 _ _ (HY.out.1.trans (hb.mono HY.out.1.size)) (HY.out.2.2.2.2.2.2.2.later hb) (HY.out.2.2.2.2.2.1.later hb)).mono fun r w' ⟨s, ao, n, cap, e, e1, o1, o2⟩ => ⟨s, ao, n, cap, e, e1, o1, hb.trans (o2.mono hb.size), fun g o hg => box_later hg o2 (lt_of_box hg)⟩
  have kt : ∀ w4 Y, Below W1.heap.size W1 w4 → PN w4 Y tm → Calls Tryz.prog 65 #[.agg #[.bool s1, .slice ao1 n1 cap1, .int .i64 ex1], Y] w4 fun r w' => ∃ s ao n cap e, r = .returned (.agg #[.bool s, .slice ao n cap, .int .i64 e]) ∧ PN w' (.agg #[.bool s, .slice ao n cap, .int .i64 e]) tr ∧ Below W1.heap.size W1 w' ∧ Hid (∀ g o, w4.heap[g]? = some o → w'.heap[g]? = some o) := fun w4 Y hb h2 =>
    (HT1.out w4 _ _ (HY.out.1.trans (hb.mono HY.out.1.size)) (HY.out.2.2.2.2.1.later hb) h2).mono fun r w' ⟨s, ao, n, cap, e, e1, o1, o2⟩ => ⟨s, ao, n, cap, e, e1, o1, hb.trans (o2.mono hb.size), fun g o hg => box_later hg o2 (lt_of_box hg)⟩
  obtain ⟨⟨⟨a0, a1, a2⟩, ⟨b0, b1, b2⟩, ⟨c0, c1, c2⟩⟩, -⟩ := HK.out W1 (Below.refl _ _)
  go_cut [8] from 18 to 22 (fun p wx => ∃ g s ao n cap ex, p = .pointer (some ⟨g, 0, none⟩) ∧ Hid (BxP W1 wx g s ao n cap ex tr))
  case first =>
    go_region_held3 (fun w' => ((w'.cell? ⟨w.heap.size, 0, none⟩ = some (.bool s1) ∧ w'.cell? ⟨w.heap.size, 1, none⟩ = some (.slice ao1 n1 cap1) ∧ w'.cell? ⟨w.heap.size, 2, none⟩ = some (.int .i64 ex1)) ∧ (w'.cell? ⟨w.heap.size + 1, 0, none⟩ = some (.bool s2) ∧ w'.cell? ⟨w.heap.size + 1, 1, none⟩ = some (.slice ao2 n2 cap2) ∧ w'.cell? ⟨w.heap.size + 1, 2, none⟩ = some (.int .i64 ex2)) ∧ (w'.cell? ⟨g3, 0, none⟩ = some (.bool s3) ∧ w'.cell? ⟨g3, 1, none⟩ = some (.slice ao3 n3 cap3) ∧ w'.cell? ⟨g3, 2, none⟩ = some (.int .i64 ex3))) ∧ Below W1.heap.size W1 w') (first | (with_reducible assumption) | exact ⟨⟨⟨a0, a1, a2⟩, ⟨b0, b1, b2⟩, ⟨c0, c1, c2⟩⟩, hBR⟩ | (refine HK.out _ ?_; with_reducible assumption) | (refine HK.out _ ?_; refine Below.alloc (by with_reducible assumption) (Below.size (by with_reducible assumption)) _) | (refine HK.out _ (below_store3 (by first | (with_reducible assumption) | exact hb7.alloc hb7.size _) (by first | exact Nat.le_refl _ | exact hb5.size | exact hb7.size) _ _ _)) | go_keep)
      (first | (go_at_call 66; refine (km _ (by first | (with_reducible assumption) | exact hBR.alloc hBR.size _)).mono ?_; rintro r w5 ⟨s5, ao5, n5, cap5, ex5, rfl, ho5, hb5, hk5⟩; first | (have HBY : Hid (w5.heap[W1.heap.size]? = some (.cells #[.bool false, .slice none 0 0, .int .i64 0] 44 (0, 0))) := hk5.out _ _ (heap_alloc_new W1.drew _)) | (have HBY : Hid True := trivial))
             | (go_at_call 65; refine (kt _ _ (by first | (with_reducible assumption) | exact hb5.alloc hb5.size _) (by first | (with_reducible assumption) | exact ho5.later ((Below.refl _ _).alloc (Nat.le_refl _) _))).mono ?_; rintro r w7 ⟨s7, ao7, n7, cap7, ex7, rfl, hn7, hb7, hk7⟩; first | (have HBZ := hidOf (hk7.out _ _ HBY.out); obtain ⟨⟨x1, x2, x3⟩, x4, x5, x6⟩ := box_cells HBZ.out) | (have HBZ : Hid (w7.heap[w5.heap.size]? = some (.cells #[.bool false, .slice none 0 0, .int .i64 0] 44 (0, 0))) := hk7.out _ _ (heap_alloc_new w5 _); obtain ⟨⟨x1, x2, x3⟩, x4, x5, x6⟩ := box_cells HBZ.out) | (have HBZ : Hid True := trivial)))
    all_goals go_wp2_with fail
    all_goals go_meet
    all_goals first
      | exact ⟨_, _, _, _, _, _, rfl, BxP.new hn7 hb7⟩
      | exact ⟨_, _, _, _, _, _, rfl, BxP.put hn7 hb7 hb5.size HBZ.out⟩
      | exact ⟨_, _, _, _, _, _, rfl, BxP.put hn7 hb7 (Nat.le_refl _) HBZ.out⟩
  case rest =>
    obtain ⟨W2, rfl⟩ : ∃ W2 : World, W2 = wc := ⟨_, rfl⟩
    obtain ⟨g4, s4, ao4, n4, cap4, ex4, rfl, HR⟩ := hcut
    clear km kt HK hBR a0 a1 a2 b0 b1 b2 c0 c1 c2
    have HN : Hid (W2.heap[g3]? = some (.cells #[.bool s3, .slice ao3 n3 cap3, .int .i64 ex3] 44 (0, 0)) ∧ PN W2 (.agg #[.bool s3, .slice ao3 n3 cap3, .int .i64 ex3]) tq) := ⟨box_later HY.out.2.2.2.2.2.2.1 HR.out.2.2.1 (lt_of_box HY.out.2.2.2.2.2.2.1), HY.out.2.2.2.2.2.2.2.later HR.out.2.2.1⟩
    have HS : Hid (Below w.heap.size w W2 ∧ W2.heap[w.heap.size + 1]? = some (.cells #[.bool s2, .slice ao2 n2 cap2, .int .i64 ex2] 44 (0, 0)) ∧ W2.heap[w.heap.size + 1 + 1]? = some (.cells #[.bool false, .slice none 0 0, .int .i64 0] 44 (0, 0)) ∧ PN W2 (.agg #[.bool s2, .slice ao2 n2 cap2, .int .i64 ex2]) tb ∧ W2.heap[g4]? = some (.cells #[.bool s4, .slice ao4 n4 cap4, .int .i64 ex4] 44 (0, 0)) ∧ PN W2 (.agg #[.bool s4, .slice ao4 n4 cap4, .int .i64 ex4]) tr) :=
      ⟨HY.out.1.trans (HR.out.2.2.1.mono HY.out.1.size), box_later HY.out.2.2.1 HR.out.2.2.1 (lt_of_box HY.out.2.2.1), box_later HY.out.2.2.2.1 HR.out.2.2.1 (lt_of_box HY.out.2.2.2.1), HY.out.2.2.2.2.2.1.later HR.out.2.2.1, HR.out.1, HR.out.2.2.2⟩
    clear HY HR
    obtain ⟨⟨b0, b1, b2⟩, -⟩ := box_cells HS.out.2.1
    obtain ⟨⟨d0, d1, d2⟩, -⟩ := box_cells HS.out.2.2.2.2.1
    have k3 := HT2.out W2 _ _ HS.out.1 HS.out.2.2.2.2.2 HS.out.2.2.2.1
    go_wp2_with fail
    refine k3.mono ?_
    rintro r w3 ⟨s5, ao5, n5, cap5, ex5, rfl, hP5, hb3⟩
    clear k3 b0 b1 b2 d0 d1 d2
    obtain ⟨W3, hW3⟩ : ∃ W3, W3 = w3.alloc (.cells #[.bool s5, .slice ao5 n5 cap5, .int .i64 ex5] 44) := ⟨_, rfl⟩
    have hbW : Below W2.heap.size W2 W3 := by rw [hW3]; exact hb3.alloc hb3.size _
    have HV : Hid (Below w.heap.size w W3 ∧ W3.heap[w.heap.size + 1 + 1]? = some (.cells #[.bool false, .slice none 0 0, .int .i64 0] 44 (0, 0)) ∧ W3.heap[g4]? = some (.cells #[.bool s4, .slice ao4 n4 cap4, .int .i64 ex4] 44 (0, 0)) ∧ PN W3 (.agg #[.bool s4, .slice ao4 n4 cap4, .int .i64 ex4]) tr ∧ W3.heap[w3.heap.size]? = some (.cells #[.bool s5, .slice ao5 n5 cap5, .int .i64 ex5] 44 (0, 0)) ∧ PN W3 (.agg #[.bool s5, .slice ao5 n5 cap5, .int .i64 ex5]) tn) :=
      ⟨HS.out.1.trans (hbW.mono HS.out.1.size), box_later HS.out.2.2.1 hbW (lt_of_box HS.out.2.2.1), box_later HS.out.2.2.2.2.1 hbW (lt_of_box HS.out.2.2.2.2.1), HS.out.2.2.2.2.2.later hbW, by rw [hW3]; exact heap_alloc_new _ _, by rw [hW3]; exact hP5.later ((Below.refl _ _).alloc (Nat.le_refl _) _)⟩
    have HN3 : Hid (W3.heap[g3]? = some (.cells #[.bool s3, .slice ao3 n3 cap3, .int .i64 ex3] 44 (0, 0)) ∧ PN W3 (.agg #[.bool s3, .slice ao3 n3 cap3, .int .i64 ex3]) tq) := ⟨box_later HN.out.1 hbW (lt_of_box HN.out.1), HN.out.2.later hbW⟩
    clear hbW hP5 hb3 HN
    go_upto_region 4 with fail
    rw [← hW3]
    clear hW3 HS
    generalize w3.heap.size = g5 at *
    have HK : Hid (∀ w', Below W3.heap.size W3 w' → ((w'.cell? ⟨g4, 0, none⟩ = some (.bool s4) ∧ w'.cell? ⟨g4, 1, none⟩ = some (.slice ao4 n4 cap4) ∧ w'.cell? ⟨g4, 2, none⟩ = some (.int .i64 ex4)) ∧ (w'.cell? ⟨g5, 0, none⟩ = some (.bool s5) ∧ w'.cell? ⟨g5, 1, none⟩ = some (.slice ao5 n5 cap5) ∧ w'.cell? ⟨g5, 2, none⟩ = some (.int .i64 ex5))) ∧ Below W3.heap.size W3 w') := fun w' hb => ⟨⟨(box_cells (box_later HV.out.2.2.1 hb (lt_of_box HV.out.2.2.1))).1, (box_cells (box_later HV.out.2.2.2.2.1 hb (lt_of_box HV.out.2.2.2.2.1))).1⟩, hb⟩
    have hBR : Below W3.heap.size W3 W3.drew := (Below.refl _ _).drew
    have ka1 : ∀ w4, Below W3.heap.size W3 w4 → Calls Tryz.prog 68 #[.agg #[.bool s4, .slice ao4 n4 cap4, .int .i64 ex4]] w4 fun r w' => ∃ s ao n cap e, r = .returned (.agg #[.bool s, .slice ao n cap, .int .i64 e]) ∧ PN w' (.agg #[.bool s, .slice ao n cap, .int .i64 e]) tra ∧ Below W3.heap.size W3 w' := fun w4 hb =>
      (HA1.out w4 _ (HV.out.1.trans (hb.mono HV.out.1.size)) (HV.out.2.2.2.1.later hb)).mono fun r w' ⟨s, ao, n, cap, e, e1, o1, o2⟩ => ⟨s, ao, n, cap, e, e1, o1, hb.trans (o2.mono hb.size)⟩
    have ka2 : ∀ w4, Below W3.heap.size W3 w4 → Calls Tryz.prog 68 #[.agg #[.bool s5, .slice ao5 n5 cap5, .int .i64 ex5]] w4 fun r w' => ∃ s ao n cap e, r = .returned (.agg #[.bool s, .slice ao n cap, .int .i64 e]) ∧ PN w' (.agg #[.bool s, .slice ao n cap, .int .i64 e]) tna ∧ Below W3.heap.size W3 w' ∧ Hid (Below w4.heap.size w4 w') := fun w4 hb =>
      (HA2.out w4 _ (HV.out.1.trans (hb.mono HV.out.1.size)) (HV.out.2.2.2.2.2.later hb)).mono fun r w' ⟨s, ao, n, cap, e, e1, o1, o2⟩ => ⟨s, ao, n, cap, e, e1, o1, hb.trans (o2.mono hb.size), o2⟩
    have kc : ∀ w4 X Y, Below W3.heap.size W3 w4 → PN w4 X tra → PN w4 Y tna → Calls Tryz.prog 67 #[X, Y] w4 fun r w' => r = .returned (.int .i64 c) ∧ Below W3.heap.size W3 w' := fun w4 X Y hb h1 h2 =>
      (HC.out w4 _ _ (HV.out.1.trans (hb.mono HV.out.1.size)) h1 h2).mono fun r w' ⟨e1, o2⟩ => ⟨e1, hb.trans (o2.mono hb.size)⟩
    obtain ⟨⟨⟨d0, d1, d2⟩, ⟨e0, e1, e2⟩⟩, -⟩ := HK.out W3 (Below.refl _ _)
    go_region_held3 (fun w' => ((w'.cell? ⟨g4, 0, none⟩ = some (.bool s4) ∧ w'.cell? ⟨g4, 1, none⟩ = some (.slice ao4 n4 cap4) ∧ w'.cell? ⟨g4, 2, none⟩ = some (.int .i64 ex4)) ∧ (w'.cell? ⟨g5, 0, none⟩ = some (.bool s5) ∧ w'.cell? ⟨g5, 1, none⟩ = some (.slice ao5 n5 cap5) ∧ w'.cell? ⟨g5, 2, none⟩ = some (.int .i64 ex5))) ∧ Below W3.heap.size W3 w') (first | (with_reducible assumption) | exact ⟨⟨⟨d0, d1, d2⟩, ⟨e0, e1, e2⟩⟩, hBR⟩ | (refine HK.out _ ?_; with_reducible assumption) | go_keep)
      (first | (go_at_call 68; first | (have hq := hP6; clear hq; refine (ka2 _ hb6).mono ?_; rintro r w7 ⟨s7, ao7, n7, cap7, ex7, rfl, hP7, hb7, hk7⟩) | (refine (ka1 _ hBR).mono ?_; rintro r w6 ⟨s6, ao6, n6, cap6, ex6, rfl, hP6, hb6⟩))
             | (go_at_call 67; refine (kc _ _ _ hb7 (hP6.later hk7.out) hP7).mono ?_; rintro r w8 ⟨rfl, hb8⟩))
    all_goals
      have HF : Hid (Below w.heap.size w w8 ∧ w8.heap[w.heap.size + 1 + 1]? = some (.cells #[.bool false, .slice none 0 0, .int .i64 0] 44 (0, 0)) ∧ PN w8 (.agg #[.bool s4, .slice ao4 n4 cap4, .int .i64 ex4]) tr ∧ w8.heap[g4]? = some (.cells #[.bool s4, .slice ao4 n4 cap4, .int .i64 ex4] 44 (0, 0)) ∧ w8.heap[g3]? = some (.cells #[.bool s3, .slice ao3 n3 cap3, .int .i64 ex3] 44 (0, 0)) ∧ PN w8 (.agg #[.bool s3, .slice ao3 n3 cap3, .int .i64 ex3]) tq) := ⟨HV.out.1.trans (hb8.mono HV.out.1.size), box_later HV.out.2.1 hb8 (lt_of_box HV.out.2.1), HV.out.2.2.2.1.later hb8, box_later HV.out.2.2.1 hb8 (lt_of_box HV.out.2.2.1), box_later HN3.out.1 hb8 (lt_of_box HN3.out.1), HN3.out.2.later hb8⟩
      clear hP6 hb6 hP7 hb7 hk7 hb8 ka1 ka2 kc HK hBR d0 d1 d2 e0 e1 e2
      obtain ⟨⟨e0, e1, e2⟩, -⟩ := box_cells HF.out.2.2.2.1
      obtain ⟨⟨z0, z1, z2⟩, z3, z4, z5⟩ := box_cells HF.out.2.1
      go_wp2_with fail
      refine bodyPost_ret (results_cell_row rfl _ _ (w.heap.size + 1 + 1) 44 #[.bool s4, .slice ao4 n4 cap4, .int .i64 ex4] (0, 0) _ rfl (store3 _ _ _ HF.out.2.1) Tryz.underlying44 rfl Tryz.info44) rfl ?_
      exact ⟨_, _, _, _, _, rfl, pn_store HF.out.2.2.1 HF.out.2.1 _ _ _, below_store3 HF.out.1 (by omega) _ _ _⟩
set_option maxRecDepth 200000 in
theorem lrest_o (s1 s2 : Bool) (ao1 ao2 : Option Addr) (n1 cap1 n2 cap2 : Nat) (ex1 ex2 c : Int) (ta tb tq tm tr tn tra tna : Bool × Nat × Int) (w : World) (hc : c = 0)
    (hA : PN w (.agg #[.bool s1, .slice ao1 n1 cap1, .int .i64 ex1]) ta) (hB : PN w (.agg #[.bool s2, .slice ao2 n2 cap2, .int .i64 ex2]) tb)
    (kQ : ∀ W, Below w.heap.size w W → Calls Tryz.prog 64 #[.agg #[.bool s1, .slice ao1 n1 cap1, .int .i64 ex1], .agg #[.bool s2, .slice ao2 n2 cap2, .int .i64 ex2], .int .i64 0] W fun r w' => ∃ s ao n cap e x, r = .returned (.tuple #[.agg #[.bool s, .slice ao n cap, .int .i64 e], .bool x, .int .i64 0]) ∧ PN w' (.agg #[.bool s, .slice ao n cap, .int .i64 e]) tq ∧ Below W.heap.size W w')
    (kM : ∀ W X Y, Below w.heap.size w W → PN W X tq → PN W Y tb → Calls Tryz.prog 66 #[X, Y] W fun r w' => OutA W tm r w')
    (kT1 : ∀ W X Y, Below w.heap.size w W → PN W X ta → PN W Y tm → Calls Tryz.prog 65 #[X, Y] W fun r w' => OutA W tr r w')
    (kT2 : ∀ W X Y, Below w.heap.size w W → PN W X tr → PN W Y tb → Calls Tryz.prog 65 #[X, Y] W fun r w' => OutA W tn r w')
    (kA1 : ∀ W X, Below w.heap.size w W → PN W X tr → Calls Tryz.prog 68 #[X] W fun r w' => OutA W tra r w')
    (kA2 : ∀ W X, Below w.heap.size w W → PN W X tn → Calls Tryz.prog 68 #[X] W fun r w' => OutA W tna r w')
    (kOd : ∀ W X, Below w.heap.size w W → PN W X tq → Calls Tryz.prog 69 #[X] W fun r w' => r = .returned (.bool true) ∧ Below W.heap.size W w')
    (kC : ∀ W X Y, Below w.heap.size w W → PN W X tra → PN W Y tna → Calls Tryz.prog 67 #[X, Y] W fun r w' => r = .returned (.int .i64 c) ∧ Below W.heap.size W w') :
    Calls Tryz.prog 29 #[.agg #[.bool s1, .slice ao1 n1 cap1, .int .i64 ex1], .agg #[.bool s2, .slice ao2 n2 cap2, .int .i64 ex2]] w fun r w' => OutA w tn r w' := by
  have HQ : Hid _ := kQ
  have HM : Hid _ := kM
  have HT1 : Hid _ := kT1
  have HT2 : Hid _ := kT2
  have HA1 : Hid _ := kA1
  have HA2 : Hid _ := kA2
  have HC : Hid _ := kC
  have HOd : Hid _ := kOd
  clear kOd
  obtain ⟨W, hW⟩ : ∃ W, W = ((w.alloc (.cells #[.bool s1, .slice ao1 n1 cap1, .int .i64 ex1] 44)).alloc (.cells #[.bool s2, .slice ao2 n2 cap2, .int .i64 ex2] 44)).alloc (.cells #[.bool false, .slice none 0 0, .int .i64 0] 44) := ⟨_, rfl⟩
  obtain ⟨gA, gB, gZ, hsz, hBW⟩ := boxes3 _ _ _ hW
  have HX : Hid (Below w.heap.size w W ∧ W.heap[w.heap.size]? = some (.cells #[.bool s1, .slice ao1 n1 cap1, .int .i64 ex1] 44 (0, 0)) ∧ W.heap[w.heap.size + 1]? = some (.cells #[.bool s2, .slice ao2 n2 cap2, .int .i64 ex2] 44 (0, 0)) ∧ W.heap[w.heap.size + 1 + 1]? = some (.cells #[.bool false, .slice none 0 0, .int .i64 0] 44 (0, 0)) ∧ PN w (.agg #[.bool s1, .slice ao1 n1 cap1, .int .i64 ex1]) ta ∧ PN w (.agg #[.bool s2, .slice ao2 n2 cap2, .int .i64 ex2]) tb) := ⟨hBW, gA, gB, gZ, hA, hB⟩
  obtain ⟨⟨a0, a1, a2⟩, -⟩ := box_cells gA
  obtain ⟨⟨b0, b1, b2⟩, -⟩ := box_cells gB
  have k1 := kQ W hBW
  clear kQ kM kT1 kT2 kA1 kA2 kC gA gB gZ hsz hBW hA hB
  rw [hW] at a0 a1 a2 b0 b1 b2
  have x1 : ¬ 0 < c := by omega
  have x2 : (c == 0) = true := beq_iff_eq.2 hc
  clear hc
  go_enter Tryz.func29, Tryz.ntmps29
  go_wp2_with fail
  rw [← hW]
  clear hW a0 a1 a2 b0 b1 b2
  refine k1.mono ?_
  rintro r w1 ⟨s3, ao3, n3, cap3, ex3, xq, rfl, hP3, hb1⟩
  clear k1
  obtain ⟨W1, hW1⟩ : ∃ W1, W1 = w1.alloc (.cells #[.bool s3, .slice ao3 n3 cap3, .int .i64 ex3] 44) := ⟨_, rfl⟩
  have hbW : Below W.heap.size W W1 := by rw [hW1]; exact hb1.alloc hb1.size _
  have HY : Hid (Below w.heap.size w W1 ∧ W1.heap[w.heap.size]? = some (.cells #[.bool s1, .slice ao1 n1 cap1, .int .i64 ex1] 44 (0, 0)) ∧ W1.heap[w.heap.size + 1]? = some (.cells #[.bool s2, .slice ao2 n2 cap2, .int .i64 ex2] 44 (0, 0)) ∧ W1.heap[w.heap.size + 1 + 1]? = some (.cells #[.bool false, .slice none 0 0, .int .i64 0] 44 (0, 0)) ∧ PN W1 (.agg #[.bool s1, .slice ao1 n1 cap1, .int .i64 ex1]) ta ∧ PN W1 (.agg #[.bool s2, .slice ao2 n2 cap2, .int .i64 ex2]) tb ∧ W1.heap[w1.heap.size]? = some (.cells #[.bool s3, .slice ao3 n3 cap3, .int .i64 ex3] 44 (0, 0)) ∧ PN W1 (.agg #[.bool s3, .slice ao3 n3 cap3, .int .i64 ex3]) tq) :=
    ⟨HX.out.1.trans (hbW.mono HX.out.1.size), box_later HX.out.2.1 hbW (lt_of_box HX.out.2.1), box_later HX.out.2.2.1 hbW (lt_of_box HX.out.2.2.1), box_later HX.out.2.2.2.1 hbW (lt_of_box HX.out.2.2.2.1), HX.out.2.2.2.2.1.later (HX.out.1.trans (hbW.mono HX.out.1.size)), HX.out.2.2.2.2.2.later (HX.out.1.trans (hbW.mono HX.out.1.size)), by rw [hW1]; exact heap_alloc_new _ _, by rw [hW1]; exact hP3.later ((Below.refl _ _).alloc (Nat.le_refl _) _)⟩
  clear hbW hP3 hb1
  go_upto_region 2 with fail
  rw [← hW1]
  clear hW1 HX
  generalize w1.heap.size = g3 at *
  have HK : Hid (∀ w', Below W1.heap.size W1 w' → ((w'.cell? ⟨w.heap.size, 0, none⟩ = some (.bool s1) ∧ w'.cell? ⟨w.heap.size, 1, none⟩ = some (.slice ao1 n1 cap1) ∧ w'.cell? ⟨w.heap.size, 2, none⟩ = some (.int .i64 ex1)) ∧ (w'.cell? ⟨w.heap.size + 1, 0, none⟩ = some (.bool s2) ∧ w'.cell? ⟨w.heap.size + 1, 1, none⟩ = some (.slice ao2 n2 cap2) ∧ w'.cell? ⟨w.heap.size + 1, 2, none⟩ = some (.int .i64 ex2)) ∧ (w'.cell? ⟨g3, 0, none⟩ = some (.bool s3) ∧ w'.cell? ⟨g3, 1, none⟩ = some (.slice ao3 n3 cap3) ∧ w'.cell? ⟨g3, 2, none⟩ = some (.int .i64 ex3))) ∧ Below W1.heap.size W1 w') := fun w' hb => ⟨⟨(box_cells (box_later HY.out.2.1 hb (lt_of_box HY.out.2.1))).1, (box_cells (box_later HY.out.2.2.1 hb (lt_of_box HY.out.2.2.1))).1, (box_cells (box_later HY.out.2.2.2.2.2.2.1 hb (lt_of_box HY.out.2.2.2.2.2.2.1))).1⟩, hb⟩
  have hBR : Below W1.heap.size W1 W1.drew := (Below.refl _ _).drew
  have km : ∀ w4, Below W1.heap.size W1 w4 → Calls Tryz.prog 66 #[.agg #[.bool s3, .slice ao3 n3 cap3, .int .i64 ex3], .agg #[.bool s2, .slice ao2 n2 cap2, .int .i64 ex2]] w4 fun r w' => ∃ s ao n cap e, r = .returned (.agg #[.bool s, .slice ao n cap, .int .i64 e]) ∧ PN w' (.agg #[.bool s, .slice ao n cap, .int .i64 e]) tm ∧ Below W1.heap.size W1 w' ∧ Hid (∀ g o, w4.heap[g]? = some o → w'.heap[g]? = some o) := fun w4 hb =>
    (HM.out w4 _ _ (HY.out.1.trans (hb.mono HY.out.1.size)) (HY.out.2.2.2.2.2.2.2.later hb) (HY.out.2.2.2.2.2.1.later hb)).mono fun r w' ⟨s, ao, n, cap, e, e1, o1, o2⟩ => ⟨s, ao, n, cap, e, e1, o1, hb.trans (o2.mono hb.size), fun g o hg => box_later hg o2 (lt_of_box hg)⟩
  have kt : ∀ w4 Y, Below W1.heap.size W1 w4 → PN w4 Y tm → Calls Tryz.prog 65 #[.agg #[.bool s1, .slice ao1 n1 cap1, .int .i64 ex1], Y] w4 fun r w' => ∃ s ao n cap e, r = .returned (.agg #[.bool s, .slice ao n cap, .int .i64 e]) ∧ PN w' (.agg #[.bool s, .slice ao n cap, .int .i64 e]) tr ∧ Below W1.heap.size W1 w' ∧ Hid (∀ g o, w4.heap[g]? = some o → w'.heap[g]? = some o) := fun w4 Y hb h2 =>
    (HT1.out w4 _ _ (HY.out.1.trans (hb.mono HY.out.1.size)) (HY.out.2.2.2.2.1.later hb) h2).mono fun r w' ⟨s, ao, n, cap, e, e1, o1, o2⟩ => ⟨s, ao, n, cap, e, e1, o1, hb.trans (o2.mono hb.size), fun g o hg => box_later hg o2 (lt_of_box hg)⟩
  obtain ⟨⟨⟨a0, a1, a2⟩, ⟨b0, b1, b2⟩, ⟨c0, c1, c2⟩⟩, -⟩ := HK.out W1 (Below.refl _ _)
  go_cut [8] from 18 to 22 (fun p wx => ∃ g s ao n cap ex, p = .pointer (some ⟨g, 0, none⟩) ∧ Hid (BxP W1 wx g s ao n cap ex tr))
  case first =>
    go_region_held3 (fun w' => ((w'.cell? ⟨w.heap.size, 0, none⟩ = some (.bool s1) ∧ w'.cell? ⟨w.heap.size, 1, none⟩ = some (.slice ao1 n1 cap1) ∧ w'.cell? ⟨w.heap.size, 2, none⟩ = some (.int .i64 ex1)) ∧ (w'.cell? ⟨w.heap.size + 1, 0, none⟩ = some (.bool s2) ∧ w'.cell? ⟨w.heap.size + 1, 1, none⟩ = some (.slice ao2 n2 cap2) ∧ w'.cell? ⟨w.heap.size + 1, 2, none⟩ = some (.int .i64 ex2)) ∧ (w'.cell? ⟨g3, 0, none⟩ = some (.bool s3) ∧ w'.cell? ⟨g3, 1, none⟩ = some (.slice ao3 n3 cap3) ∧ w'.cell? ⟨g3, 2, none⟩ = some (.int .i64 ex3))) ∧ Below W1.heap.size W1 w') (first | (with_reducible assumption) | exact ⟨⟨⟨a0, a1, a2⟩, ⟨b0, b1, b2⟩, ⟨c0, c1, c2⟩⟩, hBR⟩ | (refine HK.out _ ?_; with_reducible assumption) | (refine HK.out _ ?_; refine Below.alloc (by with_reducible assumption) (Below.size (by with_reducible assumption)) _) | (refine HK.out _ (below_store3 (by first | (with_reducible assumption) | exact hb7.alloc hb7.size _) (by first | exact Nat.le_refl _ | exact hb5.size | exact hb7.size) _ _ _)) | go_keep)
      (first | (go_at_call 66; refine (km _ (by first | (with_reducible assumption) | exact hBR.alloc hBR.size _)).mono ?_; rintro r w5 ⟨s5, ao5, n5, cap5, ex5, rfl, ho5, hb5, hk5⟩; first | (have HBY : Hid (w5.heap[W1.heap.size]? = some (.cells #[.bool false, .slice none 0 0, .int .i64 0] 44 (0, 0))) := hk5.out _ _ (heap_alloc_new W1.drew _)) | (have HBY : Hid True := trivial))
             | (go_at_call 65; refine (kt _ _ (by first | (with_reducible assumption) | exact hb5.alloc hb5.size _) (by first | (with_reducible assumption) | exact ho5.later ((Below.refl _ _).alloc (Nat.le_refl _) _))).mono ?_; rintro r w7 ⟨s7, ao7, n7, cap7, ex7, rfl, hn7, hb7, hk7⟩; first | (have HBZ := hidOf (hk7.out _ _ HBY.out); obtain ⟨⟨x1, x2, x3⟩, x4, x5, x6⟩ := box_cells HBZ.out) | (have HBZ : Hid (w7.heap[w5.heap.size]? = some (.cells #[.bool false, .slice none 0 0, .int .i64 0] 44 (0, 0))) := hk7.out _ _ (heap_alloc_new w5 _); obtain ⟨⟨x1, x2, x3⟩, x4, x5, x6⟩ := box_cells HBZ.out) | (have HBZ : Hid True := trivial)))
    all_goals go_wp2_with fail
    all_goals go_meet
    all_goals first
      | exact ⟨_, _, _, _, _, _, rfl, BxP.new hn7 hb7⟩
      | exact ⟨_, _, _, _, _, _, rfl, BxP.put hn7 hb7 hb5.size HBZ.out⟩
      | exact ⟨_, _, _, _, _, _, rfl, BxP.put hn7 hb7 (Nat.le_refl _) HBZ.out⟩
  case rest =>
    obtain ⟨W2, rfl⟩ : ∃ W2 : World, W2 = wc := ⟨_, rfl⟩
    obtain ⟨g4, s4, ao4, n4, cap4, ex4, rfl, HR⟩ := hcut
    clear km kt HK hBR a0 a1 a2 b0 b1 b2 c0 c1 c2
    have HN : Hid (W2.heap[g3]? = some (.cells #[.bool s3, .slice ao3 n3 cap3, .int .i64 ex3] 44 (0, 0)) ∧ PN W2 (.agg #[.bool s3, .slice ao3 n3 cap3, .int .i64 ex3]) tq) := ⟨box_later HY.out.2.2.2.2.2.2.1 HR.out.2.2.1 (lt_of_box HY.out.2.2.2.2.2.2.1), HY.out.2.2.2.2.2.2.2.later HR.out.2.2.1⟩
    have HS : Hid (Below w.heap.size w W2 ∧ W2.heap[w.heap.size + 1]? = some (.cells #[.bool s2, .slice ao2 n2 cap2, .int .i64 ex2] 44 (0, 0)) ∧ W2.heap[w.heap.size + 1 + 1]? = some (.cells #[.bool false, .slice none 0 0, .int .i64 0] 44 (0, 0)) ∧ PN W2 (.agg #[.bool s2, .slice ao2 n2 cap2, .int .i64 ex2]) tb ∧ W2.heap[g4]? = some (.cells #[.bool s4, .slice ao4 n4 cap4, .int .i64 ex4] 44 (0, 0)) ∧ PN W2 (.agg #[.bool s4, .slice ao4 n4 cap4, .int .i64 ex4]) tr) :=
      ⟨HY.out.1.trans (HR.out.2.2.1.mono HY.out.1.size), box_later HY.out.2.2.1 HR.out.2.2.1 (lt_of_box HY.out.2.2.1), box_later HY.out.2.2.2.1 HR.out.2.2.1 (lt_of_box HY.out.2.2.2.1), HY.out.2.2.2.2.2.1.later HR.out.2.2.1, HR.out.1, HR.out.2.2.2⟩
    clear HY HR
    obtain ⟨⟨b0, b1, b2⟩, -⟩ := box_cells HS.out.2.1
    obtain ⟨⟨d0, d1, d2⟩, -⟩ := box_cells HS.out.2.2.2.2.1
    have k3 := HT2.out W2 _ _ HS.out.1 HS.out.2.2.2.2.2 HS.out.2.2.2.1
    go_wp2_with fail
    refine k3.mono ?_
    rintro r w3 ⟨s5, ao5, n5, cap5, ex5, rfl, hP5, hb3⟩
    clear k3 b0 b1 b2 d0 d1 d2
    obtain ⟨W3, hW3⟩ : ∃ W3, W3 = w3.alloc (.cells #[.bool s5, .slice ao5 n5 cap5, .int .i64 ex5] 44) := ⟨_, rfl⟩
    have hbW : Below W2.heap.size W2 W3 := by rw [hW3]; exact hb3.alloc hb3.size _
    have HV : Hid (Below w.heap.size w W3 ∧ W3.heap[w.heap.size + 1 + 1]? = some (.cells #[.bool false, .slice none 0 0, .int .i64 0] 44 (0, 0)) ∧ W3.heap[g4]? = some (.cells #[.bool s4, .slice ao4 n4 cap4, .int .i64 ex4] 44 (0, 0)) ∧ PN W3 (.agg #[.bool s4, .slice ao4 n4 cap4, .int .i64 ex4]) tr ∧ W3.heap[w3.heap.size]? = some (.cells #[.bool s5, .slice ao5 n5 cap5, .int .i64 ex5] 44 (0, 0)) ∧ PN W3 (.agg #[.bool s5, .slice ao5 n5 cap5, .int .i64 ex5]) tn) :=
      ⟨HS.out.1.trans (hbW.mono HS.out.1.size), box_later HS.out.2.2.1 hbW (lt_of_box HS.out.2.2.1), box_later HS.out.2.2.2.2.1 hbW (lt_of_box HS.out.2.2.2.2.1), HS.out.2.2.2.2.2.later hbW, by rw [hW3]; exact heap_alloc_new _ _, by rw [hW3]; exact hP5.later ((Below.refl _ _).alloc (Nat.le_refl _) _)⟩
    have HN3 : Hid (W3.heap[g3]? = some (.cells #[.bool s3, .slice ao3 n3 cap3, .int .i64 ex3] 44 (0, 0)) ∧ PN W3 (.agg #[.bool s3, .slice ao3 n3 cap3, .int .i64 ex3]) tq) := ⟨box_later HN.out.1 hbW (lt_of_box HN.out.1), HN.out.2.later hbW⟩
    clear hbW hP5 hb3 HN
    go_upto_region 4 with fail
    rw [← hW3]
    clear hW3 HS
    generalize w3.heap.size = g5 at *
    have HK : Hid (∀ w', Below W3.heap.size W3 w' → ((w'.cell? ⟨g4, 0, none⟩ = some (.bool s4) ∧ w'.cell? ⟨g4, 1, none⟩ = some (.slice ao4 n4 cap4) ∧ w'.cell? ⟨g4, 2, none⟩ = some (.int .i64 ex4)) ∧ (w'.cell? ⟨g5, 0, none⟩ = some (.bool s5) ∧ w'.cell? ⟨g5, 1, none⟩ = some (.slice ao5 n5 cap5) ∧ w'.cell? ⟨g5, 2, none⟩ = some (.int .i64 ex5))) ∧ Below W3.heap.size W3 w') := fun w' hb => ⟨⟨(box_cells (box_later HV.out.2.2.1 hb (lt_of_box HV.out.2.2.1))).1, (box_cells (box_later HV.out.2.2.2.2.1 hb (lt_of_box HV.out.2.2.2.2.1))).1⟩, hb⟩
    have hBR : Below W3.heap.size W3 W3.drew := (Below.refl _ _).drew
    have ka1 : ∀ w4, Below W3.heap.size W3 w4 → Calls Tryz.prog 68 #[.agg #[.bool s4, .slice ao4 n4 cap4, .int .i64 ex4]] w4 fun r w' => ∃ s ao n cap e, r = .returned (.agg #[.bool s, .slice ao n cap, .int .i64 e]) ∧ PN w' (.agg #[.bool s, .slice ao n cap, .int .i64 e]) tra ∧ Below W3.heap.size W3 w' := fun w4 hb =>
      (HA1.out w4 _ (HV.out.1.trans (hb.mono HV.out.1.size)) (HV.out.2.2.2.1.later hb)).mono fun r w' ⟨s, ao, n, cap, e, e1, o1, o2⟩ => ⟨s, ao, n, cap, e, e1, o1, hb.trans (o2.mono hb.size)⟩
    have ka2 : ∀ w4, Below W3.heap.size W3 w4 → Calls Tryz.prog 68 #[.agg #[.bool s5, .slice ao5 n5 cap5, .int .i64 ex5]] w4 fun r w' => ∃ s ao n cap e, r = .returned (.agg #[.bool s, .slice ao n cap, .int .i64 e]) ∧ PN w' (.agg #[.bool s, .slice ao n cap, .int .i64 e]) tna ∧ Below W3.heap.size W3 w' ∧ Hid (Below w4.heap.size w4 w') := fun w4 hb =>
      (HA2.out w4 _ (HV.out.1.trans (hb.mono HV.out.1.size)) (HV.out.2.2.2.2.2.later hb)).mono fun r w' ⟨s, ao, n, cap, e, e1, o1, o2⟩ => ⟨s, ao, n, cap, e, e1, o1, hb.trans (o2.mono hb.size), o2⟩
    have kc : ∀ w4 X Y, Below W3.heap.size W3 w4 → PN w4 X tra → PN w4 Y tna → Calls Tryz.prog 67 #[X, Y] w4 fun r w' => r = .returned (.int .i64 c) ∧ Below W3.heap.size W3 w' := fun w4 X Y hb h1 h2 =>
      (HC.out w4 _ _ (HV.out.1.trans (hb.mono HV.out.1.size)) h1 h2).mono fun r w' ⟨e1, o2⟩ => ⟨e1, hb.trans (o2.mono hb.size)⟩
    obtain ⟨⟨⟨d0, d1, d2⟩, ⟨e0, e1, e2⟩⟩, -⟩ := HK.out W3 (Below.refl _ _)
    go_region_held3 (fun w' => ((w'.cell? ⟨g4, 0, none⟩ = some (.bool s4) ∧ w'.cell? ⟨g4, 1, none⟩ = some (.slice ao4 n4 cap4) ∧ w'.cell? ⟨g4, 2, none⟩ = some (.int .i64 ex4)) ∧ (w'.cell? ⟨g5, 0, none⟩ = some (.bool s5) ∧ w'.cell? ⟨g5, 1, none⟩ = some (.slice ao5 n5 cap5) ∧ w'.cell? ⟨g5, 2, none⟩ = some (.int .i64 ex5))) ∧ Below W3.heap.size W3 w') (first | (with_reducible assumption) | exact ⟨⟨⟨d0, d1, d2⟩, ⟨e0, e1, e2⟩⟩, hBR⟩ | (refine HK.out _ ?_; with_reducible assumption) | go_keep)
      (first | (go_at_call 68; first | (have hq := hP6; clear hq; refine (ka2 _ hb6).mono ?_; rintro r w7 ⟨s7, ao7, n7, cap7, ex7, rfl, hP7, hb7, hk7⟩) | (refine (ka1 _ hBR).mono ?_; rintro r w6 ⟨s6, ao6, n6, cap6, ex6, rfl, hP6, hb6⟩))
             | (go_at_call 67; refine (kc _ _ _ hb7 (hP6.later hk7.out) hP7).mono ?_; rintro r w8 ⟨rfl, hb8⟩))
    all_goals
      have HF : Hid (Below w.heap.size w w8 ∧ w8.heap[w.heap.size + 1 + 1]? = some (.cells #[.bool false, .slice none 0 0, .int .i64 0] 44 (0, 0)) ∧ PN w8 (.agg #[.bool s5, .slice ao5 n5 cap5, .int .i64 ex5]) tn ∧ w8.heap[g5]? = some (.cells #[.bool s5, .slice ao5 n5 cap5, .int .i64 ex5] 44 (0, 0)) ∧ w8.heap[g3]? = some (.cells #[.bool s3, .slice ao3 n3 cap3, .int .i64 ex3] 44 (0, 0)) ∧ PN w8 (.agg #[.bool s3, .slice ao3 n3 cap3, .int .i64 ex3]) tq) := ⟨HV.out.1.trans (hb8.mono HV.out.1.size), box_later HV.out.2.1 hb8 (lt_of_box HV.out.2.1), HV.out.2.2.2.2.2.later hb8, box_later HV.out.2.2.2.2.1 hb8 (lt_of_box HV.out.2.2.2.2.1), box_later HN3.out.1 hb8 (lt_of_box HN3.out.1), HN3.out.2.later hb8⟩
      clear hP6 hb6 hP7 hb7 hk7 hb8 ka1 ka2 kc HK hBR d0 d1 d2 e0 e1 e2
      obtain ⟨⟨o0, o1, o2⟩, -⟩ := box_cells HF.out.2.2.2.2.1
      have ko := HOd.out w8 _ HF.out.1 HF.out.2.2.2.2.2
      go_wp2_with fail
      refine ko.mono ?_
      rintro r w9 ⟨rfl, hb9⟩
      have HG : Hid (Below w.heap.size w w9 ∧ w9.heap[w.heap.size + 1 + 1]? = some (.cells #[.bool false, .slice none 0 0, .int .i64 0] 44 (0, 0)) ∧ PN w9 (.agg #[.bool s5, .slice ao5 n5 cap5, .int .i64 ex5]) tn ∧ w9.heap[g5]? = some (.cells #[.bool s5, .slice ao5 n5 cap5, .int .i64 ex5] 44 (0, 0))) := ⟨HF.out.1.trans (hb9.mono HF.out.1.size), box_later HF.out.2.1 hb9 (lt_of_box HF.out.2.1), HF.out.2.2.1.later hb9, box_later HF.out.2.2.2.1 hb9 (lt_of_box HF.out.2.2.2.1)⟩
      clear ko hb9 o0 o1 o2
      obtain ⟨⟨e0, e1, e2⟩, -⟩ := box_cells HG.out.2.2.2
      obtain ⟨⟨z0, z1, z2⟩, z3, z4, z5⟩ := box_cells HG.out.2.1
      go_wp2_with fail
      refine bodyPost_ret (results_cell_row rfl _ _ (w.heap.size + 1 + 1) 44 #[.bool s5, .slice ao5 n5 cap5, .int .i64 ex5] (0, 0) _ rfl (store3 _ _ _ HG.out.2.1) Tryz.underlying44 rfl Tryz.info44) rfl ?_
      exact ⟨_, _, _, _, _, rfl, pn_store HG.out.2.2.1 HG.out.2.1 _ _ _, below_store3 HG.out.1 (by omega) _ _ _⟩
set_option maxRecDepth 200000 in
theorem lrest_e (s1 s2 : Bool) (ao1 ao2 : Option Addr) (n1 cap1 n2 cap2 : Nat) (ex1 ex2 c : Int) (ta tb tq tm tr tn tra tna : Bool × Nat × Int) (w : World) (hc : c = 0)
    (hA : PN w (.agg #[.bool s1, .slice ao1 n1 cap1, .int .i64 ex1]) ta) (hB : PN w (.agg #[.bool s2, .slice ao2 n2 cap2, .int .i64 ex2]) tb)
    (kQ : ∀ W, Below w.heap.size w W → Calls Tryz.prog 64 #[.agg #[.bool s1, .slice ao1 n1 cap1, .int .i64 ex1], .agg #[.bool s2, .slice ao2 n2 cap2, .int .i64 ex2], .int .i64 0] W fun r w' => ∃ s ao n cap e x, r = .returned (.tuple #[.agg #[.bool s, .slice ao n cap, .int .i64 e], .bool x, .int .i64 0]) ∧ PN w' (.agg #[.bool s, .slice ao n cap, .int .i64 e]) tq ∧ Below W.heap.size W w')
    (kM : ∀ W X Y, Below w.heap.size w W → PN W X tq → PN W Y tb → Calls Tryz.prog 66 #[X, Y] W fun r w' => OutA W tm r w')
    (kT1 : ∀ W X Y, Below w.heap.size w W → PN W X ta → PN W Y tm → Calls Tryz.prog 65 #[X, Y] W fun r w' => OutA W tr r w')
    (kT2 : ∀ W X Y, Below w.heap.size w W → PN W X tr → PN W Y tb → Calls Tryz.prog 65 #[X, Y] W fun r w' => OutA W tn r w')
    (kA1 : ∀ W X, Below w.heap.size w W → PN W X tr → Calls Tryz.prog 68 #[X] W fun r w' => OutA W tra r w')
    (kA2 : ∀ W X, Below w.heap.size w W → PN W X tn → Calls Tryz.prog 68 #[X] W fun r w' => OutA W tna r w')
    (kOd : ∀ W X, Below w.heap.size w W → PN W X tq → Calls Tryz.prog 69 #[X] W fun r w' => r = .returned (.bool false) ∧ Below W.heap.size W w')
    (kC : ∀ W X Y, Below w.heap.size w W → PN W X tra → PN W Y tna → Calls Tryz.prog 67 #[X, Y] W fun r w' => r = .returned (.int .i64 c) ∧ Below W.heap.size W w') :
    Calls Tryz.prog 29 #[.agg #[.bool s1, .slice ao1 n1 cap1, .int .i64 ex1], .agg #[.bool s2, .slice ao2 n2 cap2, .int .i64 ex2]] w fun r w' => OutA w tr r w' := by
  have HQ : Hid _ := kQ
  have HM : Hid _ := kM
  have HT1 : Hid _ := kT1
  have HT2 : Hid _ := kT2
  have HA1 : Hid _ := kA1
  have HA2 : Hid _ := kA2
  have HC : Hid _ := kC
  have HOd : Hid _ := kOd
  clear kOd
  obtain ⟨W, hW⟩ : ∃ W, W = ((w.alloc (.cells #[.bool s1, .slice ao1 n1 cap1, .int .i64 ex1] 44)).alloc (.cells #[.bool s2, .slice ao2 n2 cap2, .int .i64 ex2] 44)).alloc (.cells #[.bool false, .slice none 0 0, .int .i64 0] 44) := ⟨_, rfl⟩
  obtain ⟨gA, gB, gZ, hsz, hBW⟩ := boxes3 _ _ _ hW
  have HX : Hid (Below w.heap.size w W ∧ W.heap[w.heap.size]? = some (.cells #[.bool s1, .slice ao1 n1 cap1, .int .i64 ex1] 44 (0, 0)) ∧ W.heap[w.heap.size + 1]? = some (.cells #[.bool s2, .slice ao2 n2 cap2, .int .i64 ex2] 44 (0, 0)) ∧ W.heap[w.heap.size + 1 + 1]? = some (.cells #[.bool false, .slice none 0 0, .int .i64 0] 44 (0, 0)) ∧ PN w (.agg #[.bool s1, .slice ao1 n1 cap1, .int .i64 ex1]) ta ∧ PN w (.agg #[.bool s2, .slice ao2 n2 cap2, .int .i64 ex2]) tb) := ⟨hBW, gA, gB, gZ, hA, hB⟩
  obtain ⟨⟨a0, a1, a2⟩, -⟩ := box_cells gA
  obtain ⟨⟨b0, b1, b2⟩, -⟩ := box_cells gB
  have k1 := kQ W hBW
  clear kQ kM kT1 kT2 kA1 kA2 kC gA gB gZ hsz hBW hA hB
  rw [hW] at a0 a1 a2 b0 b1 b2
  have x1 : ¬ 0 < c := by omega
  have x2 : (c == 0) = true := beq_iff_eq.2 hc
  clear hc
  go_enter Tryz.func29, Tryz.ntmps29
  go_wp2_with fail
  rw [← hW]
  clear hW a0 a1 a2 b0 b1 b2
  refine k1.mono ?_
  rintro r w1 ⟨s3, ao3, n3, cap3, ex3, xq, rfl, hP3, hb1⟩
  clear k1
  obtain ⟨W1, hW1⟩ : ∃ W1, W1 = w1.alloc (.cells #[.bool s3, .slice ao3 n3 cap3, .int .i64 ex3] 44) := ⟨_, rfl⟩
  have hbW : Below W.heap.size W W1 := by rw [hW1]; exact hb1.alloc hb1.size _
  have HY : Hid (Below w.heap.size w W1 ∧ W1.heap[w.heap.size]? = some (.cells #[.bool s1, .slice ao1 n1 cap1, .int .i64 ex1] 44 (0, 0)) ∧ W1.heap[w.heap.size + 1]? = some (.cells #[.bool s2, .slice ao2 n2 cap2, .int .i64 ex2] 44 (0, 0)) ∧ W1.heap[w.heap.size + 1 + 1]? = some (.cells #[.bool false, .slice none 0 0, .int .i64 0] 44 (0, 0)) ∧ PN W1 (.agg #[.bool s1, .slice ao1 n1 cap1, .int .i64 ex1]) ta ∧ PN W1 (.agg #[.bool s2, .slice ao2 n2 cap2, .int .i64 ex2]) tb ∧ W1.heap[w1.heap.size]? = some (.cells #[.bool s3, .slice ao3 n3 cap3, .int .i64 ex3] 44 (0, 0)) ∧ PN W1 (.agg #[.bool s3, .slice ao3 n3 cap3, .int .i64 ex3]) tq) :=
    ⟨HX.out.1.trans (hbW.mono HX.out.1.size), box_later HX.out.2.1 hbW (lt_of_box HX.out.2.1), box_later HX.out.2.2.1 hbW (lt_of_box HX.out.2.2.1), box_later HX.out.2.2.2.1 hbW (lt_of_box HX.out.2.2.2.1), HX.out.2.2.2.2.1.later (HX.out.1.trans (hbW.mono HX.out.1.size)), HX.out.2.2.2.2.2.later (HX.out.1.trans (hbW.mono HX.out.1.size)), by rw [hW1]; exact heap_alloc_new _ _, by rw [hW1]; exact hP3.later ((Below.refl _ _).alloc (Nat.le_refl _) _)⟩
  clear hbW hP3 hb1
  go_upto_region 2 with fail
  rw [← hW1]
  clear hW1 HX
  generalize w1.heap.size = g3 at *
  have HK : Hid (∀ w', Below W1.heap.size W1 w' → ((w'.cell? ⟨w.heap.size, 0, none⟩ = some (.bool s1) ∧ w'.cell? ⟨w.heap.size, 1, none⟩ = some (.slice ao1 n1 cap1) ∧ w'.cell? ⟨w.heap.size, 2, none⟩ = some (.int .i64 ex1)) ∧ (w'.cell? ⟨w.heap.size + 1, 0, none⟩ = some (.bool s2) ∧ w'.cell? ⟨w.heap.size + 1, 1, none⟩ = some (.slice ao2 n2 cap2) ∧ w'.cell? ⟨w.heap.size + 1, 2, none⟩ = some (.int .i64 ex2)) ∧ (w'.cell? ⟨g3, 0, none⟩ = some (.bool s3) ∧ w'.cell? ⟨g3, 1, none⟩ = some (.slice ao3 n3 cap3) ∧ w'.cell? ⟨g3, 2, none⟩ = some (.int .i64 ex3))) ∧ Below W1.heap.size W1 w') := fun w' hb => ⟨⟨(box_cells (box_later HY.out.2.1 hb (lt_of_box HY.out.2.1))).1, (box_cells (box_later HY.out.2.2.1 hb (lt_of_box HY.out.2.2.1))).1, (box_cells (box_later HY.out.2.2.2.2.2.2.1 hb (lt_of_box HY.out.2.2.2.2.2.2.1))).1⟩, hb⟩
  have hBR : Below W1.heap.size W1 W1.drew := (Below.refl _ _).drew
  have km : ∀ w4, Below W1.heap.size W1 w4 → Calls Tryz.prog 66 #[.agg #[.bool s3, .slice ao3 n3 cap3, .int .i64 ex3], .agg #[.bool s2, .slice ao2 n2 cap2, .int .i64 ex2]] w4 fun r w' => ∃ s ao n cap e, r = .returned (.agg #[.bool s, .slice ao n cap, .int .i64 e]) ∧ PN w' (.agg #[.bool s, .slice ao n cap, .int .i64 e]) tm ∧ Below W1.heap.size W1 w' ∧ Hid (∀ g o, w4.heap[g]? = some o → w'.heap[g]? = some o) := fun w4 hb =>
    (HM.out w4 _ _ (HY.out.1.trans (hb.mono HY.out.1.size)) (HY.out.2.2.2.2.2.2.2.later hb) (HY.out.2.2.2.2.2.1.later hb)).mono fun r w' ⟨s, ao, n, cap, e, e1, o1, o2⟩ => ⟨s, ao, n, cap, e, e1, o1, hb.trans (o2.mono hb.size), fun g o hg => box_later hg o2 (lt_of_box hg)⟩
  have kt : ∀ w4 Y, Below W1.heap.size W1 w4 → PN w4 Y tm → Calls Tryz.prog 65 #[.agg #[.bool s1, .slice ao1 n1 cap1, .int .i64 ex1], Y] w4 fun r w' => ∃ s ao n cap e, r = .returned (.agg #[.bool s, .slice ao n cap, .int .i64 e]) ∧ PN w' (.agg #[.bool s, .slice ao n cap, .int .i64 e]) tr ∧ Below W1.heap.size W1 w' ∧ Hid (∀ g o, w4.heap[g]? = some o → w'.heap[g]? = some o) := fun w4 Y hb h2 =>
    (HT1.out w4 _ _ (HY.out.1.trans (hb.mono HY.out.1.size)) (HY.out.2.2.2.2.1.later hb) h2).mono fun r w' ⟨s, ao, n, cap, e, e1, o1, o2⟩ => ⟨s, ao, n, cap, e, e1, o1, hb.trans (o2.mono hb.size), fun g o hg => box_later hg o2 (lt_of_box hg)⟩
  obtain ⟨⟨⟨a0, a1, a2⟩, ⟨b0, b1, b2⟩, ⟨c0, c1, c2⟩⟩, -⟩ := HK.out W1 (Below.refl _ _)
  go_cut [8] from 18 to 22 (fun p wx => ∃ g s ao n cap ex, p = .pointer (some ⟨g, 0, none⟩) ∧ Hid (BxP W1 wx g s ao n cap ex tr))
  case first =>
    go_region_held3 (fun w' => ((w'.cell? ⟨w.heap.size, 0, none⟩ = some (.bool s1) ∧ w'.cell? ⟨w.heap.size, 1, none⟩ = some (.slice ao1 n1 cap1) ∧ w'.cell? ⟨w.heap.size, 2, none⟩ = some (.int .i64 ex1)) ∧ (w'.cell? ⟨w.heap.size + 1, 0, none⟩ = some (.bool s2) ∧ w'.cell? ⟨w.heap.size + 1, 1, none⟩ = some (.slice ao2 n2 cap2) ∧ w'.cell? ⟨w.heap.size + 1, 2, none⟩ = some (.int .i64 ex2)) ∧ (w'.cell? ⟨g3, 0, none⟩ = some (.bool s3) ∧ w'.cell? ⟨g3, 1, none⟩ = some (.slice ao3 n3 cap3) ∧ w'.cell? ⟨g3, 2, none⟩ = some (.int .i64 ex3))) ∧ Below W1.heap.size W1 w') (first | (with_reducible assumption) | exact ⟨⟨⟨a0, a1, a2⟩, ⟨b0, b1, b2⟩, ⟨c0, c1, c2⟩⟩, hBR⟩ | (refine HK.out _ ?_; with_reducible assumption) | (refine HK.out _ ?_; refine Below.alloc (by with_reducible assumption) (Below.size (by with_reducible assumption)) _) | (refine HK.out _ (below_store3 (by first | (with_reducible assumption) | exact hb7.alloc hb7.size _) (by first | exact Nat.le_refl _ | exact hb5.size | exact hb7.size) _ _ _)) | go_keep)
      (first | (go_at_call 66; refine (km _ (by first | (with_reducible assumption) | exact hBR.alloc hBR.size _)).mono ?_; rintro r w5 ⟨s5, ao5, n5, cap5, ex5, rfl, ho5, hb5, hk5⟩; first | (have HBY : Hid (w5.heap[W1.heap.size]? = some (.cells #[.bool false, .slice none 0 0, .int .i64 0] 44 (0, 0))) := hk5.out _ _ (heap_alloc_new W1.drew _)) | (have HBY : Hid True := trivial))
             | (go_at_call 65; refine (kt _ _ (by first | (with_reducible assumption) | exact hb5.alloc hb5.size _) (by first | (with_reducible assumption) | exact ho5.later ((Below.refl _ _).alloc (Nat.le_refl _) _))).mono ?_; rintro r w7 ⟨s7, ao7, n7, cap7, ex7, rfl, hn7, hb7, hk7⟩; first | (have HBZ := hidOf (hk7.out _ _ HBY.out); obtain ⟨⟨x1, x2, x3⟩, x4, x5, x6⟩ := box_cells HBZ.out) | (have HBZ : Hid (w7.heap[w5.heap.size]? = some (.cells #[.bool false, .slice none 0 0, .int .i64 0] 44 (0, 0))) := hk7.out _ _ (heap_alloc_new w5 _); obtain ⟨⟨x1, x2, x3⟩, x4, x5, x6⟩ := box_cells HBZ.out) | (have HBZ : Hid True := trivial)))
    all_goals go_wp2_with fail
    all_goals go_meet
    all_goals first
      | exact ⟨_, _, _, _, _, _, rfl, BxP.new hn7 hb7⟩
      | exact ⟨_, _, _, _, _, _, rfl, BxP.put hn7 hb7 hb5.size HBZ.out⟩
      | exact ⟨_, _, _, _, _, _, rfl, BxP.put hn7 hb7 (Nat.le_refl _) HBZ.out⟩
  case rest =>
    obtain ⟨W2, rfl⟩ : ∃ W2 : World, W2 = wc := ⟨_, rfl⟩
    obtain ⟨g4, s4, ao4, n4, cap4, ex4, rfl, HR⟩ := hcut
    clear km kt HK hBR a0 a1 a2 b0 b1 b2 c0 c1 c2
    have HN : Hid (W2.heap[g3]? = some (.cells #[.bool s3, .slice ao3 n3 cap3, .int .i64 ex3] 44 (0, 0)) ∧ PN W2 (.agg #[.bool s3, .slice ao3 n3 cap3, .int .i64 ex3]) tq) := ⟨box_later HY.out.2.2.2.2.2.2.1 HR.out.2.2.1 (lt_of_box HY.out.2.2.2.2.2.2.1), HY.out.2.2.2.2.2.2.2.later HR.out.2.2.1⟩
    have HS : Hid (Below w.heap.size w W2 ∧ W2.heap[w.heap.size + 1]? = some (.cells #[.bool s2, .slice ao2 n2 cap2, .int .i64 ex2] 44 (0, 0)) ∧ W2.heap[w.heap.size + 1 + 1]? = some (.cells #[.bool false, .slice none 0 0, .int .i64 0] 44 (0, 0)) ∧ PN W2 (.agg #[.bool s2, .slice ao2 n2 cap2, .int .i64 ex2]) tb ∧ W2.heap[g4]? = some (.cells #[.bool s4, .slice ao4 n4 cap4, .int .i64 ex4] 44 (0, 0)) ∧ PN W2 (.agg #[.bool s4, .slice ao4 n4 cap4, .int .i64 ex4]) tr) :=
      ⟨HY.out.1.trans (HR.out.2.2.1.mono HY.out.1.size), box_later HY.out.2.2.1 HR.out.2.2.1 (lt_of_box HY.out.2.2.1), box_later HY.out.2.2.2.1 HR.out.2.2.1 (lt_of_box HY.out.2.2.2.1), HY.out.2.2.2.2.2.1.later HR.out.2.2.1, HR.out.1, HR.out.2.2.2⟩
    clear HY HR
    obtain ⟨⟨b0, b1, b2⟩, -⟩ := box_cells HS.out.2.1
    obtain ⟨⟨d0, d1, d2⟩, -⟩ := box_cells HS.out.2.2.2.2.1
    have k3 := HT2.out W2 _ _ HS.out.1 HS.out.2.2.2.2.2 HS.out.2.2.2.1
    go_wp2_with fail
    refine k3.mono ?_
    rintro r w3 ⟨s5, ao5, n5, cap5, ex5, rfl, hP5, hb3⟩
    clear k3 b0 b1 b2 d0 d1 d2
    obtain ⟨W3, hW3⟩ : ∃ W3, W3 = w3.alloc (.cells #[.bool s5, .slice ao5 n5 cap5, .int .i64 ex5] 44) := ⟨_, rfl⟩
    have hbW : Below W2.heap.size W2 W3 := by rw [hW3]; exact hb3.alloc hb3.size _
    have HV : Hid (Below w.heap.size w W3 ∧ W3.heap[w.heap.size + 1 + 1]? = some (.cells #[.bool false, .slice none 0 0, .int .i64 0] 44 (0, 0)) ∧ W3.heap[g4]? = some (.cells #[.bool s4, .slice ao4 n4 cap4, .int .i64 ex4] 44 (0, 0)) ∧ PN W3 (.agg #[.bool s4, .slice ao4 n4 cap4, .int .i64 ex4]) tr ∧ W3.heap[w3.heap.size]? = some (.cells #[.bool s5, .slice ao5 n5 cap5, .int .i64 ex5] 44 (0, 0)) ∧ PN W3 (.agg #[.bool s5, .slice ao5 n5 cap5, .int .i64 ex5]) tn) :=
      ⟨HS.out.1.trans (hbW.mono HS.out.1.size), box_later HS.out.2.2.1 hbW (lt_of_box HS.out.2.2.1), box_later HS.out.2.2.2.2.1 hbW (lt_of_box HS.out.2.2.2.2.1), HS.out.2.2.2.2.2.later hbW, by rw [hW3]; exact heap_alloc_new _ _, by rw [hW3]; exact hP5.later ((Below.refl _ _).alloc (Nat.le_refl _) _)⟩
    have HN3 : Hid (W3.heap[g3]? = some (.cells #[.bool s3, .slice ao3 n3 cap3, .int .i64 ex3] 44 (0, 0)) ∧ PN W3 (.agg #[.bool s3, .slice ao3 n3 cap3, .int .i64 ex3]) tq) := ⟨box_later HN.out.1 hbW (lt_of_box HN.out.1), HN.out.2.later hbW⟩
    clear hbW hP5 hb3 HN
    go_upto_region 4 with fail
    rw [← hW3]
    clear hW3 HS
    generalize w3.heap.size = g5 at *
    have HK : Hid (∀ w', Below W3.heap.size W3 w' → ((w'.cell? ⟨g4, 0, none⟩ = some (.bool s4) ∧ w'.cell? ⟨g4, 1, none⟩ = some (.slice ao4 n4 cap4) ∧ w'.cell? ⟨g4, 2, none⟩ = some (.int .i64 ex4)) ∧ (w'.cell? ⟨g5, 0, none⟩ = some (.bool s5) ∧ w'.cell? ⟨g5, 1, none⟩ = some (.slice ao5 n5 cap5) ∧ w'.cell? ⟨g5, 2, none⟩ = some (.int .i64 ex5))) ∧ Below W3.heap.size W3 w') := fun w' hb => ⟨⟨(box_cells (box_later HV.out.2.2.1 hb (lt_of_box HV.out.2.2.1))).1, (box_cells (box_later HV.out.2.2.2.2.1 hb (lt_of_box HV.out.2.2.2.2.1))).1⟩, hb⟩
    have hBR : Below W3.heap.size W3 W3.drew := (Below.refl _ _).drew
    have ka1 : ∀ w4, Below W3.heap.size W3 w4 → Calls Tryz.prog 68 #[.agg #[.bool s4, .slice ao4 n4 cap4, .int .i64 ex4]] w4 fun r w' => ∃ s ao n cap e, r = .returned (.agg #[.bool s, .slice ao n cap, .int .i64 e]) ∧ PN w' (.agg #[.bool s, .slice ao n cap, .int .i64 e]) tra ∧ Below W3.heap.size W3 w' := fun w4 hb =>
      (HA1.out w4 _ (HV.out.1.trans (hb.mono HV.out.1.size)) (HV.out.2.2.2.1.later hb)).mono fun r w' ⟨s, ao, n, cap, e, e1, o1, o2⟩ => ⟨s, ao, n, cap, e, e1, o1, hb.trans (o2.mono hb.size)⟩
    have ka2 : ∀ w4, Below W3.heap.size W3 w4 → Calls Tryz.prog 68 #[.agg #[.bool s5, .slice ao5 n5 cap5, .int .i64 ex5]] w4 fun r w' => ∃ s ao n cap e, r = .returned (.agg #[.bool s, .slice ao n cap, .int .i64 e]) ∧ PN w' (.agg #[.bool s, .slice ao n cap, .int .i64 e]) tna ∧ Below W3.heap.size W3 w' ∧ Hid (Below w4.heap.size w4 w') := fun w4 hb =>
      (HA2.out w4 _ (HV.out.1.trans (hb.mono HV.out.1.size)) (HV.out.2.2.2.2.2.later hb)).mono fun r w' ⟨s, ao, n, cap, e, e1, o1, o2⟩ => ⟨s, ao, n, cap, e, e1, o1, hb.trans (o2.mono hb.size), o2⟩
    have kc : ∀ w4 X Y, Below W3.heap.size W3 w4 → PN w4 X tra → PN w4 Y tna → Calls Tryz.prog 67 #[X, Y] w4 fun r w' => r = .returned (.int .i64 c) ∧ Below W3.heap.size W3 w' := fun w4 X Y hb h1 h2 =>
      (HC.out w4 _ _ (HV.out.1.trans (hb.mono HV.out.1.size)) h1 h2).mono fun r w' ⟨e1, o2⟩ => ⟨e1, hb.trans (o2.mono hb.size)⟩
    obtain ⟨⟨⟨d0, d1, d2⟩, ⟨e0, e1, e2⟩⟩, -⟩ := HK.out W3 (Below.refl _ _)
    go_region_held3 (fun w' => ((w'.cell? ⟨g4, 0, none⟩ = some (.bool s4) ∧ w'.cell? ⟨g4, 1, none⟩ = some (.slice ao4 n4 cap4) ∧ w'.cell? ⟨g4, 2, none⟩ = some (.int .i64 ex4)) ∧ (w'.cell? ⟨g5, 0, none⟩ = some (.bool s5) ∧ w'.cell? ⟨g5, 1, none⟩ = some (.slice ao5 n5 cap5) ∧ w'.cell? ⟨g5, 2, none⟩ = some (.int .i64 ex5))) ∧ Below W3.heap.size W3 w') (first | (with_reducible assumption) | exact ⟨⟨⟨d0, d1, d2⟩, ⟨e0, e1, e2⟩⟩, hBR⟩ | (refine HK.out _ ?_; with_reducible assumption) | go_keep)
      (first | (go_at_call 68; first | (have hq := hP6; clear hq; refine (ka2 _ hb6).mono ?_; rintro r w7 ⟨s7, ao7, n7, cap7, ex7, rfl, hP7, hb7, hk7⟩) | (refine (ka1 _ hBR).mono ?_; rintro r w6 ⟨s6, ao6, n6, cap6, ex6, rfl, hP6, hb6⟩))
             | (go_at_call 67; refine (kc _ _ _ hb7 (hP6.later hk7.out) hP7).mono ?_; rintro r w8 ⟨rfl, hb8⟩))
    all_goals
      have HF : Hid (Below w.heap.size w w8 ∧ w8.heap[w.heap.size + 1 + 1]? = some (.cells #[.bool false, .slice none 0 0, .int .i64 0] 44 (0, 0)) ∧ PN w8 (.agg #[.bool s4, .slice ao4 n4 cap4, .int .i64 ex4]) tr ∧ w8.heap[g4]? = some (.cells #[.bool s4, .slice ao4 n4 cap4, .int .i64 ex4] 44 (0, 0)) ∧ w8.heap[g3]? = some (.cells #[.bool s3, .slice ao3 n3 cap3, .int .i64 ex3] 44 (0, 0)) ∧ PN w8 (.agg #[.bool s3, .slice ao3 n3 cap3, .int .i64 ex3]) tq) := ⟨HV.out.1.trans (hb8.mono HV.out.1.size), box_later HV.out.2.1 hb8 (lt_of_box HV.out.2.1), HV.out.2.2.2.1.later hb8, box_later HV.out.2.2.1 hb8 (lt_of_box HV.out.2.2.1), box_later HN3.out.1 hb8 (lt_of_box HN3.out.1), HN3.out.2.later hb8⟩
      clear hP6 hb6 hP7 hb7 hk7 hb8 ka1 ka2 kc HK hBR d0 d1 d2 e0 e1 e2
      obtain ⟨⟨o0, o1, o2⟩, -⟩ := box_cells HF.out.2.2.2.2.1
      have ko := HOd.out w8 _ HF.out.1 HF.out.2.2.2.2.2
      go_wp2_with fail
      refine ko.mono ?_
      rintro r w9 ⟨rfl, hb9⟩
      have HG : Hid (Below w.heap.size w w9 ∧ w9.heap[w.heap.size + 1 + 1]? = some (.cells #[.bool false, .slice none 0 0, .int .i64 0] 44 (0, 0)) ∧ PN w9 (.agg #[.bool s4, .slice ao4 n4 cap4, .int .i64 ex4]) tr ∧ w9.heap[g4]? = some (.cells #[.bool s4, .slice ao4 n4 cap4, .int .i64 ex4] 44 (0, 0))) := ⟨HF.out.1.trans (hb9.mono HF.out.1.size), box_later HF.out.2.1 hb9 (lt_of_box HF.out.2.1), HF.out.2.2.1.later hb9, box_later HF.out.2.2.2.1 hb9 (lt_of_box HF.out.2.2.2.1)⟩
      clear ko hb9 o0 o1 o2
      obtain ⟨⟨e0, e1, e2⟩, -⟩ := box_cells HG.out.2.2.2
      obtain ⟨⟨z0, z1, z2⟩, z3, z4, z5⟩ := box_cells HG.out.2.1
      go_wp2_with fail
      refine bodyPost_ret (results_cell_row rfl _ _ (w.heap.size + 1 + 1) 44 #[.bool s4, .slice ao4 n4 cap4, .int .i64 ex4] (0, 0) _ rfl (store3 _ _ _ HG.out.2.1) Tryz.underlying44 rfl Tryz.info44) rfl ?_
      exact ⟨_, _, _, _, _, rfl, pn_store HG.out.2.2.1 HG.out.2.1 _ _ _, below_store3 HG.out.1 (by omega) _ _ _⟩
end Go.Proofs.YtbpeijejanhihaaGreatDoor
namespace Go.Proofs.YtbpeijejanhihaaGreatDoor
set_option linter.unusedVariables false
set_option linter.unusedSimpArgs false
open Go.RowKit Go.Fl64
def oddT (t : Bool × Nat × Int) : Bool := decide (t.2.1 ≠ 0) && (t.2.2 == 0)
theorem sgI_not {s : Bool} {x : Nat} : (sgI s (dlen x) != 0) = decide (x ≠ 0) := by
  rw [bne, sgI_nought]
  by_cases h : x = 0
  · simp [h]
  · simp [h]
theorem podd {t : Bool × Nat × Int} {A : Value} {w : World} (ok : Ok t) (h : PN w A t) : Calls Tryz.prog 69 #[A] w fun r w' => r = .returned (.bool (oddT t)) ∧ Below w.heap.size w w' := by
  obtain ⟨ao, cap, rfl, h1⟩ := h
  have hP0 : PN w (.agg #[.bool t.1, .slice ao (dlen t.2.1) cap, .int .i64 t.2.2]) t := ⟨ao, cap, rfl, h1⟩
  obtain ⟨W, hW⟩ : ∃ W, W = w.alloc (.cells #[.bool t.1, .slice ao (dlen t.2.1) cap, .int .i64 t.2.2] 44) := ⟨_, rfl⟩
  have hbW : Below w.heap.size w W := by rw [hW]; exact (Below.refl _ _).alloc (Nat.le_refl _) _
  have gA : W.heap[w.heap.size]? = some (.cells #[.bool t.1, .slice ao (dlen t.2.1) cap, .int .i64 t.2.2] 44 (0, 0)) := by rw [hW]; exact heap_alloc_new _ _
  have k := psign ok (hP0.later hbW)
  have e2 := sgI_not (s := t.1) (x := t.2.1)
  have HX : Hid (Below w.heap.size w W ∧ W.heap[w.heap.size]? = some (.cells #[.bool t.1, .slice ao (dlen t.2.1) cap, .int .i64 t.2.2] 44 (0, 0))) := ⟨hbW, gA⟩
  clear h1 hP0 ok hbW
  obtain ⟨⟨a0, a1, a2⟩, -⟩ := box_cells gA
  clear gA
  unfold oddT
  generalize sgI t.1 (dlen t.2.1) = sg at *
  generalize dlen t.2.1 = n at *
  generalize decide (t.2.1 ≠ 0) = bx at *
  generalize t.2.2 = e at *
  generalize t.1 = s at *
  cases bx
  all_goals
    go_enter Tryz.func69, Tryz.ntmps69
    go_upto_region 1 with fail
    rw [← hW]
    clear hW
    go_wp2_with fail
    refine k.mono ?_
    rintro r w1 ⟨rfl, hb1⟩
    obtain ⟨⟨b0, b1, b2⟩, -⟩ := box_cells (box_later HX.out.2 hb1 (lt_of_box HX.out.2))
    have HB : Hid (Below w.heap.size w w1) := HX.out.1.trans (hb1.mono HX.out.1.size)
    clear k hb1 HX a0 a1 a2
    go_wp2_with fail
    go_ret
    exact ⟨rfl, HB.out⟩
def qN (d : Bool) (X Y : Nat) : Nat := if d && !(decide (X % Y = 0)) then X / Y + 1 else X / Y
def prN (d : Bool) (X Y : Nat) : Nat := if d && !(decide (X % Y = 0)) then Y - X % Y else X % Y
def pnN (d : Bool) (X Y : Nat) : Nat := if d && !(decide (X % Y = 0)) then X % Y else if d then Y else Y - X % Y
def nxN (d : Bool) (X Y : Nat) : Bool := decide (pnN d X Y < prN d X Y) || (decide (prN d X Y = pnN d X Y) && decide (qN d X Y % 2 = 1))
theorem qN_mul {d : Bool} {k X Y : Nat} (hk : 0 < k) : qN d (k * X) (k * Y) = qN d X Y ∧ (k * X % (k * Y) = 0 ↔ X % Y = 0) := by
  have h : (k * X % (k * Y) = 0 ↔ X % Y = 0) := by
    rw [Nat.mul_mod_mul_left]
    constructor
    · intro h; rcases Nat.mul_eq_zero.1 h with h | h
      · omega
      · exact h
    · intro h; rw [h, Nat.mul_zero]
  refine ⟨?_, h⟩
  unfold qN
  rw [Nat.mul_div_mul_left _ _ hk]
  simp only [h]
theorem two_lt {X Y : Nat} (h : 2 * (X % Y) < Y) : 2 * X / Y = 2 * (X / Y) ∧ 2 * X % Y = 2 * (X % Y) := by
  refine (Nat.div_mod_unique (by omega)).2 ⟨?_, h⟩
  have := Nat.div_add_mod X Y
  have e : Y * (2 * (X / Y)) = 2 * (Y * (X / Y)) := by grind
  omega
theorem two_ge {X Y : Nat} (hY : 0 < Y) (h : Y ≤ 2 * (X % Y)) : 2 * X / Y = 2 * (X / Y) + 1 ∧ 2 * X % Y = 2 * (X % Y) - Y := by
  have := Nat.div_add_mod X Y
  have h2 := Nat.mod_lt X hY
  have e : Y * (2 * (X / Y) + 1) = 2 * (Y * (X / Y)) + Y := by grind
  refine (Nat.div_mod_unique (by omega)).2 ⟨?_, by omega⟩
  omega
theorem near_same (d : Bool) (X Y : Nat) (hY : 0 < Y) :
    nxN d X Y = (!(decide (X % Y = 0)) && decide (qN d (2 * X) Y % 2 = 1) && !(decide (2 * X % Y = 0) && !(decide (qN d X Y % 2 = 1)))) := by
  have h2 := Nat.mod_lt X hY
  unfold nxN pnN prN qN
  by_cases h : 2 * (X % Y) < Y
  · obtain ⟨e1, e2⟩ := two_lt h
    rw [e1, e2]
    generalize X / Y = D at *
    generalize X % Y = R at *
    rw [Bool.eq_iff_iff]
    by_cases hR : R = 0
    · cases d <;> simp [hR] <;> omega
    · have h4 : ¬ 2 * R = 0 := by omega
      cases d <;> simp only [hR, h4, decide_false, Bool.not_false, Bool.and_true, Bool.and_false, Bool.true_and, Bool.false_and, if_true, Bool.false_eq_true, if_false, Bool.or_eq_true, Bool.and_eq_true, decide_eq_true_eq, Bool.not_eq_true'] <;> omega
  · obtain ⟨e1, e2⟩ := two_ge hY (by omega : Y ≤ 2 * (X % Y))
    rw [e1, e2]
    generalize X / Y = D at *
    generalize X % Y = R at *
    have hR : R ≠ 0 := by omega
    rw [Bool.eq_iff_iff]
    by_cases hE : 2 * R = Y
    · cases d <;> simp [hR, hE] <;> omega
    · have h3 : 2 * R - Y ≠ 0 := by omega
      cases d <;> simp [hR, h3] <;> omega
theorem oddT_cn (s : Bool) (z : Nat) : oddT (cn s z 0) = decide (z % 2 = 1) := by
  unfold oddT cn
  by_cases h : z = 0
  · subst h; rfl
  · rw [if_neg h]
    have hs := tz_spec z z (Nat.le_refl _) h
    have h1 : z / 2 ^ tz z ≠ 0 := by omega
    show (decide (z / 2 ^ tz z ≠ 0) && ((0 : Int) + (tz z : Int) == 0)) = _
    rw [decide_eq_true h1, Bool.true_and, Int.zero_add]
    by_cases ho : z % 2 = 1
    · rw [tz_odd ho, decide_eq_true ho]; rfl
    · rw [decide_eq_false ho, beq_eq_false_iff_ne]
      intro h0
      have h0' : tz z = 0 := by omega
      rw [h0'] at hs
      have := hs.2
      simp at this
      omega
theorem rest_val (na nb : Bool) (X Y : Nat) (hY : 0 < Y) :
    sv na X - sv (na != nb) (qN (na != nb) X Y) * sv nb Y = (if (na != nb) && !(decide (X % Y = 0)) then - sv na (prN (na != nb) X Y) else sv na (prN (na != nb) X Y)) ∧
    sv na X - sv (na != nb) (qN (na != nb) X Y) * sv nb Y - sv nb Y = (if (na != nb) then sv na (pnN (na != nb) X Y) else - sv na (pnN (na != nb) X Y)) := by
  have h2 := Nat.mod_lt X hY
  have h3 := Nat.div_add_mod X Y
  have e : (Y : Int) * ((X / Y : Nat) : Int) = ((Y * (X / Y) : Nat) : Int) := by rw [Int.natCast_mul]
  unfold qN prN pnN
  generalize X / Y = D at *
  generalize X % Y = R at *
  generalize Y * D = P at *
  have e' : (D : Int) * (Y : Int) = (P : Int) := by rw [Int.mul_comm]; exact e
  have e1 : ((D : Int) + 1) * (Y : Int) = (P : Int) + Y := by rw [Int.add_mul, e', Int.one_mul]
  by_cases hR : R = 0
  · subst hR
    cases na <;> cases nb <;> simp [sv, Int.neg_mul, Int.mul_neg, e'] <;> omega
  · cases na <;> cases nb <;> simp [sv, hR, Int.neg_mul, Int.mul_neg, Int.natCast_add, e', e1] <;> omega
theorem vz_cnF {K : Nat} {lo hi : Int} {s : Bool} {z : Nat} {e : Int} (h : Fits lo hi z e) (hK : 0 ≤ lo + K) : vz K (cn s z e).1 (cn s z e).2.1 (cn s z e).2.2 = vz K s z e := by
  rcases h with h | ⟨h, -, -⟩
  · subst h; rw [show cn s 0 e = (false, 0, 0) from if_pos rfl, vz_zero, vz_zero]
  · exact vz_cn (by omega)
theorem vz_turn {K : Nat} {s : Bool} {x : Nat} {e : Int} : vz K (!s && decide (0 < dlen x)) x e = - vz K s x e := by
  by_cases h : x = 0
  · subst h; rw [vz_zero, vz_zero]; rfl
  · have h1 : 0 < dlen x := by have := dlen_pos h; omega
    rw [decide_eq_true h1, Bool.and_true]
    unfold vz sv
    cases s <;> simp [Int.neg_mul]
theorem vz_pos {K : Nat} {s : Bool} {x v : Nat} {e U : Int} (hU : 0 < U) (h : vz K s x e = (v : Int) * U ∨ vz K s x e = -((v : Int) * U)) : vz K false x e = (v : Int) * U := by
  have h1 : 0 ≤ (v : Int) * U := Int.mul_nonneg (by omega) (by omega)
  have h2 : 0 ≤ vz K false x e := by unfold vz sv; exact Int.mul_nonneg (by simp) (Int.le_of_lt (two_pos _))
  have h3 : vz K true x e = - vz K false x e := by unfold vz sv; simp [Int.neg_mul]
  cases s
  · rcases h with h | h <;> omega
  · rw [h3] at h; rcases h with h | h <;> omega
def tD (t1 t2 : Bool × Nat × Int) : Bool × Nat × Int := cn (sumN t1.1 t1.2.1 t1.2.2 (!t2.1 && decide (0 < dlen t2.2.1)) t2.2.1 t2.2.2).1 (sumN t1.1 t1.2.1 t1.2.2 (!t2.1 && decide (0 < dlen t2.2.1)) t2.2.1 t2.2.2).2.1 (sumN t1.1 t1.2.1 t1.2.2 (!t2.1 && decide (0 < dlen t2.2.1)) t2.2.1 t2.2.2).2.2
def tP (t1 t2 : Bool × Nat × Int) : Bool × Nat × Int := cn (!(t1.1 == t2.1)) (t1.2.1 * t2.2.1) (t1.2.2 + t2.2.2)
theorem tD_fits {lo hi : Int} {t1 t2 : Bool × Nat × Int} (h1 : Fits lo hi t1.2.1 t1.2.2) (h2 : Fits lo hi t2.2.1 t2.2.2) : Fits lo (hi + 1) (tD t1 t2).2.1 (tD t1 t2).2.2 := Fits.cn (Fits.sum h1 h2)
theorem tP_fits {lo hi lo' hi' : Int} {t1 t2 : Bool × Nat × Int} (h1 : Fits lo hi t1.2.1 t1.2.2) (h2 : Fits lo' hi' t2.2.1 t2.2.2) : Fits (lo + lo') (hi + hi') (tP t1 t2).2.1 (tP t1 t2).2.2 := Fits.cn (Fits.mul h1 h2)
theorem vz_tD {K : Nat} {lo hi : Int} {t1 t2 : Bool × Nat × Int} (h1 : Fits lo hi t1.2.1 t1.2.2) (h2 : Fits lo hi t2.2.1 t2.2.2) (e1 : 0 ≤ t1.2.2 + K) (e2 : 0 ≤ t2.2.2 + K) (hK : 0 ≤ lo + K) :
    vz K (tD t1 t2).1 (tD t1 t2).2.1 (tD t1 t2).2.2 = vz K t1.1 t1.2.1 t1.2.2 - vz K t2.1 t2.2.1 t2.2.2 := by
  unfold tD
  rw [vz_cnF (Fits.sum h1 h2) hK, vz_sumN e1 e2, vz_turn]
  omega
theorem vz_tP {K : Nat} {lo hi lo' hi' : Int} {t1 t2 : Bool × Nat × Int} (h1 : Fits lo hi t1.2.1 t1.2.2) (h2 : Fits lo' hi' t2.2.1 t2.2.2) (e1 : 0 ≤ t1.2.2) (e2 : 0 ≤ t2.2.2 + K) (hK : 0 ≤ lo + lo' + K) :
    vz K (tP t1 t2).1 (tP t1 t2).2.1 (tP t1 t2).2.2 = vz 0 t1.1 t1.2.1 t1.2.2 * vz K t2.1 t2.2.1 t2.2.2 := by
  unfold tP
  rw [vz_cnF (Fits.mul h1 h2) hK]
  have := vz_mul (K := 0) (L := K) (na := t1.1) (nb := t2.1) (x := t1.2.1) (y := t2.2.1) (ea := t1.2.2) (eb := t2.2.2) (by omega) e2
  rw [Nat.zero_add] at this
  exact this
def tX (t1 t2 : Bool × Nat × Int) : Nat := t1.2.1 * 2 ^ (t1.2.2 - min t1.2.2 t2.2.2).toNat
def tY (t1 t2 : Bool × Nat × Int) : Nat := t2.2.1 * 2 ^ (t2.2.2 - min t1.2.2 t2.2.2).toNat
def tQ (t1 t2 : Bool × Nat × Int) : Bool × Nat × Int := cn (t1.1 != t2.1) (qN (t1.1 != t2.1) (tX t1 t2) (tY t1 t2)) 0
def tR (t1 t2 : Bool × Nat × Int) : Bool × Nat × Int := tD t1 (tP (tQ t1 t2) t2)
def tN (t1 t2 : Bool × Nat × Int) : Bool × Nat × Int := tD (tR t1 t2) t2
def tL (t1 t2 : Bool × Nat × Int) : Bool × Nat × Int := if nxN (t1.1 != t2.1) (tX t1 t2) (tY t1 t2) then tN t1 t2 else tR t1 t2
theorem tY_pos {t1 t2 : Bool × Nat × Int} (h : t2.2.1 ≠ 0) : 0 < tY t1 t2 := Nat.mul_pos (by omega) (Nat.two_pow_pos _)
theorem tX_lt {t1 t2 : Bool × Nat × Int} (h1 : Fits (-1074) 1025 t1.2.1 t1.2.2) (o1 : Ok t1) (h2 : Fits (-1074) 1025 t2.2.1 t2.2.2) (h0 : t2.2.1 ≠ 0) {M : Nat} (hM : 2099 ≤ M) : tX t1 t2 < 2 ^ M := by
  unfold tX
  rcases h2 with h | ⟨a1, a2, -⟩
  · exact absurd h h0
  · have hm : min t1.2.2 t2.2.2 ≤ t1.2.2 := by omega
    rcases h1 with h | ⟨b1, b2, b3⟩
    · rw [h, Nat.zero_mul]; exact Nat.two_pow_pos _
    · have := Fits.at (Or.inr ⟨b1, b2, b3⟩ : Fits (-1074) 1025 t1.2.1 t1.2.2) hm
      exact Nat.lt_of_lt_of_le this (Nat.pow_le_pow_right (by omega) (by omega))
theorem qN_le (d : Bool) (X Y : Nat) : qN d X Y ≤ X + 1 := by
  have := Nat.div_le_self X Y
  unfold qN
  split <;> omega
theorem tQ_fits {t1 t2 : Bool × Nat × Int} (h1 : Fits (-1074) 1025 t1.2.1 t1.2.2) (o1 : Ok t1) (h2 : Fits (-1074) 1025 t2.2.1 t2.2.2) (h0 : t2.2.1 ≠ 0) : Fits 0 2100 (qN (t1.1 != t2.1) (tX t1 t2) (tY t1 t2)) 0 := by
  obtain ⟨M, hM, e⟩ : ∃ M : Nat, 2099 ≤ M ∧ ((2100 : Int) - 0).toNat = M + 1 := ⟨2099, Nat.le_refl _, rfl⟩
  have h := tX_lt h1 o1 h2 h0 hM
  have hq := qN_le (t1.1 != t2.1) (tX t1 t2) (tY t1 t2)
  refine Or.inr ⟨by omega, by omega, ?_⟩
  rw [e, Nat.pow_succ]
  have := Nat.two_pow_pos M
  generalize (2 : Nat) ^ M = P at *
  omega
theorem cmpI_mulU {a b U : Int} (h : 0 < U) : cmpI (a * U) (b * U) = cmpI a b := by
  unfold cmpI
  simp only [Int.mul_lt_mul_right h]
theorem tQ_low (t1 t2 : Bool × Nat × Int) : 0 ≤ (tQ t1 t2).2.2 := by
  unfold tQ cn
  split
  · exact Int.le_refl _
  · show (0 : Int) ≤ 0 + _
    omega
theorem tQ_ok {ta tb : Bool × Nat × Int} (oa : Ok ta) (ob : Ok tb) (fa : Fits (-1074) 1025 ta.2.1 ta.2.2) (fb : Fits (-1074) 1025 tb.2.1 tb.2.2) (h0 : tb.2.1 ≠ 0) : Ok (tQ ta tb) := ok_cn ((tQ_fits fa oa fb h0).ok (by omega) (by omega) (by omega))
theorem tQ_fits' {ta tb : Bool × Nat × Int} (oa : Ok ta) (ob : Ok tb) (fa : Fits (-1074) 1025 ta.2.1 ta.2.2) (fb : Fits (-1074) 1025 tb.2.1 tb.2.2) (h0 : tb.2.1 ≠ 0) : Fits 0 2100 (tQ ta tb).2.1 (tQ ta tb).2.2 := (tQ_fits fa oa fb h0).cn
theorem tQP_okR {ta tb : Bool × Nat × Int} (oa : Ok ta) (ob : Ok tb) (fa : Fits (-1074) 1025 ta.2.1 ta.2.2) (fb : Fits (-1074) 1025 tb.2.1 tb.2.2) (h0 : tb.2.1 ≠ 0) : okR (!((tQ ta tb).1 == tb.1)) ((tQ ta tb).2.1 * tb.2.1) ((tQ ta tb).2.2 + tb.2.2) = true := (Fits.mul (tQ_fits' oa ob fa fb h0) fb).ok (by omega) (by omega) (by omega)
theorem tQP_ok {ta tb : Bool × Nat × Int} (oa : Ok ta) (ob : Ok tb) (fa : Fits (-1074) 1025 ta.2.1 ta.2.2) (fb : Fits (-1074) 1025 tb.2.1 tb.2.2) (h0 : tb.2.1 ≠ 0) : Ok (tP (tQ ta tb) tb) := ok_cn (tQP_okR oa ob fa fb h0)
theorem tQP_fits {ta tb : Bool × Nat × Int} (oa : Ok ta) (ob : Ok tb) (fa : Fits (-1074) 1025 ta.2.1 ta.2.2) (fb : Fits (-1074) 1025 tb.2.1 tb.2.2) (h0 : tb.2.1 ≠ 0) : Fits (-1074) 3125 (tP (tQ ta tb) tb).2.1 (tP (tQ ta tb) tb).2.2 := (tP_fits (tQ_fits' oa ob fa fb h0) fb).mono (by omega) (by omega)
theorem tRs_fits {ta tb : Bool × Nat × Int} (oa : Ok ta) (ob : Ok tb) (fa : Fits (-1074) 1025 ta.2.1 ta.2.2) (fb : Fits (-1074) 1025 tb.2.1 tb.2.2) (h0 : tb.2.1 ≠ 0) : Fits (-1074) (3125 + 1) (sumN ta.1 ta.2.1 ta.2.2 (!(tP (tQ ta tb) tb).1 && decide (0 < dlen (tP (tQ ta tb) tb).2.1)) (tP (tQ ta tb) tb).2.1 (tP (tQ ta tb) tb).2.2).2.1 (sumN ta.1 ta.2.1 ta.2.2 (!(tP (tQ ta tb) tb).1 && decide (0 < dlen (tP (tQ ta tb) tb).2.1)) (tP (tQ ta tb) tb).2.1 (tP (tQ ta tb) tb).2.2).2.2 := Fits.sum (na := ta.1) (nb := !(tP (tQ ta tb) tb).1 && decide (0 < dlen (tP (tQ ta tb) tb).2.1)) (fa.mono (Int.le_refl _) (by omega) : Fits (-1074) 3125 ta.2.1 ta.2.2) (tQP_fits oa ob fa fb h0)
theorem tR_ok {ta tb : Bool × Nat × Int} (oa : Ok ta) (ob : Ok tb) (fa : Fits (-1074) 1025 ta.2.1 ta.2.2) (fb : Fits (-1074) 1025 tb.2.1 tb.2.2) (h0 : tb.2.1 ≠ 0) : Ok (tR ta tb) := ok_cn ((tRs_fits oa ob fa fb h0).ok (by omega) (by omega) (by omega))
theorem tR_fits {ta tb : Bool × Nat × Int} (oa : Ok ta) (ob : Ok tb) (fa : Fits (-1074) 1025 ta.2.1 ta.2.2) (fb : Fits (-1074) 1025 tb.2.1 tb.2.2) (h0 : tb.2.1 ≠ 0) : Fits (-1074) 3126 (tR ta tb).2.1 (tR ta tb).2.2 := tD_fits (fa.mono (Int.le_refl _) (by omega)) (tQP_fits oa ob fa fb h0)
theorem tNs_fits {ta tb : Bool × Nat × Int} (oa : Ok ta) (ob : Ok tb) (fa : Fits (-1074) 1025 ta.2.1 ta.2.2) (fb : Fits (-1074) 1025 tb.2.1 tb.2.2) (h0 : tb.2.1 ≠ 0) : Fits (-1074) (3126 + 1) (sumN (tR ta tb).1 (tR ta tb).2.1 (tR ta tb).2.2 (!tb.1 && decide (0 < dlen tb.2.1)) tb.2.1 tb.2.2).2.1 (sumN (tR ta tb).1 (tR ta tb).2.1 (tR ta tb).2.2 (!tb.1 && decide (0 < dlen tb.2.1)) tb.2.1 tb.2.2).2.2 := Fits.sum (na := (tR ta tb).1) (nb := !tb.1 && decide (0 < dlen tb.2.1)) (tR_fits oa ob fa fb h0) (fb.mono (Int.le_refl _) (by omega) : Fits (-1074) 3126 tb.2.1 tb.2.2)
theorem tN_ok {ta tb : Bool × Nat × Int} (oa : Ok ta) (ob : Ok tb) (fa : Fits (-1074) 1025 ta.2.1 ta.2.2) (fb : Fits (-1074) 1025 tb.2.1 tb.2.2) (h0 : tb.2.1 ≠ 0) : Ok (tN ta tb) := ok_cn ((tNs_fits oa ob fa fb h0).ok (by omega) (by omega) (by omega))
theorem vz_up {ta tb : Bool × Nat × Int} (oa : Ok ta) (ob : Ok tb) (fa : Fits (-1074) 1025 ta.2.1 ta.2.2) (fb : Fits (-1074) 1025 tb.2.1 tb.2.2) (h0 : tb.2.1 ≠ 0) {K : Nat} (hK : 200000 ≤ K) : vz K ta.1 ta.2.1 ta.2.2 = sv ta.1 (tX ta tb) * ((2 ^ (min ta.2.2 tb.2.2 + K).toNat : Nat) : Int) ∧ vz K tb.1 tb.2.1 tb.2.2 = sv tb.1 (tY ta tb) * ((2 ^ (min ta.2.2 tb.2.2 + K).toNat : Nat) : Int) := by
  obtain ⟨-, f2, f3, -, -⟩ := oa.facts
  obtain ⟨-, g2, g3, -, -⟩ := ob.facts
  have a1 := vz_shift (K := K) (s := ta.1) (x := ta.2.1) (k := (ta.2.2 - min ta.2.2 tb.2.2).toNat) (e := min ta.2.2 tb.2.2) (by omega)
  have a2 := vz_shift (K := K) (s := tb.1) (x := tb.2.1) (k := (tb.2.2 - min ta.2.2 tb.2.2).toNat) (e := min ta.2.2 tb.2.2) (by omega)
  rw [show min ta.2.2 tb.2.2 + ((ta.2.2 - min ta.2.2 tb.2.2).toNat : Int) = ta.2.2 by omega] at a1
  rw [show min ta.2.2 tb.2.2 + ((tb.2.2 - min ta.2.2 tb.2.2).toNat : Int) = tb.2.2 by omega] at a2
  exact ⟨a1.symm, a2.symm⟩
theorem vz_Q {ta tb : Bool × Nat × Int} (oa : Ok ta) (ob : Ok tb) (fa : Fits (-1074) 1025 ta.2.1 ta.2.2) (fb : Fits (-1074) 1025 tb.2.1 tb.2.2) (h0 : tb.2.1 ≠ 0) : vz 0 (tQ ta tb).1 (tQ ta tb).2.1 (tQ ta tb).2.2 = sv (ta.1 != tb.1) (qN (ta.1 != tb.1) (tX ta tb) (tY ta tb)) := by
  unfold tQ
  rw [vz_cnF (tQ_fits fa oa fb h0) (by omega)]
  show sv _ _ * ((2 ^ ((0 : Int) + ((0 : Nat) : Int)).toNat : Nat) : Int) = _
  rw [show ((0 : Int) + ((0 : Nat) : Int)).toNat = 0 from rfl, Nat.pow_zero]
  simp
theorem vz_R {ta tb : Bool × Nat × Int} (oa : Ok ta) (ob : Ok tb) (fa : Fits (-1074) 1025 ta.2.1 ta.2.2) (fb : Fits (-1074) 1025 tb.2.1 tb.2.2) (h0 : tb.2.1 ≠ 0) {K : Nat} (hK : 200000 ≤ K) : vz K (tR ta tb).1 (tR ta tb).2.1 (tR ta tb).2.2 = vz K ta.1 ta.2.1 ta.2.2 - sv (ta.1 != tb.1) (qN (ta.1 != tb.1) (tX ta tb) (tY ta tb)) * vz K tb.1 tb.2.1 tb.2.2 := by
  obtain ⟨-, f2, f3, -, -⟩ := oa.facts
  obtain ⟨-, g2, g3, -, -⟩ := ob.facts
  obtain ⟨-, p2, p3, -, -⟩ := (tQP_ok oa ob fa fb h0).facts
  unfold tR
  rw [vz_tD (fa.mono (Int.le_refl _) (by omega) : Fits (-1074) 3125 ta.2.1 ta.2.2) (tQP_fits oa ob fa fb h0) (by omega) (by omega) (by omega), vz_tP (tQ_fits' oa ob fa fb h0) fb (tQ_low ta tb) (by omega) (by omega), vz_Q oa ob fa fb h0]
theorem vz_N {ta tb : Bool × Nat × Int} (oa : Ok ta) (ob : Ok tb) (fa : Fits (-1074) 1025 ta.2.1 ta.2.2) (fb : Fits (-1074) 1025 tb.2.1 tb.2.2) (h0 : tb.2.1 ≠ 0) {K : Nat} (hK : 200000 ≤ K) : vz K (tN ta tb).1 (tN ta tb).2.1 (tN ta tb).2.2 = vz K ta.1 ta.2.1 ta.2.2 - sv (ta.1 != tb.1) (qN (ta.1 != tb.1) (tX ta tb) (tY ta tb)) * vz K tb.1 tb.2.1 tb.2.2 - vz K tb.1 tb.2.1 tb.2.2 := by
  obtain ⟨-, g2, g3, -, -⟩ := ob.facts
  obtain ⟨-, p2, p3, -, -⟩ := (tR_ok oa ob fa fb h0).facts
  unfold tN
  rw [vz_tD (tR_fits oa ob fa fb h0) (fb.mono (Int.le_refl _) (by omega) : Fits (-1074) 3126 tb.2.1 tb.2.2) (by omega) (by omega) (by omega), vz_R oa ob fa fb h0 hK]
theorem ord_RN {ta tb : Bool × Nat × Int} (oa : Ok ta) (ob : Ok tb) (fa : Fits (-1074) 1025 ta.2.1 ta.2.2) (fb : Fits (-1074) 1025 tb.2.1 tb.2.2) (h0 : tb.2.1 ≠ 0) : ordN false (tR ta tb).2.1 (tR ta tb).2.2 false (tN ta tb).2.1 (tN ta tb).2.2 = cmpI (prN (ta.1 != tb.1) (tX ta tb) (tY ta tb) : Nat) (pnN (ta.1 != tb.1) (tX ta tb) (tY ta tb) : Nat) := by
  obtain ⟨K, hK⟩ : ∃ K : Nat, 200000 ≤ K := ⟨200000, Nat.le_refl _⟩
  obtain ⟨-, p2, p3, -, -⟩ := (tR_ok oa ob fa fb h0).facts
  obtain ⟨-, q2, q3, -, -⟩ := (tN_ok oa ob fa fb h0).facts
  rw [ordN_vz (K := K) (by omega) (by omega)]
  obtain ⟨vA, vB⟩ := vz_up oa ob fa fb h0 hK
  have vR := vz_R oa ob fa fb h0 hK
  have vN := vz_N oa ob fa fb h0 hK
  rw [vA, vB] at vR vN
  have hU := two_pos (min ta.2.2 tb.2.2 + (K : Int)).toNat
  obtain ⟨r1, r2⟩ := rest_val ta.1 tb.1 (tX ta tb) (tY ta tb) (tY_pos h0)
  generalize ((2 ^ (min ta.2.2 tb.2.2 + (K : Int)).toNat : Nat) : Int) = U at *
  rw [← Int.mul_assoc, ← Int.sub_mul, r1] at vR
  rw [← Int.mul_assoc, ← Int.sub_mul, ← Int.sub_mul, r2] at vN
  have a1 : vz K false (tR ta tb).2.1 (tR ta tb).2.2 = (prN (ta.1 != tb.1) (tX ta tb) (tY ta tb) : Int) * U := by
    refine vz_pos hU (s := (tR ta tb).1) ?_
    rw [vR]
    split <;> cases ta.1 <;> simp [sv, Int.neg_mul]
  have a2 : vz K false (tN ta tb).2.1 (tN ta tb).2.2 = (pnN (ta.1 != tb.1) (tX ta tb) (tY ta tb) : Int) * U := by
    refine vz_pos hU (s := (tN ta tb).1) ?_
    rw [vN]
    split <;> cases ta.1 <;> simp [sv, Int.neg_mul]
  rw [a1, a2, cmpI_mulU hU]
theorem pleast {ta tb : Bool × Nat × Int} (oa : Ok ta) (ob : Ok tb) (fa : Fits (-1074) 1025 ta.2.1 ta.2.2) (fb : Fits (-1074) 1025 tb.2.1 tb.2.2) (h0 : tb.2.1 ≠ 0)
    (s1 s2 : Bool) (ao1 ao2 : Option Addr) (n1 cap1 n2 cap2 : Nat) (ex1 ex2 : Int) (w : World) (hT : Tab32 w) (h1 : PN w (.agg #[.bool s1, .slice ao1 n1 cap1, .int .i64 ex1]) ta) (h2 : PN w (.agg #[.bool s2, .slice ao2 n2 cap2, .int .i64 ex2]) tb) :
    Calls Tryz.prog 29 #[.agg #[.bool s1, .slice ao1 n1 cap1, .int .i64 ex1], .agg #[.bool s2, .slice ao2 n2 cap2, .int .i64 ex2]] w fun r w' => OutA w (tL ta tb) r w' := by
  have kQ : ∀ W, Below w.heap.size w W → Calls Tryz.prog 64 #[.agg #[.bool s1, .slice ao1 n1 cap1, .int .i64 ex1], .agg #[.bool s2, .slice ao2 n2 cap2, .int .i64 ex2], .int .i64 0] W fun r w' => ∃ s ao n cap e x, r = .returned (.tuple #[.agg #[.bool s, .slice ao n cap, .int .i64 e], .bool x, .int .i64 0]) ∧ PN w' (.agg #[.bool s, .slice ao n cap, .int .i64 e]) (tQ ta tb) ∧ Below W.heap.size W w' := fun W h => by
    obtain ⟨ao, cap, e1, i1⟩ := h1.later h
    obtain ⟨ao', cap', e2, i2⟩ := h2.later h
    rw [e1, e2]
    obtain ⟨f1, f2, f3, -, -⟩ := oa.facts
    obtain ⟨g1, g2, g3, -, -⟩ := ob.facts
    have k := c44 (na := ta.1) (nb := tb.1) (ea := ta.2.2) (eb := tb.2.2) (place := 0) i1 i2 (hT.later h) h0 (by omega) (by omega) oa ob (by omega) (by omega) (by omega) (tX ta tb) (tY ta tb) (by rw [Int.add_zero]; rfl) (by rw [Int.add_zero]; rfl)
    refine Calls.mono k ?_
    intro r w' hh
    obtain ⟨s, a, n, c, e, q1, q2, q3⟩ := held3_pn hh ((tQ_fits fa oa fb h0).ok (by omega) (by omega) (by omega))
    exact ⟨s, a, n, c, e, _, q1, q2, q3⟩
  have kM : ∀ W X Y, Below w.heap.size w W → PN W X (tQ ta tb) → PN W Y tb → Calls Tryz.prog 66 #[X, Y] W fun r w' => OutA W (tP (tQ ta tb) tb) r w' := fun W X Y h p q => multiplied_op (mul_op (tQ_ok oa ob fa fb h0) ob (tQP_okR oa ob fa fb h0)) (hT.later h) p q
  have kT1 : ∀ W X Y, Below w.heap.size w W → PN W X ta → PN W Y (tP (tQ ta tb) tb) → Calls Tryz.prog 65 #[X, Y] W fun r w' => OutA W (tR ta tb) r w' := fun W X Y h p q => taken_op (sub_op oa (tQP_ok oa ob fa fb h0) ((tRs_fits oa ob fa fb h0).ok (by omega) (by omega) (by omega))) (hT.later h) p q
  have kT2 : ∀ W X Y, Below w.heap.size w W → PN W X (tR ta tb) → PN W Y tb → Calls Tryz.prog 65 #[X, Y] W fun r w' => OutA W (tN ta tb) r w' := fun W X Y h p q => taken_op (sub_op (tR_ok oa ob fa fb h0) ob ((tNs_fits oa ob fa fb h0).ok (by omega) (by omega) (by omega))) (hT.later h) p q
  have kA1 : ∀ W X, Below w.heap.size w W → PN W X (tR ta tb) → Calls Tryz.prog 68 #[X] W fun r w' => OutA W (false, (tR ta tb).2.1, (tR ta tb).2.2) r w' := fun W X h p => pabs (tR_ok oa ob fa fb h0) p
  have kA2 : ∀ W X, Below w.heap.size w W → PN W X (tN ta tb) → Calls Tryz.prog 68 #[X] W fun r w' => OutA W (false, (tN ta tb).2.1, (tN ta tb).2.2) r w' := fun W X h p => pabs (tN_ok oa ob fa fb h0) p
  have oR : Ok (false, (tR ta tb).2.1, (tR ta tb).2.2) := okN_abs (tR_ok oa ob fa fb h0)
  have oN : Ok (false, (tN ta tb).2.1, (tN ta tb).2.2) := okN_abs (tN_ok oa ob fa fb h0)
  have kC : ∀ W X Y, Below w.heap.size w W → PN W X (false, (tR ta tb).2.1, (tR ta tb).2.2) → PN W Y (false, (tN ta tb).2.1, (tN ta tb).2.2) → Calls Tryz.prog 67 #[X, Y] W fun r w' => r = .returned (.int .i64 (cmpI (prN (ta.1 != tb.1) (tX ta tb) (tY ta tb) : Nat) (pnN (ta.1 != tb.1) (tX ta tb) (tY ta tb) : Nat))) ∧ Below W.heap.size W w' := fun W X Y h p q => by
    have := pcmp oR oN p q
    rw [show ordN _ _ _ _ _ _ = _ from ord_RN oa ob fa fb h0] at this
    exact this
  have kO : ∀ b, oddT (tQ ta tb) = b → ∀ W X, Below w.heap.size w W → PN W X (tQ ta tb) → Calls Tryz.prog 69 #[X] W fun r w' => r = .returned (.bool b) ∧ Below W.heap.size W w' := fun b hb W X h p => by
    have := podd (tQ_ok oa ob fa fb h0) p
    rw [hb] at this
    exact this
  have ho : oddT (tQ ta tb) = decide (qN (ta.1 != tb.1) (tX ta tb) (tY ta tb) % 2 = 1) := oddT_cn _ _
  have hx : nxN (ta.1 != tb.1) (tX ta tb) (tY ta tb) = (decide (pnN (ta.1 != tb.1) (tX ta tb) (tY ta tb) < prN (ta.1 != tb.1) (tX ta tb) (tY ta tb)) || (decide (prN (ta.1 != tb.1) (tX ta tb) (tY ta tb) = pnN (ta.1 != tb.1) (tX ta tb) (tY ta tb)) && oddT (tQ ta tb))) := by rw [ho]; rfl
  unfold tL
  rw [hx]
  generalize prN (ta.1 != tb.1) (tX ta tb) (tY ta tb) = pr at *
  generalize pnN (ta.1 != tb.1) (tX ta tb) (tY ta tb) = pn at *
  by_cases c1 : pn < pr
  · rw [decide_eq_true c1, Bool.true_or, if_pos rfl]
    exact lrest_g s1 s2 ao1 ao2 n1 cap1 n2 cap2 ex1 ex2 _ ta tb _ _ _ _ _ _ w (by unfold cmpI; rw [if_neg (by omega), if_pos (by omega)]; decide) h1 h2 kQ kM kT1 kT2 kA1 kA2 kC
  · rw [decide_eq_false c1, Bool.false_or]
    by_cases c2 : pr = pn
    · rw [decide_eq_true c2, Bool.true_and]
      have c0 : cmpI (pr : Int) (pn : Int) = 0 := by unfold cmpI; rw [if_neg (by omega), if_neg (by omega)]
      cases hod : oddT (tQ ta tb)
      · rw [if_neg (by decide)]
        exact lrest_e s1 s2 ao1 ao2 n1 cap1 n2 cap2 ex1 ex2 _ ta tb _ _ _ _ _ _ w c0 h1 h2 kQ kM kT1 kT2 kA1 kA2 (kO _ hod) kC
      · rw [if_pos rfl]
        exact lrest_o s1 s2 ao1 ao2 n1 cap1 n2 cap2 ex1 ex2 _ ta tb _ _ _ _ _ _ w c0 h1 h2 kQ kM kT1 kT2 kA1 kA2 (kO _ hod) kC
    · rw [decide_eq_false c2, Bool.false_and, if_neg (by decide)]
      exact lrest_l s1 s2 ao1 ao2 n1 cap1 n2 cap2 ex1 ex2 _ ta tb _ _ _ _ _ _ w (by unfold cmpI; rw [if_pos (by omega)]; decide) h1 h2 kQ kM kT1 kT2 kA1 kA2 kC
theorem eq_nought {a : Nat} (ha : a < 18446744073709551616) : (FloatKind.f64.format.order a 0 == some Ordering.eq) = decide (mag a = 0) := by
  rw [ord_eq a 0 ha (by decide)]
  have nb : isNaN 0 = false := by decide
  unfold Fl64.eq
  rw [nb]
  have e0 : stp 0 = 0 := by decide
  rw [e0]
  by_cases h : mag a = 0
  · have : stp a = 0 := by unfold stp sgn; rw [h]; simp
    have na : isNaN a = false := by unfold isNaN; simp; omega
    simp [this, h, na]
  · have : stp a ≠ 0 := by unfold stp sgn; split <;> omega
    simp [this, h]
theorem tL_ok {ta tb : Bool × Nat × Int} (oa : Ok ta) (ob : Ok tb) (fa : Fits (-1074) 1025 ta.2.1 ta.2.2) (fb : Fits (-1074) 1025 tb.2.1 tb.2.2) (h0 : tb.2.1 ≠ 0) : Ok (tL ta tb) := by
  unfold tL
  split
  · exact tN_ok oa ob fa fb h0
  · exact tR_ok oa ob fa fb h0
def rsF (a b : Nat) : Nat := tfF (tL (tF a) (tF b)).1 true (tL (tF a) (tF b)).2.1 (tL (tF a) (tF b)).2.2 2
def restF (a b : Nat) : Nat :=
  if isNaN a || isNaN b || Ie.isInf a || decide (mag b = 0) then 9221120237041090561
  else if Ie.isInf b then a
  else if mag (rsF a b) = 0 then withF (rsF a b) a else rsF a b
theorem prest_no (a b : Nat) (w : World) (na nb ia zb : Bool) (h : (na || nb || ia || zb) = true)
    (h1 : (FloatKind.f64.format.order a a != some Ordering.eq) = na) (h2 : (FloatKind.f64.format.order b b != some Ordering.eq) = nb) (h3 : (FloatKind.f64.format.order b 0 == some Ordering.eq) = zb)
    (kI : ∀ W, Calls Tryz.prog 27 #[.float .f64 a, .int .i64 0] W fun r w' => r = .returned (.bool ia) ∧ w' = W) :
    Calls Tryz.prog 7 #[.float .f64 a, .float .f64 b] w fun r w' => r = .returned (.float .f64 9221120237041090561) ∧ Below w.heap.size w w' := by
  have kN := Ie.c52
  cases na <;> cases nb <;> cases ia <;> cases zb
  all_goals first
    | (exfalso; revert h; decide)
    | (clear h
       go_enter Tryz.func7, Tryz.ntmps7
       go_wp2_with (first | (go_at_call 27; refine (kI _).mono ?_; rintro r w' ⟨rfl, hw⟩; rw [hw]; clear hw w') | (go_at_call 11; refine (kN _).mono ?_; rintro r w' ⟨rfl, hw⟩; rw [hw]; clear hw w'))
       go_ret
       exact ⟨rfl, Below.refl _ _⟩)
theorem prest_inf (a b : Nat) (w : World)
    (h1 : (FloatKind.f64.format.order a a != some Ordering.eq) = false) (h2 : (FloatKind.f64.format.order b b != some Ordering.eq) = false) (h3 : (FloatKind.f64.format.order b 0 == some Ordering.eq) = false)
    (kI : ∀ W, Calls Tryz.prog 27 #[.float .f64 a, .int .i64 0] W fun r w' => r = .returned (.bool false) ∧ w' = W)
    (kJ : ∀ W, Calls Tryz.prog 27 #[.float .f64 b, .int .i64 0] W fun r w' => r = .returned (.bool true) ∧ w' = W) :
    Calls Tryz.prog 7 #[.float .f64 a, .float .f64 b] w fun r w' => r = .returned (.float .f64 a) ∧ Below w.heap.size w w' := by
  have i1 := kI w
  have i2 := kJ w
  clear kI kJ
  go_enter Tryz.func7, Tryz.ntmps7
  go_wp2_with fail
  refine i1.mono ?_
  rintro r w' ⟨rfl, hw⟩
  rw [hw]
  clear hw i1 w'
  go_wp2_with fail
  refine i2.mono ?_
  rintro r w' ⟨rfl, hw⟩
  rw [hw]
  clear hw i2 w'
  go_wp2_with fail
  go_ret
  exact ⟨rfl, Below.refl _ _⟩
set_option maxRecDepth 200000 in
theorem prest_fin (a b z v : Nat) (zz : Bool) (ta tb tl : Bool × Nat × Int) (w : World)
    (h1 : (FloatKind.f64.format.order a a != some Ordering.eq) = false) (h2 : (FloatKind.f64.format.order b b != some Ordering.eq) = false) (h3 : (FloatKind.f64.format.order b 0 == some Ordering.eq) = false)
    (h4 : (FloatKind.f64.format.order z 0 == some Ordering.eq) = zz)
    (kI : ∀ W, Calls Tryz.prog 27 #[.float .f64 a, .int .i64 0] W fun r w' => r = .returned (.bool false) ∧ w' = W)
    (kJ : ∀ W, Calls Tryz.prog 27 #[.float .f64 b, .int .i64 0] W fun r w' => r = .returned (.bool false) ∧ w' = W)
    (kA : Calls Tryz.prog 30 #[.float .f64 a] w fun r w' => OutA w ta r w')
    (kB : ∀ W, Below w.heap.size w W → Calls Tryz.prog 30 #[.float .f64 b] W fun r w' => OutA W tb r w')
    (kL : ∀ W s1 s2 ao1 ao2 n1 n2 cap1 cap2 ex1 ex2, Below w.heap.size w W → PN W (.agg #[.bool s1, .slice ao1 n1 cap1, .int .i64 ex1]) ta → PN W (.agg #[.bool s2, .slice ao2 n2 cap2, .int .i64 ex2]) tb → Calls Tryz.prog 29 #[.agg #[.bool s1, .slice ao1 n1 cap1, .int .i64 ex1], .agg #[.bool s2, .slice ao2 n2 cap2, .int .i64 ex2]] W fun r w' => OutA W tl r w')
    (kR : ∀ W X, Below w.heap.size w W → PN W X tl → Calls Tryz.prog 28 #[X, .int .i64 2] W fun r w' => r = .returned (.float .f64 z) ∧ Below W.heap.size W w')
    (kW : ∀ W, Calls Tryz.prog 15 #[.float .f64 z, .float .f64 a] W fun r w' => r = .returned (.float .f64 v) ∧ w' = W) :
    Calls Tryz.prog 7 #[.float .f64 a, .float .f64 b] w fun r w' => r = .returned (.float .f64 (if zz then v else z)) ∧ Below w.heap.size w w' := by
  have i1 := kI w
  have i2 := kJ w
  have HB : Hid _ := kB
  have HL : Hid _ := kL
  have HR : Hid _ := kR
  have HW : Hid _ := kW
  have HZ : Hid ((FloatKind.f64.format.order z 0 == some Ordering.eq) = zz) := h4
  clear kI kJ kB kL kR kW h4
  go_enter Tryz.func7, Tryz.ntmps7
  go_wp2_with fail
  refine i1.mono ?_
  rintro r w' ⟨rfl, hw⟩
  rw [hw]
  clear hw i1 w'
  go_wp2_with fail
  refine i2.mono ?_
  rintro r w' ⟨rfl, hw⟩
  rw [hw]
  clear hw i2 w'
  go_wp2_with fail
  refine kA.mono ?_
  rintro r w1 ⟨s1, ao1, n1, cap1, ex1, rfl, hP1, hb1⟩
  have k2 := HB.out w1 hb1
  clear kA
  go_wp2_with fail
  refine k2.mono ?_
  rintro r w2 ⟨s2, ao2, n2, cap2, ex2, rfl, hP2, hb2⟩
  have HB2 : Hid (Below w.heap.size w w2) := hb1.trans (hb2.mono hb1.size)
  have k3 := HL.out w2 _ _ _ _ _ _ _ _ _ _ HB2.out (hP1.later hb2) hP2
  clear k2 hP1 hP2 hb1 hb2
  go_wp2_with fail
  refine k3.mono ?_
  rintro r w3 ⟨s3, ao3, n3, cap3, ex3, rfl, hP3, hb3⟩
  have HB3 : Hid (Below w.heap.size w w3) := HB2.out.trans (hb3.mono HB2.out.size)
  have k4 := HR.out w3 _ HB3.out hP3
  clear k3 hP3 hb3 h1 h2 h3
  go_wp2_with fail
  refine k4.mono ?_
  rintro r w4 ⟨rfl, hb4⟩
  have HB4 : Hid (Below w.heap.size w w4) := HB3.out.trans (hb4.mono HB3.out.size)
  have h4 := HZ.out
  have k5 := HW.out w4
  clear k4 hb4 HZ HW
  go_upto_region 6 with fail
  cases zz
  · clear k5
    go_wp2_with fail
    go_ret
    exact ⟨rfl, HB4.out⟩
  · go_wp2_with fail
    refine k5.mono ?_
    rintro r w' ⟨rfl, hw⟩
    rw [hw]
    clear hw k5 w'
    go_wp2_with fail
    go_ret
    exact ⟨rfl, HB4.out⟩
theorem prest (a b : Nat) (ha : a < 18446744073709551616) (hb : b < 18446744073709551616) (w : World) (hT : Tab32 w) (hI : Ie.Tab w) :
    Calls Tryz.prog 7 #[.float .f64 a, .float .f64 b] w fun r w' => r = .returned (.float .f64 (restF a b)) ∧ Below w.heap.size w w' := by
  have na := self_ne a ha
  have nb := self_ne b hb
  have zb := eq_nought hb
  unfold restF
  by_cases hc : (isNaN a || isNaN b || Ie.isInf a || decide (mag b = 0)) = true
  · rw [if_pos hc]
    exact prest_no a b w _ _ _ _ hc na nb zb (fun W => pinf a ha W)
  · rw [if_neg hc]
    have hc' : (isNaN a || isNaN b || Ie.isInf a || decide (mag b = 0)) = false := by simpa using hc
    simp only [Bool.or_eq_false_iff] at hc'
    obtain ⟨⟨⟨e1, e2⟩, e3⟩, e4⟩ := hc'
    rw [e1] at na
    rw [e2] at nb
    rw [e4] at zb
    have kI : ∀ W, Calls Tryz.prog 27 #[.float .f64 a, .int .i64 0] W fun r w' => r = .returned (.bool false) ∧ w' = W := fun W => by have := pinf a ha W; rw [e3] at this; exact this
    by_cases hi : Ie.isInf b = true
    · rw [if_pos hi]
      exact prest_inf a b w na nb zb kI (fun W => by have := pinf b hb W; rw [hi] at this; exact this)
    · rw [if_neg hi]
      have hi' : Ie.isInf b = false := by simpa using hi
      have a1 := Ie.isInf_not.1 e3
      have b1 := Ie.isInf_not.1 hi'
      have fa : mag a < 9218868437227405312 := by unfold isNaN at e1; simp at e1; omega
      have fb : mag b < 9218868437227405312 := by unfold isNaN at e2; simp at e2; omega
      have b0 : mag b ≠ 0 := by simpa using e4
      have hz : rsF a b < 18446744073709551616 := tfF_lt (by omega)
      have k := prest_fin a b (rsF a b) (withF (rsF a b) a) (decide (mag (rsF a b) = 0)) (tF a) (tF b) (tL (tF a) (tF b)) w na nb zb (eq_nought hz) kI (fun W => by have := pinf b hb W; rw [hi'] at this; exact this)
        (exact_ok a ha fa w hT hI) (fun W h => exact_ok b hb fb W (hT.later h) (Tab.later hI h))
        (fun W s1 s2 ao1 ao2 n1 n2 cap1 cap2 ex1 ex2 h p q => pleast (tF_ok a) (tF_ok b) (tF_fits a) (tF_fits b) (tF_ne b0) s1 s2 ao1 ao2 n1 cap1 n2 cap2 ex1 ex2 W (hT.later h) p q)
        (fun W X h p => prounded (hT.later h) (tL_ok (tF_ok a) (tF_ok b) (tF_fits a) (tF_fits b) (tF_ne b0)) p (by omega))
        (fun W => pwith (rsF a b) a hz ha W)
      by_cases h0 : mag (rsF a b) = 0
      · rw [if_pos h0]
        rw [decide_eq_true h0, if_pos rfl] at k
        exact k
      · rw [if_neg h0]
        rw [decide_eq_false h0, if_neg (by decide)] at k
        exact k
end Go.Proofs.YtbpeijejanhihaaGreatDoor
