/- Own work: contracts of the program's functions, part 16: SB5 SA9 SB6 SB7 FL2 SC1 RY6 SC2 RY7 SD1 SD2 SJ3. -/
import Derived.Test.YtbpeijejanhihaaGreatDoorA15
import Derived.Test.YtbpeijejanhihaaGreatDoorA8
import Derived.Test.YtbpeijejanhihaaGreatDoorA4
import Derived.Test.YtbpeijejanhihaaGreatDoorA11
import Derived.Test.YtbpeijejanhihaaGreatDoorA7

set_option maxHeartbeats 16000000
namespace Go.Proofs.YtbpeijejanhihaaGreatDoor
set_option linter.unusedVariables false
set_option linter.unusedSimpArgs false
open Go.RowKit Go.Fl64
def BxP (w3 wc : World) (g : Nat) (s : Bool) (ao : Option Addr) (n cap : Nat) (ex : Int) (t : Bool × Nat × Int) : Prop := wc.heap[g]? = some (.cells #[.bool s, .slice ao n cap, .int .i64 ex] 44 (0, 0)) ∧ w3.heap.size ≤ g ∧ Below w3.heap.size w3 wc ∧ PN wc (.agg #[.bool s, .slice ao n cap, .int .i64 ex]) t
theorem BxP.new {w3 w7 : World} {s : Bool} {ao : Option Addr} {n cap : Nat} {ex : Int} {t : Bool × Nat × Int} (hn : PN w7 (.agg #[.bool s, .slice ao n cap, .int .i64 ex]) t) (hb : Below w3.heap.size w3 w7) : BxP w3 (w7.alloc (.cells #[.bool s, .slice ao n cap, .int .i64 ex] 44)) w7.heap.size s ao n cap ex t :=
  ⟨heap_alloc_new _ _, hb.size, hb.alloc hb.size _, hn.later ((Below.refl _ _).alloc (Nat.le_refl _) _)⟩
theorem BxP.put {w3 w7 : World} {g : Nat} {s : Bool} {ao : Option Addr} {n cap : Nat} {ex : Int} {t : Bool × Nat × Int} (hn : PN w7 (.agg #[.bool s, .slice ao n cap, .int .i64 ex]) t) (hb : Below w3.heap.size w3 w7) (hg : w3.heap.size ≤ g) (hbx : w7.heap[g]? = some (.cells #[.bool false, .slice none 0 0, .int .i64 0] 44 (0, 0))) :
    BxP w3 (((w7.setCell ⟨g, 0, none⟩ (.bool s)).setCell ⟨g, 1, none⟩ (.slice ao n cap)).setCell ⟨g, 2, none⟩ (.int .i64 ex)) g s ao n cap ex t :=
  ⟨store3 _ _ _ hbx, hg, below_store3 hb hg _ _ _, pn_store hn hbx _ _ _⟩
set_option maxRecDepth 200000 in
theorem lrest_g (s1 s2 : Bool) (ao1 ao2 : Option Addr) (n1 cap1 n2 cap2 : Nat) (ex1 ex2 c : Int) (ta tb tq tm tr tn tra tna : Bool × Nat × Int) (w : World) (hc : 0 < c)
    (hA : PN w (.agg #[.bool s1, .slice ao1 n1 cap1, .int .i64 ex1]) ta) (hB : PN w (.agg #[.bool s2, .slice ao2 n2 cap2, .int .i64 ex2]) tb)
    (kQ : ∀ W, Below w.heap.size w W → Calls Tryz.prog 64 #[.agg #[.bool s1, .slice ao1 n1 cap1, .int .i64 ex1], .agg #[.bool s2, .slice ao2 n2 cap2, .int .i64 ex2], .int .i64 0] W fun r w' => ∃ s ao n cap e x, r = .returned (.tuple #[.agg #[.bool s, .slice ao n cap, .int .i64 e], .bool x, .int .i64 0]) ∧ PN w' (.agg #[.bool s, .slice ao n cap, .int .i64 e]) tq ∧ Below W.heap.size W w')
    (kM : ∀ W X Y, Below w.heap.size w W → PN W X tq → PN W Y tb → Calls Tryz.prog 66 #[X, Y] W fun r w' => OutA W tm r w')
    (kT1 : ∀ W X Y, Below w.heap.size w W → PN W X ta → PN W Y tm → Calls Tryz.prog 65 #[X, Y] W fun r w' => OutA W tr r w')
    (kT2 : ∀ W X Y, Below w.heap.size w W → PN W X tr → PN W Y tb → Calls Tryz.prog 65 #[X, Y] W fun r w' => OutA W tn r w')
    (kA1 : ∀ W X, Below w.heap.size w W → PN W X tr → Calls Tryz.prog 68 #[X] W fun r w' => OutA W tra r w')
    (kA2 : ∀ W X, Below w.heap.size w W → PN W X tn → Calls Tryz.prog 68 #[X] W fun r w' => OutA W tna r w')
    (kC : ∀ W X Y, Below w.heap.size w W → PN W X tra → PN W Y tna → Calls Tryz.prog 67 #[X, Y] W fun r w' => r = .returned (.int .i64 c) ∧ Below W.heap.size W w') :
    Calls Tryz.prog 29 #[.agg #[.bool s1, .slice ao1 n1 cap1, .int .i64 ex1], .agg #[.bool s2, .slice ao2 n2 cap2, .int .i64 ex2]] w fun r w' => OutA w tn r w' := by
  have HQ : Hid _ := kQ
  have HM : Hid _ := kM
  have HT1 : Hid _ := kT1
  have HT2 : Hid _ := kT2
  have HA1 : Hid _ := kA1
  have HA2 : Hid _ := kA2
  have HC : Hid _ := kC
  obtain ⟨W, hW⟩ : ∃ W, W = ((w.alloc (.cells #[.bool s1, .slice ao1 n1 cap1, .int .i64 ex1] 44)).alloc (.cells #[.bool s2, .slice ao2 n2 cap2, .int .i64 ex2] 44)).alloc (.cells #[.bool false, .slice none 0 0, .int .i64 0] 44) := ⟨_, rfl⟩
  obtain ⟨gA, gB, gZ, hsz, hBW⟩ := boxes3 _ _ _ hW
  have HX : Hid (Below w.heap.size w W ∧ W.heap[w.heap.size]? = some (.cells #[.bool s1, .slice ao1 n1 cap1, .int .i64 ex1] 44 (0, 0)) ∧ W.heap[w.heap.size + 1]? = some (.cells #[.bool s2, .slice ao2 n2 cap2, .int .i64 ex2] 44 (0, 0)) ∧ W.heap[w.heap.size + 1 + 1]? = some (.cells #[.bool false, .slice none 0 0, .int .i64 0] 44 (0, 0)) ∧ PN w (.agg #[.bool s1, .slice ao1 n1 cap1, .int .i64 ex1]) ta ∧ PN w (.agg #[.bool s2, .slice ao2 n2 cap2, .int .i64 ex2]) tb) := ⟨hBW, gA, gB, gZ, hA, hB⟩
  obtain ⟨⟨a0, a1, a2⟩, -⟩ := box_cells gA
  obtain ⟨⟨b0, b1, b2⟩, -⟩ := box_cells gB
  have k1 := kQ W hBW
  clear kQ kM kT1 kT2 kA1 kA2 kC gA gB gZ hsz hBW hA hB
  rw [hW] at a0 a1 a2 b0 b1 b2
  go_enter Tryz.func29, Tryz.ntmps29
  go_wp2_with fail
  rw [← hW]
  clear hW a0 a1 a2 b0 b1 b2
  refine k1.mono ?_
  rintro r w1 ⟨s3, ao3, n3, cap3, ex3, xq, rfl, hP3, hb1⟩
  clear k1
  obtain ⟨W1, hW1⟩ : ∃ W1, W1 = w1.alloc (.cells #[.bool s3, .slice ao3 n3 cap3, .int .i64 ex3] 44) := ⟨_, rfl⟩
  have hbW : Below W.heap.size W W1 := by rw [hW1]; exact hb1.alloc hb1.size _
  have HY : Hid (Below w.heap.size w W1 ∧ W1.heap[w.heap.size]? = some (.cells #[.bool s1, .slice ao1 n1 cap1, .int .i64 ex1] 44 (0, 0)) ∧ W1.heap[w.heap.size + 1]? = some (.cells #[.bool s2, .slice ao2 n2 cap2, .int .i64 ex2] 44 (0, 0)) ∧ W1.heap[w.heap.size + 1 + 1]? = some (.cells #[.bool false, .slice none 0 0, .int .i64 0] 44 (0, 0)) ∧ PN W1 (.agg #[.bool s1, .slice ao1 n1 cap1, .int .i64 ex1]) ta ∧ PN W1 (.agg #[.bool s2, .slice ao2 n2 cap2, .int .i64 ex2]) tb ∧ W1.heap[w1.heap.size]? = some (.cells #[.bool s3, .slice ao3 n3 cap3, .int .i64 ex3] 44 (0, 0)) ∧ PN W1 (.agg #[.bool s3, .slice ao3 n3 cap3, .int .i64 ex3]) tq) :=
    ⟨HX.out.1.trans (hbW.mono HX.out.1.size), box_later HX.out.2.1 hbW (lt_of_box HX.out.2.1), box_later HX.out.2.2.1 hbW (lt_of_box HX.out.2.2.1), box_later HX.out.2.2.2.1 hbW (lt_of_box HX.out.2.2.2.1), HX.out.2.2.2.2.1.later (HX.out.1.trans (hbW.mono HX.out.1.size)), HX.out.2.2.2.2.2.later (HX.out.1.trans (hbW.mono HX.out.1.size)), by rw [hW1]; exact heap_alloc_new _ _, by rw [hW1]; exact hP3.later ((Below.refl _ _).alloc (Nat.le_refl _) _)⟩
  clear hbW hP3 hb1
  go_upto_region 2 with fail
  rw [← hW1]
  clear hW1 HX
  generalize w1.heap.size = g3 at *
  have HK : Hid (∀ w', Below W1.heap.size W1 w' → ((w'.cell? ⟨w.heap.size, 0, none⟩ = some (.bool s1) ∧ w'.cell? ⟨w.heap.size, 1, none⟩ = some (.slice ao1 n1 cap1) ∧ w'.cell? ⟨w.heap.size, 2, none⟩ = some (.int .i64 ex1)) ∧ (w'.cell? ⟨w.heap.size + 1, 0, none⟩ = some (.bool s2) ∧ w'.cell? ⟨w.heap.size + 1, 1, none⟩ = some (.slice ao2 n2 cap2) ∧ w'.cell? ⟨w.heap.size + 1, 2, none⟩ = some (.int .i64 ex2)) ∧ (w'.cell? ⟨g3, 0, none⟩ = some (.bool s3) ∧ w'.cell? ⟨g3, 1, none⟩ = some (.slice ao3 n3 cap3) ∧ w'.cell? ⟨g3, 2, none⟩ = some (.int .i64 ex3))) ∧ Below W1.heap.size W1 w') := fun w' hb => ⟨⟨(box_cells (box_later HY.out.2.1 hb (lt_of_box HY.out.2.1))).1, (box_cells (box_later HY.out.2.2.1 hb (lt_of_box HY.out.2.2.1))).1, (box_cells (box_later HY.out.2.2.2.2.2.2.1 hb (lt_of_box HY.out.2.2.2.2.2.2.1))).1⟩, hb⟩
  have hBR : Below W1.heap.size W1 W1.drew := (Below.refl _ _).drew
  have km : ∀ w4, Below W1.heap.size W1 w4 → Calls Tryz.prog 66 #[.agg #[.bool s3, .slice ao3 n3 cap3, .int .i64 ex3], .agg #[.bool s2, .slice ao2 n2 cap2, .int .i64 ex2]] w4 fun r w' => ∃ s ao n cap e, r = .returned (.agg #[.bool s, .slice ao n cap, .int .i64 e]) ∧ PN w' (.agg #[.bool s, .slice ao n cap, .int .i64 e]) tm ∧ Below W1.heap.size W1 w' ∧ Hid (∀ g o, w4.heap[g]? = some o → w'.heap[g]? = some o) := fun w4 hb =>
    (HM.out w4 _ _ (HY.out.1.trans (hb.mono HY.out.1.size)) (HY.out.2.2.2.2.2.2.2.later hb) (HY.out.2.2.2.2.2.1.later hb)).mono fun r w' ⟨s, ao, n, cap, e, e1, o1, o2⟩ => ⟨s, ao, n, cap, e, e1, o1, hb.trans (o2.mono hb.size), fun g o hg => box_later hg o2 (lt_of_box hg)⟩
  have kt : ∀ w4 Y, Below W1.heap.size W1 w4 → PN w4 Y tm → Calls Tryz.prog 65 #[.agg #[.bool s1, .slice ao1 n1 cap1, .int .i64 ex1], Y] w4 fun r w' => ∃ s ao n cap e, r = .returned (.agg #[.bool s, .slice ao n cap, .int .i64 e]) ∧ PN w' (.agg #[.bool s, .slice ao n cap, .int .i64 e]) tr ∧ Below W1.heap.size W1 w' ∧ Hid (∀ g o, w4.heap[g]? = some o → w'.heap[g]? = some o) := fun w4 Y hb h2 =>
    (HT1.out w4 _ _ (HY.out.1.trans (hb.mono HY.out.1.size)) (HY.out.2.2.2.2.1.later hb) h2).mono fun r w' ⟨s, ao, n, cap, e, e1, o1, o2⟩ => ⟨s, ao, n, cap, e, e1, o1, hb.trans (o2.mono hb.size), fun g o hg => box_later hg o2 (lt_of_box hg)⟩
  obtain ⟨⟨⟨a0, a1, a2⟩, ⟨b0, b1, b2⟩, ⟨c0, c1, c2⟩⟩, -⟩ := HK.out W1 (Below.refl _ _)
  go_cut [8] from 18 to 22 (fun p wx => ∃ g s ao n cap ex, p = .pointer (some ⟨g, 0, none⟩) ∧ Hid (BxP W1 wx g s ao n cap ex tr))
  case first =>
    go_region_held3 (fun w' => ((w'.cell? ⟨w.heap.size, 0, none⟩ = some (.bool s1) ∧ w'.cell? ⟨w.heap.size, 1, none⟩ = some (.slice ao1 n1 cap1) ∧ w'.cell? ⟨w.heap.size, 2, none⟩ = some (.int .i64 ex1)) ∧ (w'.cell? ⟨w.heap.size + 1, 0, none⟩ = some (.bool s2) ∧ w'.cell? ⟨w.heap.size + 1, 1, none⟩ = some (.slice ao2 n2 cap2) ∧ w'.cell? ⟨w.heap.size + 1, 2, none⟩ = some (.int .i64 ex2)) ∧ (w'.cell? ⟨g3, 0, none⟩ = some (.bool s3) ∧ w'.cell? ⟨g3, 1, none⟩ = some (.slice ao3 n3 cap3) ∧ w'.cell? ⟨g3, 2, none⟩ = some (.int .i64 ex3))) ∧ Below W1.heap.size W1 w') (first | (with_reducible assumption) | exact ⟨⟨⟨a0, a1, a2⟩, ⟨b0, b1, b2⟩, ⟨c0, c1, c2⟩⟩, hBR⟩ | (refine HK.out _ ?_; with_reducible assumption) | (refine HK.out _ ?_; refine Below.alloc (by with_reducible assumption) (Below.size (by with_reducible assumption)) _) | (refine HK.out _ (below_store3 (by first | (with_reducible assumption) | exact hb7.alloc hb7.size _) (by first | exact Nat.le_refl _ | exact hb5.size | exact hb7.size) _ _ _)) | go_keep)
      (first | (go_at_call 66; refine (km _ (by first | (with_reducible assumption) | exact hBR.alloc hBR.size _)).mono ?_; rintro r w5 ⟨s5, ao5, n5, cap5, ex5, rfl, ho5, hb5, hk5⟩; first | (have HBY : Hid (w5.heap[W1.heap.size]? = some (.cells #[.bool false, .slice none 0 0, .int .i64 0] 44 (0, 0))) := hk5.out _ _ (heap_alloc_new W1.drew _)) | (have HBY : Hid True := trivial))
             | (go_at_call 65; refine (kt _ _ (by first | (with_reducible assumption) | exact hb5.alloc hb5.size _) (by first | (with_reducible assumption) | exact ho5.later ((Below.refl _ _).alloc (Nat.le_refl _) _))).mono ?_; rintro r w7 ⟨s7, ao7, n7, cap7, ex7, rfl, hn7, hb7, hk7⟩; first | (have HBZ := hidOf (hk7.out _ _ HBY.out); obtain ⟨⟨x1, x2, x3⟩, x4, x5, x6⟩ := box_cells HBZ.out) | (have HBZ : Hid (w7.heap[w5.heap.size]? = some (.cells #[.bool false, .slice none 0 0, .int .i64 0] 44 (0, 0))) := hk7.out _ _ (heap_alloc_new w5 _); obtain ⟨⟨x1, x2, x3⟩, x4, x5, x6⟩ := box_cells HBZ.out) | (have HBZ : Hid True := trivial)))
    all_goals go_wp2_with fail
    all_goals go_meet
    all_goals first
      | exact ⟨_, _, _, _, _, _, rfl, BxP.new hn7 hb7⟩
      | exact ⟨_, _, _, _, _, _, rfl, BxP.put hn7 hb7 hb5.size HBZ.out⟩
      | exact ⟨_, _, _, _, _, _, rfl, BxP.put hn7 hb7 (Nat.le_refl _) HBZ.out⟩
  case rest =>
    obtain ⟨W2, rfl⟩ : ∃ W2 : World, W2 = wc := ⟨_, rfl⟩
    obtain ⟨g4, s4, ao4, n4, cap4, ex4, rfl, HR⟩ := hcut
    clear km kt HK hBR a0 a1 a2 b0 b1 b2 c0 c1 c2
    have HS : Hid (Below w.heap.size w W2 ∧ W2.heap[w.heap.size + 1]? = some (.cells #[.bool s2, .slice ao2 n2 cap2, .int .i64 ex2] 44 (0, 0)) ∧ W2.heap[w.heap.size + 1 + 1]? = some (.cells #[.bool false, .slice none 0 0, .int .i64 0] 44 (0, 0)) ∧ PN W2 (.agg #[.bool s2, .slice ao2 n2 cap2, .int .i64 ex2]) tb ∧ W2.heap[g4]? = some (.cells #[.bool s4, .slice ao4 n4 cap4, .int .i64 ex4] 44 (0, 0)) ∧ PN W2 (.agg #[.bool s4, .slice ao4 n4 cap4, .int .i64 ex4]) tr) :=
      ⟨HY.out.1.trans (HR.out.2.2.1.mono HY.out.1.size), box_later HY.out.2.2.1 HR.out.2.2.1 (lt_of_box HY.out.2.2.1), box_later HY.out.2.2.2.1 HR.out.2.2.1 (lt_of_box HY.out.2.2.2.1), HY.out.2.2.2.2.2.1.later HR.out.2.2.1, HR.out.1, HR.out.2.2.2⟩
    clear HY HR
    obtain ⟨⟨b0, b1, b2⟩, -⟩ := box_cells HS.out.2.1
    obtain ⟨⟨d0, d1, d2⟩, -⟩ := box_cells HS.out.2.2.2.2.1
    have k3 := HT2.out W2 _ _ HS.out.1 HS.out.2.2.2.2.2 HS.out.2.2.2.1
    go_wp2_with fail
    refine k3.mono ?_
    rintro r w3 ⟨s5, ao5, n5, cap5, ex5, rfl, hP5, hb3⟩
    clear k3 b0 b1 b2 d0 d1 d2
    obtain ⟨W3, hW3⟩ : ∃ W3, W3 = w3.alloc (.cells #[.bool s5, .slice ao5 n5 cap5, .int .i64 ex5] 44) := ⟨_, rfl⟩
    have hbW : Below W2.heap.size W2 W3 := by rw [hW3]; exact hb3.alloc hb3.size _
    have HV : Hid (Below w.heap.size w W3 ∧ W3.heap[w.heap.size + 1 + 1]? = some (.cells #[.bool false, .slice none 0 0, .int .i64 0] 44 (0, 0)) ∧ W3.heap[g4]? = some (.cells #[.bool s4, .slice ao4 n4 cap4, .int .i64 ex4] 44 (0, 0)) ∧ PN W3 (.agg #[.bool s4, .slice ao4 n4 cap4, .int .i64 ex4]) tr ∧ W3.heap[w3.heap.size]? = some (.cells #[.bool s5, .slice ao5 n5 cap5, .int .i64 ex5] 44 (0, 0)) ∧ PN W3 (.agg #[.bool s5, .slice ao5 n5 cap5, .int .i64 ex5]) tn) :=
      ⟨HS.out.1.trans (hbW.mono HS.out.1.size), box_later HS.out.2.2.1 hbW (lt_of_box HS.out.2.2.1), box_later HS.out.2.2.2.2.1 hbW (lt_of_box HS.out.2.2.2.2.1), HS.out.2.2.2.2.2.later hbW, by rw [hW3]; exact heap_alloc_new _ _, by rw [hW3]; exact hP5.later ((Below.refl _ _).alloc (Nat.le_refl _) _)⟩
    clear hbW hP5 hb3
    go_upto_region 4 with fail
    rw [← hW3]
    clear hW3 HS
    generalize w3.heap.size = g5 at *
    have HK : Hid (∀ w', Below W3.heap.size W3 w' → ((w'.cell? ⟨g4, 0, none⟩ = some (.bool s4) ∧ w'.cell? ⟨g4, 1, none⟩ = some (.slice ao4 n4 cap4) ∧ w'.cell? ⟨g4, 2, none⟩ = some (.int .i64 ex4)) ∧ (w'.cell? ⟨g5, 0, none⟩ = some (.bool s5) ∧ w'.cell? ⟨g5, 1, none⟩ = some (.slice ao5 n5 cap5) ∧ w'.cell? ⟨g5, 2, none⟩ = some (.int .i64 ex5))) ∧ Below W3.heap.size W3 w') := fun w' hb => ⟨⟨(box_cells (box_later HV.out.2.2.1 hb (lt_of_box HV.out.2.2.1))).1, (box_cells (box_later HV.out.2.2.2.2.1 hb (lt_of_box HV.out.2.2.2.2.1))).1⟩, hb⟩
    have hBR : Below W3.heap.size W3 W3.drew := (Below.refl _ _).drew
    have ka1 : ∀ w4, Below W3.heap.size W3 w4 → Calls Tryz.prog 68 #[.agg #[.bool s4, .slice ao4 n4 cap4, .int .i64 ex4]] w4 fun r w' => ∃ s ao n cap e, r = .returned (.agg #[.bool s, .slice ao n cap, .int .i64 e]) ∧ PN w' (.agg #[.bool s, .slice ao n cap, .int .i64 e]) tra ∧ Below W3.heap.size W3 w' := fun w4 hb =>
      (HA1.out w4 _ (HV.out.1.trans (hb.mono HV.out.1.size)) (HV.out.2.2.2.1.later hb)).mono fun r w' ⟨s, ao, n, cap, e, e1, o1, o2⟩ => ⟨s, ao, n, cap, e, e1, o1, hb.trans (o2.mono hb.size)⟩
    have ka2 : ∀ w4, Below W3.heap.size W3 w4 → Calls Tryz.prog 68 #[.agg #[.bool s5, .slice ao5 n5 cap5, .int .i64 ex5]] w4 fun r w' => ∃ s ao n cap e, r = .returned (.agg #[.bool s, .slice ao n cap, .int .i64 e]) ∧ PN w' (.agg #[.bool s, .slice ao n cap, .int .i64 e]) tna ∧ Below W3.heap.size W3 w' ∧ Hid (Below w4.heap.size w4 w') := fun w4 hb =>
      (HA2.out w4 _ (HV.out.1.trans (hb.mono HV.out.1.size)) (HV.out.2.2.2.2.2.later hb)).mono fun r w' ⟨s, ao, n, cap, e, e1, o1, o2⟩ => ⟨s, ao, n, cap, e, e1, o1, hb.trans (o2.mono hb.size), o2⟩
    have kc : ∀ w4 X Y, Below W3.heap.size W3 w4 → PN w4 X tra → PN w4 Y tna → Calls Tryz.prog 67 #[X, Y] w4 fun r w' => r = .returned (.int .i64 c) ∧ Below W3.heap.size W3 w' := fun w4 X Y hb h1 h2 =>
      (HC.out w4 _ _ (HV.out.1.trans (hb.mono HV.out.1.size)) h1 h2).mono fun r w' ⟨e1, o2⟩ => ⟨e1, hb.trans (o2.mono hb.size)⟩
    obtain ⟨⟨⟨d0, d1, d2⟩, ⟨e0, e1, e2⟩⟩, -⟩ := HK.out W3 (Below.refl _ _)
    go_region_held3 (fun w' => ((w'.cell? ⟨g4, 0, none⟩ = some (.bool s4) ∧ w'.cell? ⟨g4, 1, none⟩ = some (.slice ao4 n4 cap4) ∧ w'.cell? ⟨g4, 2, none⟩ = some (.int .i64 ex4)) ∧ (w'.cell? ⟨g5, 0, none⟩ = some (.bool s5) ∧ w'.cell? ⟨g5, 1, none⟩ = some (.slice ao5 n5 cap5) ∧ w'.cell? ⟨g5, 2, none⟩ = some (.int .i64 ex5))) ∧ Below W3.heap.size W3 w') (first | (with_reducible assumption) | exact ⟨⟨⟨d0, d1, d2⟩, ⟨e0, e1, e2⟩⟩, hBR⟩ | (refine HK.out _ ?_; with_reducible assumption) | go_keep)
      (first | (go_at_call 68; first | (have hq := hP6; clear hq; refine (ka2 _ hb6).mono ?_; rintro r w7 ⟨s7, ao7, n7, cap7, ex7, rfl, hP7, hb7, hk7⟩) | (refine (ka1 _ hBR).mono ?_; rintro r w6 ⟨s6, ao6, n6, cap6, ex6, rfl, hP6, hb6⟩))
             | (go_at_call 67; refine (kc _ _ _ hb7 (hP6.later hk7.out) hP7).mono ?_; rintro r w8 ⟨rfl, hb8⟩))
    all_goals
      have HF : Hid (Below w.heap.size w w8 ∧ w8.heap[w.heap.size + 1 + 1]? = some (.cells #[.bool false, .slice none 0 0, .int .i64 0] 44 (0, 0)) ∧ PN w8 (.agg #[.bool s5, .slice ao5 n5 cap5, .int .i64 ex5]) tn ∧ w8.heap[g5]? = some (.cells #[.bool s5, .slice ao5 n5 cap5, .int .i64 ex5] 44 (0, 0))) := ⟨HV.out.1.trans (hb8.mono HV.out.1.size), box_later HV.out.2.1 hb8 (lt_of_box HV.out.2.1), HV.out.2.2.2.2.2.later hb8, box_later HV.out.2.2.2.2.1 hb8 (lt_of_box HV.out.2.2.2.2.1)⟩
      clear hP6 hb6 hP7 hb7 hk7 hb8 ka1 ka2 kc HK hBR d0 d1 d2 e0 e1 e2
      obtain ⟨⟨e0, e1, e2⟩, -⟩ := box_cells HF.out.2.2.2
      obtain ⟨⟨z0, z1, z2⟩, z3, z4, z5⟩ := box_cells HF.out.2.1
      go_wp2_with fail
      refine bodyPost_ret (results_cell_row rfl _ _ (w.heap.size + 1 + 1) 44 #[.bool s5, .slice ao5 n5 cap5, .int .i64 ex5] (0, 0) _ rfl (store3 _ _ _ HF.out.2.1) Tryz.underlying44 rfl Tryz.info44) rfl ?_
      exact ⟨_, _, _, _, _, rfl, pn_store HF.out.2.2.1 HF.out.2.1 _ _ _, below_store3 HF.out.1 (by omega) _ _ _⟩
theorem lsame_ok {n X : Nat} (h : lk n X) (hX : X < 18446744073709551616) (w : World) : Calls Tryz.prog 4 #[.float .f64 n, .float .f64 X] w fun r w' => r = .returned (.bool true) ∧ w' = w := by
  have := Ie.lsame n X h.1 hX w
  rw [h.2] at this
  exact this
theorem pabs {t : Bool × Nat × Int} {A : Value} {w : World} (ok : Ok t) (h : PN w A t) : Calls Tryz.prog 68 #[A] w fun r w' => OutA w (false, t.2.1, t.2.2) r w' := by
  obtain ⟨ao, cap, rfl, h1⟩ := h
  obtain ⟨f1, -, -, -, -⟩ := ok.facts
  refine (abs_ok (ea := t.2.2) h1 (by omega) ok).mono ?_
  rintro r w' ⟨v, rfl, ho, hb⟩
  obtain ⟨ao', cap', rfl, h2, h3, h4⟩ := ho.is
  exact ⟨_, _, _, _, _, rfl, ⟨ao', cap', rfl, ao', cap', rfl, h2, h3, h4⟩, hb⟩
theorem pcmp {t1 t2 : Bool × Nat × Int} {X Y : Value} {w : World} (o1 : Ok t1) (o2 : Ok t2) (h1 : PN w X t1) (h2 : PN w Y t2) : Calls Tryz.prog 67 #[X, Y] w fun r w' => r = .returned (.int .i64 (ordN t1.1 t1.2.1 t1.2.2 t2.1 t2.2.1 t2.2.2)) ∧ Below w.heap.size w w' := by
  obtain ⟨ao, cap, rfl, i1⟩ := h1
  obtain ⟨ao', cap', rfl, i2⟩ := h2
  obtain ⟨f1, f2, f3, -, -⟩ := o1.facts
  obtain ⟨g1, g2, g3, -, -⟩ := o2.facts
  exact cmp_ok i1 i2 (by omega) (by omega) (by omega) (by omega) o1 o2
theorem tF5 : tF 4617315517961601024 = (false, 5, 0) := by decide +kernel
theorem tF3 : tF 4613937818241073152 = (false, 3, 0) := by decide +kernel
theorem okT5 : Ok (false, 5, 0) := by rw [← tF5]; exact tF_ok _
theorem okT3 : Ok (false, 3, 0) := by rw [← tF3]; exact tF_ok _
theorem okT1 : Ok (false, 1, 0) := (by decide +kernel : okN false (dlen 1) 1 0 = true)
theorem okT1n : Ok (true, 1, 0) := (by decide +kernel : okN true (dlen 1) 1 0 = true)
theorem okT2 : Ok (false, 1, 1) := (by decide +kernel : okN false (dlen 1) 1 1 = true)
theorem sure_least (s1 s2 : Bool) (ao1 ao2 : Option Addr) (n1 cap1 n2 cap2 : Nat) (ex1 ex2 : Int) (w : World) (hT : Tab32 w) (h1 : PN w (.agg #[.bool s1, .slice ao1 n1 cap1, .int .i64 ex1]) (false, 5, 0)) (h2 : PN w (.agg #[.bool s2, .slice ao2 n2 cap2, .int .i64 ex2]) (false, 3, 0)) :
    Calls Tryz.prog 29 #[.agg #[.bool s1, .slice ao1 n1 cap1, .int .i64 ex1], .agg #[.bool s2, .slice ao2 n2 cap2, .int .i64 ex2]] w fun r w' => OutA w (true, 1, 0) r w' := by
  have m1 := mul_op okT1 okT3 (by decide +kernel)
  have u1 := sub_op okT5 okT3 (by decide +kernel)
  have u2 := sub_op okT2 okT3 (by decide +kernel)
  rw [show cn (!((false, (1 : Nat), (0 : Int)).1 == (false, (3 : Nat), (0 : Int)).1)) ((false, (1 : Nat), (0 : Int)).2.1 * (false, (3 : Nat), (0 : Int)).2.1) ((false, (1 : Nat), (0 : Int)).2.2 + (false, (3 : Nat), (0 : Int)).2.2) = (false, 3, 0) by decide +kernel] at m1
  refine lrest_g s1 s2 ao1 ao2 n1 cap1 n2 cap2 ex1 ex2 1 (false, 5, 0) (false, 3, 0) (false, 1, 0) (false, 3, 0) (false, 1, 1) (true, 1, 0) (false, 1, 1) (false, 1, 0) w (by decide) h1 h2 (fun W h => ?_) (fun W X Y h p q => multiplied_op m1 (hT.later h) p q) (fun W X Y h p q => ?_) (fun W X Y h p q => ?_) (fun W X h p => pabs okT2 p) (fun W X h p => pabs okT1n p) (fun W X Y h p q => ?_)
  · obtain ⟨ao, cap, e1, i1⟩ := h1.later h
    obtain ⟨ao', cap', e2, i2⟩ := h2.later h
    rw [e1, e2]
    have k := c44 (na := false) (nb := false) (ea := 0) (eb := 0) (place := 0) i1 i2 (hT.later h) (by decide) (by have := okT5.facts; omega) (by have := okT3.facts; omega) okT5 okT3 (by omega) (by omega) (by omega) 5 3 (by decide) (by decide)
    rw [show (if (false != false) && !(decide (5 % 3 = 0)) then 5 / 3 + 1 else 5 / 3) = 1 by decide] at k
    refine Calls.mono k ?_
    intro r w' hh
    obtain ⟨s, a, n, c, e, q1, q2, q3⟩ := held3_pn hh (by decide +kernel)
    rw [show cn (false != false) 1 (-0) = (false, 1, 0) by decide +kernel] at q2
    exact ⟨s, a, n, c, e, _, q1, q2, q3⟩
  · have := taken_op u1 (hT.later h) p q
    rw [show cn _ _ _ = (false, 1, 1) by decide +kernel] at this
    exact this
  · have := taken_op u2 (hT.later h) p q
    rw [show cn _ _ _ = (true, 1, 0) by decide +kernel] at this
    exact this
  · have := pcmp okT2 okT1 p q
    rw [show ordN _ _ _ _ _ _ = 1 by decide +kernel] at this
    exact this
set_option maxRecDepth 200000 in
theorem sure_rest (w : World) (hT : Tab32 w) (hI : Ie.Tab w) : Calls Tryz.prog 7 #[.float .f64 4617315517961601024, .float .f64 4613937818241073152] w fun r w' => r = .returned (.float .f64 13830554455654793216) ∧ Below w.heap.size w w' := by
  have e1 : (FloatKind.f64.format.order 4617315517961601024 4617315517961601024 != some Ordering.eq) = false := by decide +kernel
  have e2 : (FloatKind.f64.format.order 4613937818241073152 4613937818241073152 != some Ordering.eq) = false := by decide +kernel
  have e3 : (FloatKind.f64.format.order 4613937818241073152 0 == some Ordering.eq) = false := by decide +kernel
  have e4 : (FloatKind.f64.format.order 13830554455654793216 0 == some Ordering.eq) = false := by decide +kernel
  have i1 := pinf_n 4617315517961601024 (by decide) (by decide) w
  have i2 := pinf_n 4613937818241073152 (by decide) (by decide) w
  have kA := exact_ok 4617315517961601024 (by decide) (by decide) w hT hI
  rw [tF5] at kA
  have HKB : Hid (∀ W, Below w.heap.size w W → Calls Tryz.prog 30 #[.float .f64 4613937818241073152] W fun r w' => OutA W (false, 3, 0) r w') := fun W h => by
    have := exact_ok 4613937818241073152 (by decide) (by decide) W (hT.later h) (Tab.later hI h)
    rw [tF3] at this
    exact this
  have HT : Hid (Tab32 w) := hT
  clear hT hI
  go_enter Tryz.func7, Tryz.ntmps7
  go_wp2_with fail
  refine i1.mono ?_
  rintro r w' ⟨rfl, hw⟩
  rw [hw]
  clear hw i1 w'
  go_wp2_with fail
  refine i2.mono ?_
  rintro r w' ⟨rfl, hw⟩
  rw [hw]
  clear hw i2 w'
  go_wp2_with fail
  refine kA.mono ?_
  rintro r w1 ⟨s1, ao1, n1, cap1, ex1, rfl, hP1, hb1⟩
  have k2 := HKB.out w1 hb1
  clear kA
  go_wp2_with fail
  refine k2.mono ?_
  rintro r w2 ⟨s2, ao2, n2, cap2, ex2, rfl, hP2, hb2⟩
  have HB2 : Hid (Below w.heap.size w w2) := hb1.trans (hb2.mono hb1.size)
  have k3 := sure_least _ _ _ _ _ _ _ _ _ _ w2 (HT.out.later HB2.out) (hP1.later hb2) hP2
  clear k2 hP1 hP2 hb1 hb2
  go_wp2_with fail
  refine k3.mono ?_
  rintro r w3 ⟨s3, ao3, n3, cap3, ex3, rfl, hP3, hb3⟩
  have HB3 : Hid (Below w.heap.size w w3) := HB2.out.trans (hb3.mono HB2.out.size)
  have k4 := prounded (m := 2) (HT.out.later HB3.out) okT1n hP3 (by omega)
  rw [show tfF (true, (1 : Nat), (0 : Int)).1 true (true, (1 : Nat), (0 : Int)).2.1 (true, (1 : Nat), (0 : Int)).2.2 2 = 13830554455654793216 by decide +kernel] at k4
  clear k3 hP3 hb3
  go_wp2_with fail
  refine k4.mono ?_
  rintro r w4 ⟨rfl, hb4⟩
  have HB4 : Hid (Below w.heap.size w w4) := HB3.out.trans (hb4.mono HB3.out.size)
  clear k4 hb4
  go_wp2_with fail
  go_ret
  exact ⟨rfl, HB4.out⟩
theorem sure_add_ok (w : World) (hT : Tab32 w) (hI : Ie.Tab w) : Calls Tryz.prog 36 #[.float .f64 4607182418800017408, .float .f64 4611686018427387904, .int .i64 2] w fun r w' => r = .returned (.float .f64 4613937818241073152) ∧ Below w.heap.size w w' := by
  obtain ⟨a, ea⟩ : ∃ a, a = 4607182418800017408 := ⟨_, rfl⟩
  obtain ⟨b, eb⟩ : ∃ b, b = 4611686018427387904 := ⟨_, rfl⟩
  have e := sure_add
  rw [← ea, ← eb] at e ⊢
  have ha : a < 18446744073709551616 := by omega
  have hb : b < 18446744073709551616 := by omega
  have hfa : mag a < 9218868437227405312 := by rw [ea]; decide
  have hfb : mag b < 9218868437227405312 := by rw [eb]; decide
  have hokR := tS_okR (tF_fits a) (tF_fits b) (by omega) (by omega) (by omega)
  have hok : Ok (tS (tF a) (tF b)) := ok_cn hokR
  have hadd := add_op (tF_ok a) (tF_ok b) hokR
  have h0 : (tS (tF a) (tF b)).2.1 ≠ 0 := by rw [ea, eb]; decide +kernel
  rw [if_neg h0] at e
  refine (padd_r a b _ 2 _ (tF a) (tF b) (tS (tF a) (tF b)) w (by decide) ha hb (pfin_y a ha hfa) (pfin_y b hb hfb) (exact_ok a ha hfa w hT hI) (fun W' h => exact_ok b hb hfb W' (hT.later h) (Tab.later hI h)) (fun W' X Y h h1 h2 => added_op hadd (hT.later h) h1 h2) (fun W' X h => psign hok h) (by rw [sgI_nought, decide_eq_false h0]) (fun W' X h h1 => prounded (hT.later h) hok h1 (by omega))).mono ?_
  rintro r w' ⟨rfl, hb'⟩
  exact ⟨by rw [e], hb'⟩
set_option maxRecDepth 200000 in
theorem sure_ok (w : World) (hT : Tab32 w) (hI : Ie.Tab w) : Calls Tryz.prog 9 #[] w fun r w' => r = .returned (.bool true) ∧ Below w.heap.size w w' := by
  have e1 : (FloatKind.f64.format.order 4613937818241073152 4613937818241073152 == some Ordering.eq) = true := by decide +kernel
  have e2 : (FloatKind.f64.format.order 4599676419421066582 4599676419421066581 == some Ordering.gt) = true := by decide +kernel
  have e3 : (FloatKind.f64.format.order 4617315517961601024 4617315517961601024 == some Ordering.eq) = true := by decide +kernel
  have e4 : (FloatKind.f64.format.order 4611686018427387904 4611686018427387904 == some Ordering.eq) = true := by decide +kernel
  have e5 : (FloatKind.f64.format.order 13830554455654793216 13830554455654793216 == some Ordering.eq) = true := by decide +kernel
  have HT : Hid (∀ W, Below w.heap.size w W → Tab32 W ∧ Ie.Tab W) := fun W h => ⟨hT.later h, Tab.later hI h⟩
  have kk := sure_add_ok w hT hI
  clear hT hI
  go_enter Tryz.func9, Tryz.ntmps9
  go_wp2_with fail
  refine kk.mono ?_
  rintro r w1 ⟨rfl, hb1⟩
  have HB1 : Hid (Below w.heap.size w w1) := hb1
  clear kk hb1
  have kk := pdiv_ok 4607182418800017408 4613937818241073152 3 w1 (by decide) (HT.out w1 HB1.out).1 (HT.out w1 HB1.out).2 (by decide) (by decide) (by decide) (by decide) (by decide) (by decide) (tF_ne (by decide)) (tF_ne (by decide))
  rw [sure_div3] at kk
  go_wp2_with fail
  refine kk.mono ?_
  rintro r w2 ⟨rfl, hb2⟩
  have HB2 : Hid (Below w.heap.size w w2) := HB1.out.trans (hb2.mono HB1.out.size)
  clear kk hb2
  have kk := pdiv_ok 4607182418800017408 4613937818241073152 1 w2 (by decide) (HT.out w2 HB2.out).1 (HT.out w2 HB2.out).2 (by decide) (by decide) (by decide) (by decide) (by decide) (by decide) (tF_ne (by decide)) (tF_ne (by decide))
  rw [sure_div1] at kk
  go_wp2_with fail
  refine kk.mono ?_
  rintro r w3 ⟨rfl, hb3⟩
  have HB3 : Hid (Below w.heap.size w w3) := HB2.out.trans (hb3.mono HB2.out.size)
  clear kk hb3
  have kk := sure_hyp w3 (HT.out w3 HB3.out).1 (HT.out w3 HB3.out).2
  go_wp2_with fail
  refine kk.mono ?_
  rintro r w4 ⟨rfl, hb4⟩
  have HB4 : Hid (Below w.heap.size w w4) := HB3.out.trans (hb4.mono HB3.out.size)
  clear kk hb4
  have kk := pvalid 3 w4
  rw [show isM 3 = true by decide] at kk
  go_wp2_with fail
  refine kk.mono ?_
  rintro r w' ⟨rfl, hw⟩
  rw [hw]
  clear hw kk w'
  have kk := pvalid 0 w4
  rw [show isM 0 = false by decide] at kk
  go_wp2_with fail
  refine kk.mono ?_
  rintro r w' ⟨rfl, hw⟩
  rw [hw]
  clear hw kk w'
  have kk := sure_whole w4
  go_wp2_with fail
  refine kk.mono ?_
  rintro r w' ⟨rfl, hw⟩
  rw [hw]
  clear hw kk w'
  have kk := sure_rest w4 (HT.out w4 HB4.out).1 (HT.out w4 HB4.out).2
  go_wp2_with fail
  refine kk.mono ?_
  rintro r w5 ⟨rfl, hb5⟩
  have HB5 : Hid (Below w.heap.size w w5) := HB4.out.trans (hb5.mono HB4.out.size)
  clear kk hb5
  go_wp2_with fail
  go_ret
  exact ⟨rfl, HB5.out⟩
end Go.Proofs.YtbpeijejanhihaaGreatDoor
/- Products and quotients of floats of which one is nought or not finite. -/
namespace Go.Fl64
set_option linter.unusedVariables false
set_option linter.unusedSimpArgs false
theorem nan_of {a : Nat} (h : 9218868437227405312 < mag a) : isNaN a = true := by unfold isNaN; simp; omega
theorem num_nought {a m k : Nat} (e : m * 2 ^ k = val (mag a)) : m = 0 ↔ mag a = 0 := by
  have hp := Nat.two_pow_pos k
  constructor
  · intro h
    rw [h, Nat.zero_mul] at e
    exact (val_eq_zero _).1 e.symm
  · intro h
    rw [h, val_zero] at e
    rcases Nat.mul_eq_zero.1 e with h | h
    · exact h
    · omega
end Go.Fl64
namespace Go.Proofs.YtbpeijejanhihaaGreatDoor
set_option linter.unusedVariables false
set_option linter.unusedSimpArgs false
open Go.RowKit Go.Fl64
end Go.Proofs.YtbpeijejanhihaaGreatDoor
namespace Go.Proofs.YtbpeijejanhihaaGreatDoor
set_option linter.unusedVariables false
set_option linter.unusedSimpArgs false
open Go.RowKit Go.Fl64
open Ie
end Go.Proofs.YtbpeijejanhihaaGreatDoor
namespace Go.Proofs.YtbpeijejanhihaaGreatDoor
set_option linter.unusedVariables false
set_option linter.unusedSimpArgs false
open Go.RowKit Go.Fl64
set_option maxRecDepth 200000 in
theorem xtimes_1 (na nb sg : Bool) (ua va : Option Addr) (un uc vn vc x y : Nat) (ea eb : Int) (w : World) (h1 : Ir w (.slice ua un uc) x) (h2 : Ir w (.slice va vn vc) y) (hx : dlen x ≤ 400000) (hy : dlen y ≤ 400000) (he1 : -4000000 ≤ ea) (he2 : ea ≤ 4000000) (he3 : -4000000 ≤ eb) (he4 : eb ≤ 4000000) (hsg : (!(na == nb)) = sg) :
    Calls Tryz.prog 35 #[.agg #[.bool na, .slice ua un uc, .int .i64 ea], .agg #[.bool nb, .slice va vn vc, .int .i64 eb]] w fun r w' => ∃ a, r = .returned a ∧ NC w' w.heap.size a sg (x * y) (ea + eb) ∧ Below w.heap.size w w' := by
  obtain ⟨W, hW⟩ : ∃ W, W = ((w.alloc (.cells #[.bool na, .slice ua un uc, .int .i64 ea] 34)).alloc (.cells #[.bool nb, .slice va vn vc, .int .i64 eb] 34)).alloc (.cells #[.bool false, .slice none 0 0, .int .i64 0] 34) := ⟨_, rfl⟩
  obtain ⟨hA, hBb, hC, hsz, hBW⟩ := boxes3 _ _ _ hW
  have hxy : dlen (x * y) ≤ 1000000 := by
    have l1 := (dlen_le (dlen x) x).1 (Nat.le_refl _)
    have l2 := (dlen_le (dlen y) y).1 (Nat.le_refl _)
    have : dlen (x * y) ≤ dlen x + dlen y := (dlen_le _ _).2 (by
      rw [Nat.pow_add]
      rcases Nat.eq_zero_or_pos x with h | h
      · rw [h, Nat.zero_mul]; exact Nat.mul_pos (Bpow_pos _) (Bpow_pos _)
      · exact Nat.mul_lt_mul_of_lt_of_le l1 (Nat.le_of_lt l2) (Bpow_pos _))
    omega
  have HH : Hid (W.heap[w.heap.size + 1 + 1]? = some (.cells #[.bool false, .slice none 0 0, .int .i64 0] 34 (0, 0)) ∧ W.heap.size = w.heap.size + 1 + 1 + 1 ∧ Below w.heap.size w W) := ⟨hC, hsz, hBW⟩
  have k78 : ∀ w4, Below W.heap.size W w4 → Calls Tryz.prog 72 #[.slice ua un uc, .slice va vn vc] w4 fun r w' => ∃ v, r = .returned v ∧ Own w' W.heap.size v (x * y) ∧ Below W.heap.size W w' := fun w4 hb =>
    (rprod ((h1.later hBW).later hb) ((h2.later hBW).later hb) (by omega) (by omega)).mono fun r w' ⟨v, e1, o1, o2⟩ => ⟨v, e1, o1.mono hb.size, hb.trans (o2.mono hb.size)⟩
  have k31 : ∀ v5 w5, Own w5 W.heap.size v5 (x * y) → Below W.heap.size W w5 → Calls Tryz.prog 51 #[.bool sg, v5, .int .i64 (ea + eb)] w5 fun r w' => ∃ s ao n cap ex, r = .returned (.agg #[.bool s, .slice ao n cap, .int .i64 ex]) ∧
      Hid (NC w' w5.heap.size (.agg #[.bool s, .slice ao n cap, .int .i64 ex]) sg (x * y) (ea + eb) ∧ W.heap.size ≤ w5.heap.size) ∧ Below W.heap.size W w' ∧ Hid (w'.heap[w.heap.size + 1 + 1]? = some (.cells #[.bool false, .slice none 0 0, .int .i64 0] 34 (0, 0))) ∧
      (w'.cell? ⟨w.heap.size + 1 + 1, 0, none⟩ = some (.bool false) ∧ w'.cell? ⟨w.heap.size + 1 + 1, 1, none⟩ = some (.slice none 0 0) ∧ w'.cell? ⟨w.heap.size + 1 + 1, 2, none⟩ = some (.int .i64 0)) ∧ (w'.frozen? ⟨w.heap.size + 1 + 1, 0, none⟩ = false ∧ w'.frozen? ⟨w.heap.size + 1 + 1, 1, none⟩ = false ∧ w'.frozen? ⟨w.heap.size + 1 + 1, 2, none⟩ = false) := by
    intro v5 w5 ho hb
    obtain ⟨ao0, cap0, rfl, hl0, -, hat0⟩ := ho.is
    refine (rnormN hat0 (Nat.le_refl _) hl0 (by omega) (by omega)).mono ?_
    rintro r w6 ⟨a, rfl, hN, hb6⟩
    obtain ⟨s, ao, n, cap, ex, rfl⟩ := hN.shape
    have hb46 : Below W.heap.size W w6 := hb.trans (hb6.mono hb.size)
    have hblk := box_later HH.out.1 hb46 (by have := HH.out.2.1; omega)
    obtain ⟨f1, f2⟩ := box_cells29 hblk
    exact ⟨s, ao, n, cap, ex, rfl, ⟨hN, hb.size⟩, hb46, hblk, f1, f2⟩
  obtain ⟨⟨a0, a1, a2⟩, -⟩ := box_cells29 hA
  obtain ⟨⟨b0, b1, b2⟩, -⟩ := box_cells29 hBb
  have HK : Hid (∀ w', Below W.heap.size W w' → ((w'.cell? ⟨w.heap.size, 0, none⟩ = some (.bool na) ∧ w'.cell? ⟨w.heap.size, 1, none⟩ = some (.slice ua un uc) ∧ w'.cell? ⟨w.heap.size, 2, none⟩ = some (.int .i64 ea)) ∧ (w'.cell? ⟨w.heap.size + 1, 0, none⟩ = some (.bool nb) ∧ w'.cell? ⟨w.heap.size + 1, 1, none⟩ = some (.slice va vn vc) ∧ w'.cell? ⟨w.heap.size + 1, 2, none⟩ = some (.int .i64 eb)))) := fun w' hb => ⟨(box_cells29 (box_later hA hb (by omega))).1, (box_cells29 (box_later hBb hb (by omega))).1⟩
  have HK2 : Hid (∀ w', Below (w.heap.size + 1 + 1) W w' → ((w'.cell? ⟨w.heap.size, 0, none⟩ = some (.bool na) ∧ w'.cell? ⟨w.heap.size, 1, none⟩ = some (.slice ua un uc) ∧ w'.cell? ⟨w.heap.size, 2, none⟩ = some (.int .i64 ea)) ∧ (w'.cell? ⟨w.heap.size + 1, 0, none⟩ = some (.bool nb) ∧ w'.cell? ⟨w.heap.size + 1, 1, none⟩ = some (.slice va vn vc) ∧ w'.cell? ⟨w.heap.size + 1, 2, none⟩ = some (.int .i64 eb)))) := fun w' hb => ⟨(box_cells29 (box_later hA hb (by omega))).1, (box_cells29 (box_later hBb hb (by omega))).1⟩
  have HS2 : Hid (w.heap.size + 1 + 1 ≤ W.heap.size) := (by omega : w.heap.size + 1 + 1 ≤ W.heap.size)
  have hBR : Below W.heap.size W W.drew := (Below.refl _ _).drew
  have wz : IntKind.i64.wrap (ea + eb) = ea + eb := by rw [IntKind.wrap_i64]; omega
  clear hA hBb hC hsz hBW h1 h2 hx hy hxy
  go_enter Tryz.func35, Tryz.ntmps35
  go_upto_region 1 with fail
  rw [← hW]
  clear hW
  go_region_held3 (fun w' => ((w'.cell? ⟨w.heap.size, 0, none⟩ = some (.bool na) ∧ w'.cell? ⟨w.heap.size, 1, none⟩ = some (.slice ua un uc) ∧ w'.cell? ⟨w.heap.size, 2, none⟩ = some (.int .i64 ea)) ∧ (w'.cell? ⟨w.heap.size + 1, 0, none⟩ = some (.bool nb) ∧ w'.cell? ⟨w.heap.size + 1, 1, none⟩ = some (.slice va vn vc) ∧ w'.cell? ⟨w.heap.size + 1, 2, none⟩ = some (.int .i64 eb)))) (first | (with_reducible assumption) | exact ⟨⟨a0, a1, a2⟩, b0, b1, b2⟩ | (refine HK.out _ ?_; with_reducible assumption) | (refine HK2.out _ (below_store3 (Below.mono hb6 HS2.out) (Nat.le_refl _) _ _ _)) | go_keep)
    (first | (go_at_call 72; refine (k78 _ (by first | (with_reducible assumption) | exact hBR)).mono ?_; rintro r w5 ⟨v5, rfl, ho5, hb5⟩) | (go_at_call 51; (try simp only [hsg, wz]); refine (k31 _ _ ho5 hb5).mono ?_; rintro r w6 ⟨s6, ao6, n6, cap6, ex6, rfl, hN6, hb6, hblk6, ⟨x1, x2, x3⟩, x4, x5, x6⟩))
  have HF : Hid (Below W.heap.size W w6) := hb6
  clear ho5 hb5 hb6 k31 k78 x1 x2 x3 x4 x5 x6 a0 a1 a2 b0 b1 b2 HK HK2
  go_wp2
  refine bodyPost_ret (results_cell_row rfl _ _ (w.heap.size + 1 + 1) 34 #[.bool s6, .slice ao6 n6 cap6, .int .i64 ex6] (0, 0) _ rfl (store3_29 _ _ _ hblk6.out) Tryz.underlying34 rfl Tryz.info34) rfl ?_
  obtain ⟨-, hs, hBW⟩ := HH.out
  have hs5 := hN6.out.2
  exact ⟨_, rfl, (hN6.out.1.store (by omega) _ _ _).mono (by omega), below_store3 (hBW.trans (HF.out.mono hBW.size)) (by omega) _ _ _⟩
theorem times_dn {t1 t2 : Bool × Nat × Int} {X Y : Value} {w : World} (o1 : Ok t1) (o2 : Ok t2) (h1 : DN w X t1) (h2 : DN w Y t2) : Calls Tryz.prog 35 #[X, Y] w fun r w' => ∃ A, r = .returned A ∧ DN w' A (tM t1 t2) ∧ Below w.heap.size w w' := by
  obtain ⟨ao, cap, rfl, a1⟩ := h1
  obtain ⟨ao', cap', rfl, a2⟩ := h2
  obtain ⟨f1, f2, f3, -, -⟩ := o1.facts
  obtain ⟨g1, g2, g3, -, -⟩ := o2.facts
  exact (xtimes_1 t1.1 t2.1 _ ao ao' _ cap _ cap' t1.2.1 t2.2.1 t1.2.2 t2.2.2 w ⟨ao, cap, rfl, a1.le, a1.at_⟩ ⟨ao', cap', rfl, a2.le, a2.at_⟩ (by omega) (by omega) (by omega) (by omega) (by omega) (by omega) rfl).mono fun r w' ⟨A, e, h, hb⟩ => ⟨A, e, h.dn, hb⟩
theorem inf_dec {a : Nat} : Ie.isInf a = decide (mag a = 9218868437227405312) := by
  by_cases h : mag a = 9218868437227405312
  · rw [decide_eq_true h]; exact Ie.isInf_iff.2 h
  · rw [decide_eq_false h]; exact Ie.isInf_not.2 h
theorem tF_nought {a : Nat} (h : mag a = 0) : (tF a).2.1 = 0 := by
  have : Ie.mant a = 0 := by unfold Ie.mant; rw [if_pos (by omega)]; exact h
  unfold tF cn
  rw [if_pos this]
end Go.Proofs.YtbpeijejanhihaaGreatDoor
namespace Go.Proofs.YtbpeijejanhihaaGreatDoor
set_option linter.unusedVariables false
set_option linter.unusedSimpArgs false
open Go.RowKit Go.Fl64
theorem pinf (a : Nat) (ha : a < 18446744073709551616) (w : World) : Calls Tryz.prog 27 #[.float .f64 a, .int .i64 0] w fun r w' => r = .returned (.bool (Ie.isInf a)) ∧ w' = w := by
  have := c123 a ha w
  rw [show lt 9218868437227405311 (mag a) = Ie.isInf a by
    rw [inf_dec]
    unfold lt
    have h0 := mag_lt a
    have e1 : stp 9218868437227405311 = 9218868437227405311 := by decide
    have e2 : stp (mag a) = mag a := by unfold stp sgn neg; rw [decide_eq_false (by omega)]; unfold mag; simp
    have e3 : isNaN 9218868437227405311 = false := by decide
    have e4 : isNaN (mag a) = decide (9218868437227405312 < mag a) := by unfold isNaN; congr 2; unfold mag; omega
    rw [e1, e2, e3, e4]
    by_cases h1 : 9218868437227405312 < mag a
    · rw [decide_eq_true h1, decide_eq_false (show ¬ mag a = 9218868437227405312 by omega)]; simp
    · rw [decide_eq_false h1]
      by_cases h2 : mag a = 9218868437227405312
      · rw [decide_eq_true h2, decide_eq_true (show (9218868437227405311 : Int) < (mag a : Int) by omega)]; rfl
      · rw [decide_eq_false h2, decide_eq_false (show ¬ (9218868437227405311 : Int) < (mag a : Int) by omega)]; rfl] at this
  exact this
theorem dn_store {w : World} {A : Value} {t : Bool × Nat × Int} {g : Nat} (h : DN w A t) (hg : w.heap[g]? = some (.cells #[.bool false, .slice none 0 0, .int .i64 0] 34 (0, 0))) (a b c : Value) : DN (((w.setCell ⟨g, 0, none⟩ a).setCell ⟨g, 1, none⟩ b).setCell ⟨g, 2, none⟩ c) A t := by
  obtain ⟨ao, cap, h1, h2⟩ := h
  exact ⟨ao, cap, h1, h2.nil, at_box h2.at_ rfl hg (by simp) (by simp) (by simp) a b c, h2.le, h2.small⟩
def BxD (w3 wc : World) (g : Nat) (s : Bool) (ao : Option Addr) (n cap : Nat) (ex : Int) (t : Bool × Nat × Int) : Prop := wc.heap[g]? = some (.cells #[.bool s, .slice ao n cap, .int .i64 ex] 34 (0, 0)) ∧ w3.heap.size ≤ g ∧ Below w3.heap.size w3 wc ∧ DN wc (.agg #[.bool s, .slice ao n cap, .int .i64 ex]) t
theorem BxD.new {w3 w7 : World} {s : Bool} {ao : Option Addr} {n cap : Nat} {ex : Int} {t : Bool × Nat × Int} (hn : DN w7 (.agg #[.bool s, .slice ao n cap, .int .i64 ex]) t) (hb : Below w3.heap.size w3 w7) : BxD w3 (w7.alloc (.cells #[.bool s, .slice ao n cap, .int .i64 ex] 34)) w7.heap.size s ao n cap ex t :=
  ⟨heap_alloc_new _ _, hb.size, hb.alloc hb.size _, hn.later ((Below.refl _ _).alloc (Nat.le_refl _) _)⟩
theorem BxD.put {w3 w7 : World} {g : Nat} {s : Bool} {ao : Option Addr} {n cap : Nat} {ex : Int} {t : Bool × Nat × Int} (hn : DN w7 (.agg #[.bool s, .slice ao n cap, .int .i64 ex]) t) (hb : Below w3.heap.size w3 w7) (hg : w3.heap.size ≤ g) (hbx : w7.heap[g]? = some (.cells #[.bool false, .slice none 0 0, .int .i64 0] 34 (0, 0))) :
    BxD w3 (((w7.setCell ⟨g, 0, none⟩ (.bool s)).setCell ⟨g, 1, none⟩ (.slice ao n cap)).setCell ⟨g, 2, none⟩ (.int .i64 ex)) g s ao n cap ex t :=
  ⟨store3_29 _ _ _ hbx, hg, below_store3 hb hg _ _ _, dn_store hn hbx _ _ _⟩
theorem dn_storeG {w : World} {A : Value} {t : Bool × Nat × Int} {g : Nat} {s : Bool} {ao : Option Addr} {n cap : Nat} {e : Int} (h : DN w A t) (hg : w.heap[g]? = some (.cells #[.bool s, .slice ao n cap, .int .i64 e] 34 (0, 0))) (a b c : Value) : DN (((w.setCell ⟨g, 0, none⟩ a).setCell ⟨g, 1, none⟩ b).setCell ⟨g, 2, none⟩ c) A t := by
  obtain ⟨oo, cc, h1, h2⟩ := h
  exact ⟨oo, cc, h1, h2.nil, at_box h2.at_ rfl hg (by simp) (by simp) (by simp) a b c, h2.le, h2.small⟩
theorem dwhole_no (a : Nat) (m : Int) (w : World) (kV : (∀ W, Calls Tryz.prog 16 #[.int .i64 m] W fun r w' => r = .returned (.int .i64 1) ∧ w' = W)) :
    Calls Tryz.prog 6 #[.float .f64 a, .int .i64 m] w fun r w' => r = .returned (.float .f64 9221120237041090560) ∧ Below w.heap.size w w' := by
  have kN := Ie.dnot
  go_enter Tryz.func6, Tryz.ntmps6
  go_wp2_with (first | (go_at_call 16; with_reducible refine (kV _).mono ?_; rintro r w' ⟨rfl, hw⟩; rw [hw]; clear hw w') | (go_at_call 17; with_reducible refine (kN _).mono ?_; rintro r w' ⟨rfl, hw⟩; rw [hw]; clear hw w'))
  go_ret
  exact ⟨rfl, Below.refl _ _⟩
theorem dwhole_inf (a : Nat) (m : Int) (w : World) (kV : (∀ W, Calls Tryz.prog 16 #[.int .i64 m] W fun r w' => r = .returned (.int .i64 0) ∧ w' = W)) (kF : (∀ W, Calls Tryz.prog 18 #[.float .f64 a] W fun r w' => r = .returned (.bool false) ∧ w' = W)) :
    Calls Tryz.prog 6 #[.float .f64 a, .int .i64 m] w fun r w' => r = .returned (.float .f64 a) ∧ Below w.heap.size w w' := by
  go_enter Tryz.func6, Tryz.ntmps6
  go_wp2_with (first | (go_at_call 16; with_reducible refine (kV _).mono ?_; rintro r w' ⟨rfl, hw⟩; rw [hw]; clear hw w') | (go_at_call 18; with_reducible refine (kF _).mono ?_; rintro r w' ⟨rfl, hw⟩; rw [hw]; clear hw w'))
  go_ret
  exact ⟨rfl, Below.refl _ _⟩
set_option maxRecDepth 200000 in
theorem dwhole_e (a : Nat) (m : Int) (t tq : Bool × Nat × Int) (w : World) (kV : (∀ W, Calls Tryz.prog 16 #[.int .i64 m] W fun r w' => r = .returned (.int .i64 0) ∧ w' = W)) (kF : (∀ W, Calls Tryz.prog 18 #[.float .f64 a] W fun r w' => r = .returned (.bool true) ∧ w' = W)) (kL : ∀ W, Calls Tryz.prog 19 #[.float .f64 a] W fun r w' => ∃ A, r = .returned A ∧ DN w' A t ∧ Below W.heap.size W w') (kC : ∀ W X, DN W X t → Calls Tryz.prog 20 #[X, .int .i64 0] W fun r w' => ∃ s ao n cap e, r = .returned (.tuple #[.agg #[.bool s, .slice ao n cap, .int .i64 e], .bool true]) ∧ DN w' (.agg #[.bool s, .slice ao n cap, .int .i64 e]) tq ∧ Below W.heap.size W w') :
    Calls Tryz.prog 6 #[.float .f64 a, .int .i64 m] w fun r w' => r = .returned (.float .f64 a) ∧ Below w.heap.size w w' := by
  have HC : Hid _ := kC
  have k1 := kL w
  clear kC kL
  go_enter Tryz.func6, Tryz.ntmps6
  go_wp2_with (first | (go_at_call 16; with_reducible refine (kV _).mono ?_; rintro r w' ⟨rfl, hw⟩; rw [hw]; clear hw w') | (go_at_call 18; with_reducible refine (kF _).mono ?_; rintro r w' ⟨rfl, hw⟩; rw [hw]; clear hw w'))
  clear kV kF
  refine k1.mono ?_
  rintro r w1 ⟨A1, rfl, hP1, hb1⟩
  obtain ⟨s1, ao1, n1, cap1, ex1, rfl⟩ := hP1.shape
  obtain ⟨V1, hV1⟩ : ∃ V1, V1 = w1.alloc (.cells #[.bool s1, .slice ao1 n1 cap1, .int .i64 ex1] 34) := ⟨_, rfl⟩
  have hn1 : V1.heap[w1.heap.size]? = some (.cells #[.bool s1, .slice ao1 n1 cap1, .int .i64 ex1] 34 (0, 0)) := by rw [hV1]; exact heap_alloc_new _ _
  have hbV : Below w.heap.size w V1 := by rw [hV1]; exact hb1.alloc hb1.size _
  have hd1 : DN V1 (.agg #[.bool s1, .slice ao1 n1 cap1, .int .i64 ex1]) t := hP1.later (by rw [hV1]; exact (Below.refl _ _).alloc (Nat.le_refl _) _)
  have HX : Hid (Below w.heap.size w V1 ∧ V1.heap[w1.heap.size]? = some (.cells #[.bool s1, .slice ao1 n1 cap1, .int .i64 ex1] 34 (0, 0)) ∧ DN V1 (.agg #[.bool s1, .slice ao1 n1 cap1, .int .i64 ex1]) t) := ⟨hbV, hn1, hd1⟩
  have k2 := HC.out V1 _ hd1
  obtain ⟨⟨a0, a1, a2⟩, -⟩ := box_cells29 hn1
  clear k1 hP1 hb1 hn1 hbV hd1 HC
  go_upto_region 6 with fail
  rw [← hV1]
  clear hV1
  generalize w1.heap.size = g5 at *
  go_wp2_with fail
  refine k2.mono ?_
  rintro r w2 ⟨s2, ao2, n2, cap2, ex2, rfl, hP2, hb2⟩
  clear k2 a0 a1 a2
  have hbf : Below w.heap.size w (w2.alloc (.cells #[.bool s2, .slice ao2 n2 cap2, .int .i64 ex2] 34)) := HX.out.1.trans ((hb2.alloc hb2.size _).mono HX.out.1.size)
  clear hb2 HX hP2
  go_wp2_with fail
  go_ret
  exact ⟨rfl, hbf⟩
set_option maxRecDepth 200000 in
theorem dwhole_g (a z F : Nat) (ng : Bool) (m : Int) (hm : m = 1 ∨ m = 2 ∨ m = 3) (t tq t1 : Bool × Nat × Int) (tr : Int → Bool × Nat × Int) (h1 : tr 1 = tq) (w : World) (kV : (∀ W, Calls Tryz.prog 16 #[.int .i64 m] W fun r w' => r = .returned (.int .i64 0) ∧ w' = W)) (kF : (∀ W, Calls Tryz.prog 18 #[.float .f64 a] W fun r w' => r = .returned (.bool true) ∧ w' = W)) (kL : ∀ W, Calls Tryz.prog 19 #[.float .f64 a] W fun r w' => ∃ A, r = .returned A ∧ DN w' A t ∧ Below W.heap.size W w') (kC : ∀ W X, DN W X t → Calls Tryz.prog 20 #[X, .int .i64 0] W fun r w' => ∃ s ao n cap e, r = .returned (.tuple #[.agg #[.bool s, .slice ao n cap, .int .i64 e], .bool false]) ∧ DN w' (.agg #[.bool s, .slice ao n cap, .int .i64 e]) tq ∧ Below W.heap.size W w')
    (kW : ∀ W, Calls Tryz.prog 22 #[.int .i64 1] W fun r w' => ∃ A, r = .returned A ∧ DN w' A t1 ∧ Below W.heap.size W w') (kN : ∀ W X Y, DN W X t → DN W Y t1 → Calls Tryz.prog 21 #[X, Y] W fun r w' => ∃ s ao n cap e, r = .returned (.agg #[.bool s, .slice ao n cap, .int .i64 e]) ∧ DN w' (.agg #[.bool s, .slice ao n cap, .int .i64 e]) (tr 2) ∧ Below W.heap.size W w') (kP : ∀ W X Y, DN W X tq → DN W Y t1 → Calls Tryz.prog 23 #[X, Y] W fun r w' => ∃ s ao n cap e, r = .returned (.agg #[.bool s, .slice ao n cap, .int .i64 e]) ∧ DN w' (.agg #[.bool s, .slice ao n cap, .int .i64 e]) (tr 3) ∧ Below W.heap.size W w') (kG : (∀ W, Calls Tryz.prog 26 #[.float .f64 a] W fun r w' => r = .returned (.bool ng) ∧ w' = W)) (kU : (∀ W, Calls Tryz.prog 25 #[.bool ng] W fun r w' => r = .returned (.float .f64 z) ∧ w' = W)) (kR : ∀ W X, DN W X (tr m) → Calls Tryz.prog 24 #[X, .int .i64 2, .float .f64 z] W fun r w' => r = .returned (.float .f64 F) ∧ Below W.heap.size W w') :
    Calls Tryz.prog 6 #[.float .f64 a, .int .i64 m] w fun r w' => r = .returned (.float .f64 F) ∧ Below w.heap.size w w' := by
  have HW : Hid _ := kW
  have HN : Hid _ := kN
  have HP : Hid _ := kP
  have HG : Hid _ := kG
  have HU : Hid _ := kU
  have HR : Hid _ := kR
  clear kW kN kP kG kU kR
  have HC : Hid _ := kC
  have k1 := kL w
  clear kC kL
  go_enter Tryz.func6, Tryz.ntmps6
  go_wp2_with (first | (go_at_call 16; with_reducible refine (kV _).mono ?_; rintro r w' ⟨rfl, hw⟩; rw [hw]; clear hw w') | (go_at_call 18; with_reducible refine (kF _).mono ?_; rintro r w' ⟨rfl, hw⟩; rw [hw]; clear hw w'))
  clear kV kF
  refine k1.mono ?_
  rintro r w1 ⟨A1, rfl, hP1, hb1⟩
  obtain ⟨s1, ao1, n1, cap1, ex1, rfl⟩ := hP1.shape
  obtain ⟨V1, hV1⟩ : ∃ V1, V1 = w1.alloc (.cells #[.bool s1, .slice ao1 n1 cap1, .int .i64 ex1] 34) := ⟨_, rfl⟩
  have hn1 : V1.heap[w1.heap.size]? = some (.cells #[.bool s1, .slice ao1 n1 cap1, .int .i64 ex1] 34 (0, 0)) := by rw [hV1]; exact heap_alloc_new _ _
  have hbV : Below w.heap.size w V1 := by rw [hV1]; exact hb1.alloc hb1.size _
  have hd1 : DN V1 (.agg #[.bool s1, .slice ao1 n1 cap1, .int .i64 ex1]) t := hP1.later (by rw [hV1]; exact (Below.refl _ _).alloc (Nat.le_refl _) _)
  have HX : Hid (Below w.heap.size w V1 ∧ V1.heap[w1.heap.size]? = some (.cells #[.bool s1, .slice ao1 n1 cap1, .int .i64 ex1] 34 (0, 0)) ∧ DN V1 (.agg #[.bool s1, .slice ao1 n1 cap1, .int .i64 ex1]) t) := ⟨hbV, hn1, hd1⟩
  have k2 := HC.out V1 _ hd1
  obtain ⟨⟨a0, a1, a2⟩, -⟩ := box_cells29 hn1
  clear k1 hP1 hb1 hn1 hbV hd1 HC
  go_upto_region 6 with fail
  rw [← hV1]
  clear hV1
  generalize w1.heap.size = g5 at *
  go_wp2_with fail
  refine k2.mono ?_
  rintro r w2 ⟨s2, ao2, n2, cap2, ex2, rfl, hP2, hb2⟩
  clear k2 a0 a1 a2
  obtain ⟨V2, hV2⟩ : ∃ V2, V2 = w2.alloc (.cells #[.bool s2, .slice ao2 n2 cap2, .int .i64 ex2] 34) := ⟨_, rfl⟩
  have hbb : Below w2.heap.size w2 V2 := by rw [hV2]; exact (Below.refl _ _).alloc (Nat.le_refl _) _
  have hb3 : Below V1.heap.size V1 V2 := by rw [hV2]; exact hb2.alloc hb2.size _
  have hn2 : V2.heap[w2.heap.size]? = some (.cells #[.bool s2, .slice ao2 n2 cap2, .int .i64 ex2] 34 (0, 0)) := by rw [hV2]; exact heap_alloc_new _ _
  have HY : Hid (Below w.heap.size w V2 ∧ V2.heap[w2.heap.size]? = some (.cells #[.bool s2, .slice ao2 n2 cap2, .int .i64 ex2] 34 (0, 0)) ∧ V2.heap[g5]? = some (.cells #[.bool s1, .slice ao1 n1 cap1, .int .i64 ex1] 34 (0, 0)) ∧ DN V2 (.agg #[.bool s1, .slice ao1 n1 cap1, .int .i64 ex1]) t ∧ DN V2 (.agg #[.bool s2, .slice ao2 n2 cap2, .int .i64 ex2]) tq) := ⟨HX.out.1.trans (hb3.mono HX.out.1.size), hn2, box_later HX.out.2.1 hb3 (lt_of_box HX.out.2.1), HX.out.2.2.later hb3, hP2.later hbb⟩
  have hg6 : w.heap.size ≤ w2.heap.size := Nat.le_trans HX.out.1.size hb2.size
  clear HX hP2 hb2 hbb hb3 hn2
  rcases hm with rfl | rfl | rfl
  · go_upto_region 13 with fail
    rw [← hV2]
    clear hV2
    generalize w2.heap.size = g6 at *
    have HV : Hid (Below w.heap.size w V2 ∧ V2.heap[g6]? = some (.cells #[.bool s2, .slice ao2 n2 cap2, .int .i64 ex2] 34 (0, 0)) ∧ DN V2 (.agg #[.bool s2, .slice ao2 n2 cap2, .int .i64 ex2]) (tr 1)) := ⟨HY.out.1, HY.out.2.1, by rw [h1]; exact HY.out.2.2.2.2⟩
    clear HW HN HP HY
    have HK : Hid (∀ w', Below V2.heap.size V2 w' → (w'.cell? ⟨g6, 0, none⟩ = some (.bool s2) ∧ w'.cell? ⟨g6, 1, none⟩ = some (.slice ao2 n2 cap2) ∧ w'.cell? ⟨g6, 2, none⟩ = some (.int .i64 ex2)) ∧ Below V2.heap.size V2 w') := fun w' hb => ⟨(box_cells29 (box_later HV.out.2.1 hb (lt_of_box HV.out.2.1))).1, hb⟩
    have hBR : Below V2.heap.size V2 V2.drew := (Below.refl _ _).drew
    have qg : ∀ w4, Below V2.heap.size V2 w4 → Calls Tryz.prog 26 #[.float .f64 a] w4 fun r w' => r = .returned (.bool ng) ∧ Below V2.heap.size V2 w' := fun w4 hb => (HG.out w4).mono fun r w' ⟨e1, e2⟩ => ⟨e1, by rw [e2]; exact hb⟩
    have qu : ∀ w4, Below V2.heap.size V2 w4 → Calls Tryz.prog 25 #[.bool ng] w4 fun r w' => r = .returned (.float .f64 z) ∧ Below V2.heap.size V2 w' := fun w4 hb => (HU.out w4).mono fun r w' ⟨e1, e2⟩ => ⟨e1, by rw [e2]; exact hb⟩
    have qr : ∀ w4, Below V2.heap.size V2 w4 → Calls Tryz.prog 24 #[.agg #[.bool s2, .slice ao2 n2 cap2, .int .i64 ex2], .int .i64 2, .float .f64 z] w4 fun r w' => r = .returned (.float .f64 F) ∧ Below V2.heap.size V2 w' := fun w4 hb => (HR.out w4 _ (HV.out.2.2.later hb)).mono fun r w' ⟨e1, e3⟩ => ⟨e1, hb.trans (e3.mono hb.size)⟩
    obtain ⟨⟨a0, a1, a2⟩, -⟩ := HK.out V2 (Below.refl _ _)
    clear HG HU HR
    go_region_held3 (fun w' => (w'.cell? ⟨g6, 0, none⟩ = some (.bool s2) ∧ w'.cell? ⟨g6, 1, none⟩ = some (.slice ao2 n2 cap2) ∧ w'.cell? ⟨g6, 2, none⟩ = some (.int .i64 ex2)) ∧ Below V2.heap.size V2 w') (first | (with_reducible assumption) | exact ⟨⟨a0, a1, a2⟩, hBR⟩ | (refine HK.out _ ?_; first | (with_reducible assumption) | exact hBR) | go_keep)
      (first | (go_at_call 26; refine (qg _ hBR).mono ?_; rintro r w6 ⟨rfl, hb6⟩)
             | (go_at_call 25; refine (qu _ hb6).mono ?_; rintro r w7 ⟨rfl, hb7⟩)
             | (go_at_call 24; refine (qr _ hb7).mono ?_; rintro r w8 ⟨rfl, hb8⟩))
    have HF : Hid (Below w.heap.size w w8) := HV.out.1.trans (hb8.mono HV.out.1.size)
    clear hb6 hb7 hb8 qg qu qr HK hBR a0 a1 a2 HV
    go_wp2_with fail
    go_ret
    exact ⟨rfl, HF.out⟩
  · go_upto_region 10 with fail
    rw [← hV2]
    clear hV2
    generalize w2.heap.size = g6 at *
    have HK : Hid (∀ w', Below V2.heap.size V2 w' → (w'.cell? ⟨g5, 0, none⟩ = some (.bool s1) ∧ w'.cell? ⟨g5, 1, none⟩ = some (.slice ao1 n1 cap1) ∧ w'.cell? ⟨g5, 2, none⟩ = some (.int .i64 ex1)) ∧ Below V2.heap.size V2 w') := fun w' hb => ⟨(box_cells29 (box_later HY.out.2.2.1 hb (lt_of_box HY.out.2.2.1))).1, hb⟩
    have hBR : Below V2.heap.size V2 V2.drew := (Below.refl _ _).drew
    have qw : ∀ w4, Below V2.heap.size V2 w4 → Calls Tryz.prog 22 #[.int .i64 1] w4 fun r w' => ∃ A, r = .returned A ∧ DN w' A t1 ∧ (w'.cell? ⟨g5, 0, none⟩ = some (.bool s1) ∧ w'.cell? ⟨g5, 1, none⟩ = some (.slice ao1 n1 cap1) ∧ w'.cell? ⟨g5, 2, none⟩ = some (.int .i64 ex1)) ∧ Below V2.heap.size V2 w' := fun w4 hb => (HW.out w4).mono fun r w' ⟨A, e1, e2, e3⟩ => ⟨A, e1, e2, HK.out _ (hb.trans (e3.mono hb.size))⟩
    have qp : ∀ w4 Y, Below V2.heap.size V2 w4 → DN w4 Y t1 → Calls Tryz.prog 21 #[.agg #[.bool s1, .slice ao1 n1 cap1, .int .i64 ex1], Y] w4 fun r w' => ∃ s ao n cap e, r = .returned (.agg #[.bool s, .slice ao n cap, .int .i64 e]) ∧ DN w' (.agg #[.bool s, .slice ao n cap, .int .i64 e]) (tr 2) ∧ Below V2.heap.size V2 w' ∧ w'.heap[g6]? = some (.cells #[.bool s2, .slice ao2 n2 cap2, .int .i64 ex2] 34 (0, 0)) := fun w4 Y hb h => (HN.out w4 _ _ (HY.out.2.2.2.1.later hb) h).mono fun r w' ⟨s, ao, n, cap, e, e1, e2, e3⟩ => ⟨s, ao, n, cap, e, e1, e2, hb.trans (e3.mono hb.size), box_later HY.out.2.1 (hb.trans (e3.mono hb.size)) (lt_of_box HY.out.2.1)⟩
    obtain ⟨⟨a0, a1, a2⟩, -⟩ := HK.out V2 (Below.refl _ _)
    go_region_with (first | (go_at_call 22; refine (qw _ hBR).mono ?_; rintro r w5 ⟨A5, rfl, hP5, ⟨b0, b1, b2⟩, hb5⟩) | (go_at_call 21; refine (qp _ _ hb5 hP5).mono ?_; rintro r w6 ⟨s6, ao6, n6, cap6, ex6, rfl, hP6, hb6, hz6⟩; obtain ⟨⟨y0, y1, y2⟩, y3, y4, y5⟩ := box_cells29 hz6))
    all_goals
      obtain ⟨V3, hV3⟩ : ∃ V3, V3 = ((w6.setCell ⟨g6, 0, none⟩ (.bool s6)).setCell ⟨g6, 1, none⟩ (.slice ao6 n6 cap6)).setCell ⟨g6, 2, none⟩ (.int .i64 ex6) := ⟨_, rfl⟩
      have HV : Hid (Below w.heap.size w V3 ∧ V3.heap[g6]? = some (.cells #[.bool s6, .slice ao6 n6 cap6, .int .i64 ex6] 34 (0, 0)) ∧ DN V3 (.agg #[.bool s6, .slice ao6 n6 cap6, .int .i64 ex6]) (tr 2)) := by
        rw [hV3]
        exact ⟨below_store3 (HY.out.1.trans (hb6.mono HY.out.1.size)) hg6 _ _ _, store3_29 _ _ _ hz6, dn_storeG hP6 hz6 _ _ _⟩
      clear hP5 hb5 hP6 hb6 hz6 qw qp HK hBR a0 a1 a2 b0 b1 b2 HW HP HN HY
      go_upto_region 13 with fail
      rw [← hV3]
      clear hV3 y0 y1 y2 y3 y4 y5
      have HK : Hid (∀ w', Below V3.heap.size V3 w' → (w'.cell? ⟨g6, 0, none⟩ = some (.bool s6) ∧ w'.cell? ⟨g6, 1, none⟩ = some (.slice ao6 n6 cap6) ∧ w'.cell? ⟨g6, 2, none⟩ = some (.int .i64 ex6)) ∧ Below V3.heap.size V3 w') := fun w' hb => ⟨(box_cells29 (box_later HV.out.2.1 hb (lt_of_box HV.out.2.1))).1, hb⟩
      have hBR : Below V3.heap.size V3 V3.drew := (Below.refl _ _).drew
      have qg : ∀ w4, Below V3.heap.size V3 w4 → Calls Tryz.prog 26 #[.float .f64 a] w4 fun r w' => r = .returned (.bool ng) ∧ Below V3.heap.size V3 w' := fun w4 hb => (HG.out w4).mono fun r w' ⟨e1, e2⟩ => ⟨e1, by rw [e2]; exact hb⟩
      have qu : ∀ w4, Below V3.heap.size V3 w4 → Calls Tryz.prog 25 #[.bool ng] w4 fun r w' => r = .returned (.float .f64 z) ∧ Below V3.heap.size V3 w' := fun w4 hb => (HU.out w4).mono fun r w' ⟨e1, e2⟩ => ⟨e1, by rw [e2]; exact hb⟩
      have qr : ∀ w4, Below V3.heap.size V3 w4 → Calls Tryz.prog 24 #[.agg #[.bool s6, .slice ao6 n6 cap6, .int .i64 ex6], .int .i64 2, .float .f64 z] w4 fun r w' => r = .returned (.float .f64 F) ∧ Below V3.heap.size V3 w' := fun w4 hb => (HR.out w4 _ (HV.out.2.2.later hb)).mono fun r w' ⟨e1, e3⟩ => ⟨e1, hb.trans (e3.mono hb.size)⟩
      obtain ⟨⟨a0, a1, a2⟩, -⟩ := HK.out V3 (Below.refl _ _)
      clear HG HU HR
      go_region_held3 (fun w' => (w'.cell? ⟨g6, 0, none⟩ = some (.bool s6) ∧ w'.cell? ⟨g6, 1, none⟩ = some (.slice ao6 n6 cap6) ∧ w'.cell? ⟨g6, 2, none⟩ = some (.int .i64 ex6)) ∧ Below V3.heap.size V3 w') (first | (with_reducible assumption) | exact ⟨⟨a0, a1, a2⟩, hBR⟩ | (refine HK.out _ ?_; first | (with_reducible assumption) | exact hBR) | go_keep)
        (first | (go_at_call 26; refine (qg _ hBR).mono ?_; rintro r w6 ⟨rfl, hb6⟩)
               | (go_at_call 25; refine (qu _ hb6).mono ?_; rintro r w7 ⟨rfl, hb7⟩)
               | (go_at_call 24; refine (qr _ hb7).mono ?_; rintro r w8 ⟨rfl, hb8⟩))
      have HF : Hid (Below w.heap.size w w8) := HV.out.1.trans (hb8.mono HV.out.1.size)
      clear hb6 hb7 hb8 qg qu qr HK hBR a0 a1 a2 HV
      go_wp2_with fail
      go_ret
      exact ⟨rfl, HF.out⟩
  · go_upto_region 12 with fail
    rw [← hV2]
    clear hV2
    generalize w2.heap.size = g6 at *
    have HK : Hid (∀ w', Below V2.heap.size V2 w' → (w'.cell? ⟨g6, 0, none⟩ = some (.bool s2) ∧ w'.cell? ⟨g6, 1, none⟩ = some (.slice ao2 n2 cap2) ∧ w'.cell? ⟨g6, 2, none⟩ = some (.int .i64 ex2)) ∧ Below V2.heap.size V2 w') := fun w' hb => ⟨(box_cells29 (box_later HY.out.2.1 hb (lt_of_box HY.out.2.1))).1, hb⟩
    have hBR : Below V2.heap.size V2 V2.drew := (Below.refl _ _).drew
    have qw : ∀ w4, Below V2.heap.size V2 w4 → Calls Tryz.prog 22 #[.int .i64 1] w4 fun r w' => ∃ A, r = .returned A ∧ DN w' A t1 ∧ (w'.cell? ⟨g6, 0, none⟩ = some (.bool s2) ∧ w'.cell? ⟨g6, 1, none⟩ = some (.slice ao2 n2 cap2) ∧ w'.cell? ⟨g6, 2, none⟩ = some (.int .i64 ex2)) ∧ Below V2.heap.size V2 w' := fun w4 hb => (HW.out w4).mono fun r w' ⟨A, e1, e2, e3⟩ => ⟨A, e1, e2, HK.out _ (hb.trans (e3.mono hb.size))⟩
    have qp : ∀ w4 Y, Below V2.heap.size V2 w4 → DN w4 Y t1 → Calls Tryz.prog 23 #[.agg #[.bool s2, .slice ao2 n2 cap2, .int .i64 ex2], Y] w4 fun r w' => ∃ s ao n cap e, r = .returned (.agg #[.bool s, .slice ao n cap, .int .i64 e]) ∧ DN w' (.agg #[.bool s, .slice ao n cap, .int .i64 e]) (tr 3) ∧ Below V2.heap.size V2 w' ∧ w'.heap[g6]? = some (.cells #[.bool s2, .slice ao2 n2 cap2, .int .i64 ex2] 34 (0, 0)) := fun w4 Y hb h => (HP.out w4 _ _ (HY.out.2.2.2.2.later hb) h).mono fun r w' ⟨s, ao, n, cap, e, e1, e2, e3⟩ => ⟨s, ao, n, cap, e, e1, e2, hb.trans (e3.mono hb.size), box_later HY.out.2.1 (hb.trans (e3.mono hb.size)) (lt_of_box HY.out.2.1)⟩
    obtain ⟨⟨a0, a1, a2⟩, -⟩ := HK.out V2 (Below.refl _ _)
    go_region_with (first | (go_at_call 22; refine (qw _ hBR).mono ?_; rintro r w5 ⟨A5, rfl, hP5, ⟨b0, b1, b2⟩, hb5⟩) | (go_at_call 23; refine (qp _ _ hb5 hP5).mono ?_; rintro r w6 ⟨s6, ao6, n6, cap6, ex6, rfl, hP6, hb6, hz6⟩; obtain ⟨⟨y0, y1, y2⟩, y3, y4, y5⟩ := box_cells29 hz6))
    all_goals
      obtain ⟨V3, hV3⟩ : ∃ V3, V3 = ((w6.setCell ⟨g6, 0, none⟩ (.bool s6)).setCell ⟨g6, 1, none⟩ (.slice ao6 n6 cap6)).setCell ⟨g6, 2, none⟩ (.int .i64 ex6) := ⟨_, rfl⟩
      have HV : Hid (Below w.heap.size w V3 ∧ V3.heap[g6]? = some (.cells #[.bool s6, .slice ao6 n6 cap6, .int .i64 ex6] 34 (0, 0)) ∧ DN V3 (.agg #[.bool s6, .slice ao6 n6 cap6, .int .i64 ex6]) (tr 3)) := by
        rw [hV3]
        exact ⟨below_store3 (HY.out.1.trans (hb6.mono HY.out.1.size)) hg6 _ _ _, store3_29 _ _ _ hz6, dn_storeG hP6 hz6 _ _ _⟩
      clear hP5 hb5 hP6 hb6 hz6 qw qp HK hBR a0 a1 a2 b0 b1 b2 HW HP HN HY
      go_upto_region 13 with fail
      rw [← hV3]
      clear hV3 y0 y1 y2 y3 y4 y5
      have HK : Hid (∀ w', Below V3.heap.size V3 w' → (w'.cell? ⟨g6, 0, none⟩ = some (.bool s6) ∧ w'.cell? ⟨g6, 1, none⟩ = some (.slice ao6 n6 cap6) ∧ w'.cell? ⟨g6, 2, none⟩ = some (.int .i64 ex6)) ∧ Below V3.heap.size V3 w') := fun w' hb => ⟨(box_cells29 (box_later HV.out.2.1 hb (lt_of_box HV.out.2.1))).1, hb⟩
      have hBR : Below V3.heap.size V3 V3.drew := (Below.refl _ _).drew
      have qg : ∀ w4, Below V3.heap.size V3 w4 → Calls Tryz.prog 26 #[.float .f64 a] w4 fun r w' => r = .returned (.bool ng) ∧ Below V3.heap.size V3 w' := fun w4 hb => (HG.out w4).mono fun r w' ⟨e1, e2⟩ => ⟨e1, by rw [e2]; exact hb⟩
      have qu : ∀ w4, Below V3.heap.size V3 w4 → Calls Tryz.prog 25 #[.bool ng] w4 fun r w' => r = .returned (.float .f64 z) ∧ Below V3.heap.size V3 w' := fun w4 hb => (HU.out w4).mono fun r w' ⟨e1, e2⟩ => ⟨e1, by rw [e2]; exact hb⟩
      have qr : ∀ w4, Below V3.heap.size V3 w4 → Calls Tryz.prog 24 #[.agg #[.bool s6, .slice ao6 n6 cap6, .int .i64 ex6], .int .i64 2, .float .f64 z] w4 fun r w' => r = .returned (.float .f64 F) ∧ Below V3.heap.size V3 w' := fun w4 hb => (HR.out w4 _ (HV.out.2.2.later hb)).mono fun r w' ⟨e1, e3⟩ => ⟨e1, hb.trans (e3.mono hb.size)⟩
      obtain ⟨⟨a0, a1, a2⟩, -⟩ := HK.out V3 (Below.refl _ _)
      clear HG HU HR
      go_region_held3 (fun w' => (w'.cell? ⟨g6, 0, none⟩ = some (.bool s6) ∧ w'.cell? ⟨g6, 1, none⟩ = some (.slice ao6 n6 cap6) ∧ w'.cell? ⟨g6, 2, none⟩ = some (.int .i64 ex6)) ∧ Below V3.heap.size V3 w') (first | (with_reducible assumption) | exact ⟨⟨a0, a1, a2⟩, hBR⟩ | (refine HK.out _ ?_; first | (with_reducible assumption) | exact hBR) | go_keep)
        (first | (go_at_call 26; refine (qg _ hBR).mono ?_; rintro r w6 ⟨rfl, hb6⟩)
               | (go_at_call 25; refine (qu _ hb6).mono ?_; rintro r w7 ⟨rfl, hb7⟩)
               | (go_at_call 24; refine (qr _ hb7).mono ?_; rintro r w8 ⟨rfl, hb8⟩))
      have HF : Hid (Below w.heap.size w w8) := HV.out.1.trans (hb8.mono HV.out.1.size)
      clear hb6 hb7 hb8 qg qu qr HK hBR a0 a1 a2 HV
      go_wp2_with fail
      go_ret
      exact ⟨rfl, HF.out⟩
end Go.Proofs.YtbpeijejanhihaaGreatDoor
