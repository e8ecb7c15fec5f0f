/- Own work: contracts of the program's functions, part 16: SB5 SA9 SB6 SB7 SE3 SE4. -/
import Derived.Test.YtajeodimbfppiaaGreatDoorA15
import Derived.Test.YtajeodimbfppiaaGreatDoorA10
import Derived.Test.YtajeodimbfppiaaGreatDoorA4
import Derived.Test.YtajeodimbfppiaaGreatDoorA14
import Derived.Test.YtajeodimbfppiaaGreatDoorA11

/- The program's leastRest: the least that is left. -/
namespace Go.Proofs.YtajeodimbfppiaaGreatDoor
set_option linter.unusedVariables false
set_option linter.unusedSimpArgs false
open Go.RowKit Go.Fl64

/-- a number in its box, made since a world -/
def BxP (w3 wc : World) (g : Nat) (s : Bool) (ao : Option Addr) (n cap : Nat) (ex : Int) (t : Bool × Nat × Int) : Prop := wc.heap[g]? = some (.cells #[.bool s, .slice ao n cap, .int .i64 ex] 45 (0, 0)) ∧ w3.heap.size ≤ g ∧ Below w3.heap.size w3 wc ∧ PN wc (.agg #[.bool s, .slice ao n cap, .int .i64 ex]) t
theorem BxP.new {w3 w7 : World} {s : Bool} {ao : Option Addr} {n cap : Nat} {ex : Int} {t : Bool × Nat × Int} (hn : PN w7 (.agg #[.bool s, .slice ao n cap, .int .i64 ex]) t) (hb : Below w3.heap.size w3 w7) : BxP w3 (w7.alloc (.cells #[.bool s, .slice ao n cap, .int .i64 ex] 45)) w7.heap.size s ao n cap ex t :=
  ⟨heap_alloc_new _ _, hb.size, hb.alloc hb.size _, hn.later ((Below.refl _ _).alloc (Nat.le_refl _) _)⟩
theorem BxP.put {w3 w7 : World} {g : Nat} {s : Bool} {ao : Option Addr} {n cap : Nat} {ex : Int} {t : Bool × Nat × Int} (hn : PN w7 (.agg #[.bool s, .slice ao n cap, .int .i64 ex]) t) (hb : Below w3.heap.size w3 w7) (hg : w3.heap.size ≤ g) (hbx : w7.heap[g]? = some (.cells #[.bool false, .slice none 0 0, .int .i64 0] 45 (0, 0))) :
    BxP w3 (((w7.setCell ⟨g, 0, none⟩ (.bool s)).setCell ⟨g, 1, none⟩ (.slice ao n cap)).setCell ⟨g, 2, none⟩ (.int .i64 ex)) g s ao n cap ex t :=
  ⟨store3 _ _ _ hbx, hg, below_store3 hb hg _ _ _, pn_store hn hbx _ _ _⟩

set_option maxHeartbeats 8000000 in
set_option maxRecDepth 200000 in
theorem lrest_g (s1 s2 : Bool) (ao1 ao2 : Option Addr) (n1 cap1 n2 cap2 : Nat) (ex1 ex2 c : Int) (ta tb tq tm tr tn tra tna : Bool × Nat × Int) (w : World) (hc : 0 < c)
    (hA : PN w (.agg #[.bool s1, .slice ao1 n1 cap1, .int .i64 ex1]) ta) (hB : PN w (.agg #[.bool s2, .slice ao2 n2 cap2, .int .i64 ex2]) tb)
    (kQ : ∀ W, Below w.heap.size w W → Calls Tryz.prog 120 #[.agg #[.bool s1, .slice ao1 n1 cap1, .int .i64 ex1], .agg #[.bool s2, .slice ao2 n2 cap2, .int .i64 ex2], .int .i64 0] W fun r w' => ∃ s ao n cap e x, r = .returned (.tuple #[.agg #[.bool s, .slice ao n cap, .int .i64 e], .bool x, .int .i64 0]) ∧ PN w' (.agg #[.bool s, .slice ao n cap, .int .i64 e]) tq ∧ Below W.heap.size W w')
    (kM : ∀ W X Y, Below w.heap.size w W → PN W X tq → PN W Y tb → Calls Tryz.prog 54 #[X, Y] W fun r w' => OutA W tm r w')
    (kT1 : ∀ W X Y, Below w.heap.size w W → PN W X ta → PN W Y tm → Calls Tryz.prog 121 #[X, Y] W fun r w' => OutA W tr r w')
    (kT2 : ∀ W X Y, Below w.heap.size w W → PN W X tr → PN W Y tb → Calls Tryz.prog 121 #[X, Y] W fun r w' => OutA W tn r w')
    (kA1 : ∀ W X, Below w.heap.size w W → PN W X tr → Calls Tryz.prog 123 #[X] W fun r w' => OutA W tra r w')
    (kA2 : ∀ W X, Below w.heap.size w W → PN W X tn → Calls Tryz.prog 123 #[X] W fun r w' => OutA W tna r w')
    (kC : ∀ W X Y, Below w.heap.size w W → PN W X tra → PN W Y tna → Calls Tryz.prog 122 #[X, Y] W fun r w' => r = .returned (.int .i64 c) ∧ Below W.heap.size W w') :
    Calls Tryz.prog 89 #[.agg #[.bool s1, .slice ao1 n1 cap1, .int .i64 ex1], .agg #[.bool s2, .slice ao2 n2 cap2, .int .i64 ex2]] w fun r w' => OutA w tn r w' := by
  have HQ : Hid (∀ W, Below w.heap.size w W → Calls Tryz.prog 120 #[.agg #[.bool s1, .slice ao1 n1 cap1, .int .i64 ex1], .agg #[.bool s2, .slice ao2 n2 cap2, .int .i64 ex2], .int .i64 0] W fun r w' => ∃ s ao n cap e x, r = .returned (.tuple #[.agg #[.bool s, .slice ao n cap, .int .i64 e], .bool x, .int .i64 0]) ∧ PN w' (.agg #[.bool s, .slice ao n cap, .int .i64 e]) tq ∧ Below W.heap.size W w') := kQ
  have HM : Hid (∀ W X Y, Below w.heap.size w W → PN W X tq → PN W Y tb → Calls Tryz.prog 54 #[X, Y] W fun r w' => OutA W tm r w') := kM
  have HT1 : Hid (∀ W X Y, Below w.heap.size w W → PN W X ta → PN W Y tm → Calls Tryz.prog 121 #[X, Y] W fun r w' => OutA W tr r w') := kT1
  have HT2 : Hid (∀ W X Y, Below w.heap.size w W → PN W X tr → PN W Y tb → Calls Tryz.prog 121 #[X, Y] W fun r w' => OutA W tn r w') := kT2
  have HA1 : Hid (∀ W X, Below w.heap.size w W → PN W X tr → Calls Tryz.prog 123 #[X] W fun r w' => OutA W tra r w') := kA1
  have HA2 : Hid (∀ W X, Below w.heap.size w W → PN W X tn → Calls Tryz.prog 123 #[X] W fun r w' => OutA W tna r w') := kA2
  have HC : Hid (∀ W X Y, Below w.heap.size w W → PN W X tra → PN W Y tna → Calls Tryz.prog 122 #[X, Y] W fun r w' => r = .returned (.int .i64 c) ∧ Below W.heap.size W w') := kC
  obtain ⟨W, hW⟩ : ∃ W, W = ((w.alloc (.cells #[.bool s1, .slice ao1 n1 cap1, .int .i64 ex1] 45)).alloc (.cells #[.bool s2, .slice ao2 n2 cap2, .int .i64 ex2] 45)).alloc (.cells #[.bool false, .slice none 0 0, .int .i64 0] 45) := ⟨_, rfl⟩
  obtain ⟨gA, gB, gZ, hsz, hBW⟩ := boxes3 _ _ _ hW
  have HX : Hid (Below w.heap.size w W ∧ W.heap[w.heap.size]? = some (.cells #[.bool s1, .slice ao1 n1 cap1, .int .i64 ex1] 45 (0, 0)) ∧ W.heap[w.heap.size + 1]? = some (.cells #[.bool s2, .slice ao2 n2 cap2, .int .i64 ex2] 45 (0, 0)) ∧ W.heap[w.heap.size + 1 + 1]? = some (.cells #[.bool false, .slice none 0 0, .int .i64 0] 45 (0, 0)) ∧ PN w (.agg #[.bool s1, .slice ao1 n1 cap1, .int .i64 ex1]) ta ∧ PN w (.agg #[.bool s2, .slice ao2 n2 cap2, .int .i64 ex2]) tb) := ⟨hBW, gA, gB, gZ, hA, hB⟩
  obtain ⟨⟨a0, a1, a2⟩, -⟩ := box_cells gA
  obtain ⟨⟨b0, b1, b2⟩, -⟩ := box_cells gB
  have k1 := kQ W hBW
  clear kQ kM kT1 kT2 kA1 kA2 kC gA gB gZ hsz hBW hA hB
  rw [hW] at a0 a1 a2 b0 b1 b2
  go_enter Tryz.func89, Tryz.ntmps89
  go_wp2_with fail
  rw [← hW]
  clear hW a0 a1 a2 b0 b1 b2
  refine k1.mono ?_
  rintro r w1 ⟨s3, ao3, n3, cap3, ex3, xq, rfl, hP3, hb1⟩
  clear k1
  obtain ⟨W1, hW1⟩ : ∃ W1, W1 = w1.alloc (.cells #[.bool s3, .slice ao3 n3 cap3, .int .i64 ex3] 45) := ⟨_, rfl⟩
  have hbW : Below W.heap.size W W1 := by rw [hW1]; exact hb1.alloc hb1.size _
  have HY : Hid (Below w.heap.size w W1 ∧ W1.heap[w.heap.size]? = some (.cells #[.bool s1, .slice ao1 n1 cap1, .int .i64 ex1] 45 (0, 0)) ∧ W1.heap[w.heap.size + 1]? = some (.cells #[.bool s2, .slice ao2 n2 cap2, .int .i64 ex2] 45 (0, 0)) ∧ W1.heap[w.heap.size + 1 + 1]? = some (.cells #[.bool false, .slice none 0 0, .int .i64 0] 45 (0, 0)) ∧ PN W1 (.agg #[.bool s1, .slice ao1 n1 cap1, .int .i64 ex1]) ta ∧ PN W1 (.agg #[.bool s2, .slice ao2 n2 cap2, .int .i64 ex2]) tb ∧ W1.heap[w1.heap.size]? = some (.cells #[.bool s3, .slice ao3 n3 cap3, .int .i64 ex3] 45 (0, 0)) ∧ PN W1 (.agg #[.bool s3, .slice ao3 n3 cap3, .int .i64 ex3]) tq) :=
    ⟨HX.out.1.trans (hbW.mono HX.out.1.size), box_later HX.out.2.1 hbW (lt_of_box HX.out.2.1), box_later HX.out.2.2.1 hbW (lt_of_box HX.out.2.2.1), box_later HX.out.2.2.2.1 hbW (lt_of_box HX.out.2.2.2.1), HX.out.2.2.2.2.1.later (HX.out.1.trans (hbW.mono HX.out.1.size)), HX.out.2.2.2.2.2.later (HX.out.1.trans (hbW.mono HX.out.1.size)), by rw [hW1]; exact heap_alloc_new _ _, by rw [hW1]; exact hP3.later ((Below.refl _ _).alloc (Nat.le_refl _) _)⟩
  clear hbW hP3 hb1
  go_upto_region 2 with fail
  rw [← hW1]
  clear hW1 HX
  generalize w1.heap.size = g3 at *
  have HK : Hid (∀ w', Below W1.heap.size W1 w' → ((w'.cell? ⟨w.heap.size, 0, none⟩ = some (.bool s1) ∧ w'.cell? ⟨w.heap.size, 1, none⟩ = some (.slice ao1 n1 cap1) ∧ w'.cell? ⟨w.heap.size, 2, none⟩ = some (.int .i64 ex1)) ∧ (w'.cell? ⟨w.heap.size + 1, 0, none⟩ = some (.bool s2) ∧ w'.cell? ⟨w.heap.size + 1, 1, none⟩ = some (.slice ao2 n2 cap2) ∧ w'.cell? ⟨w.heap.size + 1, 2, none⟩ = some (.int .i64 ex2)) ∧ (w'.cell? ⟨g3, 0, none⟩ = some (.bool s3) ∧ w'.cell? ⟨g3, 1, none⟩ = some (.slice ao3 n3 cap3) ∧ w'.cell? ⟨g3, 2, none⟩ = some (.int .i64 ex3))) ∧ Below W1.heap.size W1 w') := fun w' hb => ⟨⟨(box_cells (box_later HY.out.2.1 hb (lt_of_box HY.out.2.1))).1, (box_cells (box_later HY.out.2.2.1 hb (lt_of_box HY.out.2.2.1))).1, (box_cells (box_later HY.out.2.2.2.2.2.2.1 hb (lt_of_box HY.out.2.2.2.2.2.2.1))).1⟩, hb⟩
  have hBR : Below W1.heap.size W1 W1.drew := (Below.refl _ _).drew
  have km : ∀ w4, Below W1.heap.size W1 w4 → Calls Tryz.prog 54 #[.agg #[.bool s3, .slice ao3 n3 cap3, .int .i64 ex3], .agg #[.bool s2, .slice ao2 n2 cap2, .int .i64 ex2]] w4 fun r w' => ∃ s ao n cap e, r = .returned (.agg #[.bool s, .slice ao n cap, .int .i64 e]) ∧ PN w' (.agg #[.bool s, .slice ao n cap, .int .i64 e]) tm ∧ Below W1.heap.size W1 w' ∧ Hid (∀ g o, w4.heap[g]? = some o → w'.heap[g]? = some o) := fun w4 hb =>
    (HM.out w4 _ _ (HY.out.1.trans (hb.mono HY.out.1.size)) (HY.out.2.2.2.2.2.2.2.later hb) (HY.out.2.2.2.2.2.1.later hb)).mono fun r w' ⟨s, ao, n, cap, e, e1, o1, o2⟩ => ⟨s, ao, n, cap, e, e1, o1, hb.trans (o2.mono hb.size), fun g o hg => box_later hg o2 (lt_of_box hg)⟩
  have kt : ∀ w4 Y, Below W1.heap.size W1 w4 → PN w4 Y tm → Calls Tryz.prog 121 #[.agg #[.bool s1, .slice ao1 n1 cap1, .int .i64 ex1], Y] w4 fun r w' => ∃ s ao n cap e, r = .returned (.agg #[.bool s, .slice ao n cap, .int .i64 e]) ∧ PN w' (.agg #[.bool s, .slice ao n cap, .int .i64 e]) tr ∧ Below W1.heap.size W1 w' ∧ Hid (∀ g o, w4.heap[g]? = some o → w'.heap[g]? = some o) := fun w4 Y hb h2 =>
    (HT1.out w4 _ _ (HY.out.1.trans (hb.mono HY.out.1.size)) (HY.out.2.2.2.2.1.later hb) h2).mono fun r w' ⟨s, ao, n, cap, e, e1, o1, o2⟩ => ⟨s, ao, n, cap, e, e1, o1, hb.trans (o2.mono hb.size), fun g o hg => box_later hg o2 (lt_of_box hg)⟩
  obtain ⟨⟨⟨a0, a1, a2⟩, ⟨b0, b1, b2⟩, ⟨c0, c1, c2⟩⟩, -⟩ := HK.out W1 (Below.refl _ _)
  go_cut [8] from 18 to 22 (fun p wx => ∃ g s ao n cap ex, p = .pointer (some ⟨g, 0, none⟩) ∧ Hid (BxP W1 wx g s ao n cap ex tr))
  case first =>
    go_region_held3 (fun w' => ((w'.cell? ⟨w.heap.size, 0, none⟩ = some (.bool s1) ∧ w'.cell? ⟨w.heap.size, 1, none⟩ = some (.slice ao1 n1 cap1) ∧ w'.cell? ⟨w.heap.size, 2, none⟩ = some (.int .i64 ex1)) ∧ (w'.cell? ⟨w.heap.size + 1, 0, none⟩ = some (.bool s2) ∧ w'.cell? ⟨w.heap.size + 1, 1, none⟩ = some (.slice ao2 n2 cap2) ∧ w'.cell? ⟨w.heap.size + 1, 2, none⟩ = some (.int .i64 ex2)) ∧ (w'.cell? ⟨g3, 0, none⟩ = some (.bool s3) ∧ w'.cell? ⟨g3, 1, none⟩ = some (.slice ao3 n3 cap3) ∧ w'.cell? ⟨g3, 2, none⟩ = some (.int .i64 ex3))) ∧ Below W1.heap.size W1 w') (first | (with_reducible assumption) | exact ⟨⟨⟨a0, a1, a2⟩, ⟨b0, b1, b2⟩, ⟨c0, c1, c2⟩⟩, hBR⟩ | (refine HK.out _ ?_; with_reducible assumption) | (refine HK.out _ ?_; refine Below.alloc (by with_reducible assumption) (Below.size (by with_reducible assumption)) _) | (refine HK.out _ (below_store3 (by first | (with_reducible assumption) | exact hb7.alloc hb7.size _) (by first | exact Nat.le_refl _ | exact hb5.size | exact hb7.size) _ _ _)) | go_keep)
      (first | (go_at_call 54; refine (km _ (by first | (with_reducible assumption) | exact hBR.alloc hBR.size _)).mono ?_; rintro r w5 ⟨s5, ao5, n5, cap5, ex5, rfl, ho5, hb5, hk5⟩; first | (have HBY : Hid (w5.heap[W1.heap.size]? = some (.cells #[.bool false, .slice none 0 0, .int .i64 0] 45 (0, 0))) := hk5.out _ _ (heap_alloc_new W1.drew _)) | (have HBY : Hid True := trivial))
             | (go_at_call 121; refine (kt _ _ (by first | (with_reducible assumption) | exact hb5.alloc hb5.size _) (by first | (with_reducible assumption) | exact ho5.later ((Below.refl _ _).alloc (Nat.le_refl _) _))).mono ?_; rintro r w7 ⟨s7, ao7, n7, cap7, ex7, rfl, hn7, hb7, hk7⟩; first | (have HBZ := hidOf (hk7.out _ _ HBY.out); obtain ⟨⟨x1, x2, x3⟩, x4, x5, x6⟩ := box_cells HBZ.out) | (have HBZ : Hid (w7.heap[w5.heap.size]? = some (.cells #[.bool false, .slice none 0 0, .int .i64 0] 45 (0, 0))) := hk7.out _ _ (heap_alloc_new w5 _); obtain ⟨⟨x1, x2, x3⟩, x4, x5, x6⟩ := box_cells HBZ.out) | (have HBZ : Hid True := trivial)))
    all_goals go_wp2_with fail
    all_goals go_meet
    all_goals first
      | exact ⟨_, _, _, _, _, _, rfl, BxP.new hn7 hb7⟩
      | exact ⟨_, _, _, _, _, _, rfl, BxP.put hn7 hb7 hb5.size HBZ.out⟩
      | exact ⟨_, _, _, _, _, _, rfl, BxP.put hn7 hb7 (Nat.le_refl _) HBZ.out⟩
  case rest =>
    obtain ⟨W2, rfl⟩ : ∃ W2 : World, W2 = wc := ⟨_, rfl⟩
    obtain ⟨g4, s4, ao4, n4, cap4, ex4, rfl, HR⟩ := hcut
    clear km kt HK hBR a0 a1 a2 b0 b1 b2 c0 c1 c2
    have HS : Hid (Below w.heap.size w W2 ∧ W2.heap[w.heap.size + 1]? = some (.cells #[.bool s2, .slice ao2 n2 cap2, .int .i64 ex2] 45 (0, 0)) ∧ W2.heap[w.heap.size + 1 + 1]? = some (.cells #[.bool false, .slice none 0 0, .int .i64 0] 45 (0, 0)) ∧ PN W2 (.agg #[.bool s2, .slice ao2 n2 cap2, .int .i64 ex2]) tb ∧ W2.heap[g4]? = some (.cells #[.bool s4, .slice ao4 n4 cap4, .int .i64 ex4] 45 (0, 0)) ∧ PN W2 (.agg #[.bool s4, .slice ao4 n4 cap4, .int .i64 ex4]) tr) :=
      ⟨HY.out.1.trans (HR.out.2.2.1.mono HY.out.1.size), box_later HY.out.2.2.1 HR.out.2.2.1 (lt_of_box HY.out.2.2.1), box_later HY.out.2.2.2.1 HR.out.2.2.1 (lt_of_box HY.out.2.2.2.1), HY.out.2.2.2.2.2.1.later HR.out.2.2.1, HR.out.1, HR.out.2.2.2⟩
    clear HY HR
    obtain ⟨⟨b0, b1, b2⟩, -⟩ := box_cells HS.out.2.1
    obtain ⟨⟨d0, d1, d2⟩, -⟩ := box_cells HS.out.2.2.2.2.1
    have k3 := HT2.out W2 _ _ HS.out.1 HS.out.2.2.2.2.2 HS.out.2.2.2.1
    go_wp2_with fail
    refine k3.mono ?_
    rintro r w3 ⟨s5, ao5, n5, cap5, ex5, rfl, hP5, hb3⟩
    clear k3 b0 b1 b2 d0 d1 d2
    obtain ⟨W3, hW3⟩ : ∃ W3, W3 = w3.alloc (.cells #[.bool s5, .slice ao5 n5 cap5, .int .i64 ex5] 45) := ⟨_, rfl⟩
    have hbW : Below W2.heap.size W2 W3 := by rw [hW3]; exact hb3.alloc hb3.size _
    have HV : Hid (Below w.heap.size w W3 ∧ W3.heap[w.heap.size + 1 + 1]? = some (.cells #[.bool false, .slice none 0 0, .int .i64 0] 45 (0, 0)) ∧ W3.heap[g4]? = some (.cells #[.bool s4, .slice ao4 n4 cap4, .int .i64 ex4] 45 (0, 0)) ∧ PN W3 (.agg #[.bool s4, .slice ao4 n4 cap4, .int .i64 ex4]) tr ∧ W3.heap[w3.heap.size]? = some (.cells #[.bool s5, .slice ao5 n5 cap5, .int .i64 ex5] 45 (0, 0)) ∧ PN W3 (.agg #[.bool s5, .slice ao5 n5 cap5, .int .i64 ex5]) tn) :=
      ⟨HS.out.1.trans (hbW.mono HS.out.1.size), box_later HS.out.2.2.1 hbW (lt_of_box HS.out.2.2.1), box_later HS.out.2.2.2.2.1 hbW (lt_of_box HS.out.2.2.2.2.1), HS.out.2.2.2.2.2.later hbW, by rw [hW3]; exact heap_alloc_new _ _, by rw [hW3]; exact hP5.later ((Below.refl _ _).alloc (Nat.le_refl _) _)⟩
    clear hbW hP5 hb3
    go_upto_region 4 with fail
    rw [← hW3]
    clear hW3 HS
    generalize w3.heap.size = g5 at *
    have HK : Hid (∀ w', Below W3.heap.size W3 w' → ((w'.cell? ⟨g4, 0, none⟩ = some (.bool s4) ∧ w'.cell? ⟨g4, 1, none⟩ = some (.slice ao4 n4 cap4) ∧ w'.cell? ⟨g4, 2, none⟩ = some (.int .i64 ex4)) ∧ (w'.cell? ⟨g5, 0, none⟩ = some (.bool s5) ∧ w'.cell? ⟨g5, 1, none⟩ = some (.slice ao5 n5 cap5) ∧ w'.cell? ⟨g5, 2, none⟩ = some (.int .i64 ex5))) ∧ Below W3.heap.size W3 w') := fun w' hb => ⟨⟨(box_cells (box_later HV.out.2.2.1 hb (lt_of_box HV.out.2.2.1))).1, (box_cells (box_later HV.out.2.2.2.2.1 hb (lt_of_box HV.out.2.2.2.2.1))).1⟩, hb⟩
    have hBR : Below W3.heap.size W3 W3.drew := (Below.refl _ _).drew
    have ka1 : ∀ w4, Below W3.heap.size W3 w4 → Calls Tryz.prog 123 #[.agg #[.bool s4, .slice ao4 n4 cap4, .int .i64 ex4]] w4 fun r w' => ∃ s ao n cap e, r = .returned (.agg #[.bool s, .slice ao n cap, .int .i64 e]) ∧ PN w' (.agg #[.bool s, .slice ao n cap, .int .i64 e]) tra ∧ Below W3.heap.size W3 w' := fun w4 hb =>
      (HA1.out w4 _ (HV.out.1.trans (hb.mono HV.out.1.size)) (HV.out.2.2.2.1.later hb)).mono fun r w' ⟨s, ao, n, cap, e, e1, o1, o2⟩ => ⟨s, ao, n, cap, e, e1, o1, hb.trans (o2.mono hb.size)⟩
    have ka2 : ∀ w4, Below W3.heap.size W3 w4 → Calls Tryz.prog 123 #[.agg #[.bool s5, .slice ao5 n5 cap5, .int .i64 ex5]] w4 fun r w' => ∃ s ao n cap e, r = .returned (.agg #[.bool s, .slice ao n cap, .int .i64 e]) ∧ PN w' (.agg #[.bool s, .slice ao n cap, .int .i64 e]) tna ∧ Below W3.heap.size W3 w' ∧ Hid (Below w4.heap.size w4 w') := fun w4 hb =>
      (HA2.out w4 _ (HV.out.1.trans (hb.mono HV.out.1.size)) (HV.out.2.2.2.2.2.later hb)).mono fun r w' ⟨s, ao, n, cap, e, e1, o1, o2⟩ => ⟨s, ao, n, cap, e, e1, o1, hb.trans (o2.mono hb.size), o2⟩
    have kc : ∀ w4 X Y, Below W3.heap.size W3 w4 → PN w4 X tra → PN w4 Y tna → Calls Tryz.prog 122 #[X, Y] w4 fun r w' => r = .returned (.int .i64 c) ∧ Below W3.heap.size W3 w' := fun w4 X Y hb h1 h2 =>
      (HC.out w4 _ _ (HV.out.1.trans (hb.mono HV.out.1.size)) h1 h2).mono fun r w' ⟨e1, o2⟩ => ⟨e1, hb.trans (o2.mono hb.size)⟩
    obtain ⟨⟨⟨d0, d1, d2⟩, ⟨e0, e1, e2⟩⟩, -⟩ := HK.out W3 (Below.refl _ _)
    go_region_held3 (fun w' => ((w'.cell? ⟨g4, 0, none⟩ = some (.bool s4) ∧ w'.cell? ⟨g4, 1, none⟩ = some (.slice ao4 n4 cap4) ∧ w'.cell? ⟨g4, 2, none⟩ = some (.int .i64 ex4)) ∧ (w'.cell? ⟨g5, 0, none⟩ = some (.bool s5) ∧ w'.cell? ⟨g5, 1, none⟩ = some (.slice ao5 n5 cap5) ∧ w'.cell? ⟨g5, 2, none⟩ = some (.int .i64 ex5))) ∧ Below W3.heap.size W3 w') (first | (with_reducible assumption) | exact ⟨⟨⟨d0, d1, d2⟩, ⟨e0, e1, e2⟩⟩, hBR⟩ | (refine HK.out _ ?_; with_reducible assumption) | go_keep)
      (first | (go_at_call 123; first | (have hq := hP6; clear hq; refine (ka2 _ hb6).mono ?_; rintro r w7 ⟨s7, ao7, n7, cap7, ex7, rfl, hP7, hb7, hk7⟩) | (refine (ka1 _ hBR).mono ?_; rintro r w6 ⟨s6, ao6, n6, cap6, ex6, rfl, hP6, hb6⟩))
             | (go_at_call 122; refine (kc _ _ _ hb7 (hP6.later hk7.out) hP7).mono ?_; rintro r w8 ⟨rfl, hb8⟩))
    all_goals
      have HF : Hid (Below w.heap.size w w8 ∧ w8.heap[w.heap.size + 1 + 1]? = some (.cells #[.bool false, .slice none 0 0, .int .i64 0] 45 (0, 0)) ∧ PN w8 (.agg #[.bool s5, .slice ao5 n5 cap5, .int .i64 ex5]) tn ∧ w8.heap[g5]? = some (.cells #[.bool s5, .slice ao5 n5 cap5, .int .i64 ex5] 45 (0, 0))) := ⟨HV.out.1.trans (hb8.mono HV.out.1.size), box_later HV.out.2.1 hb8 (lt_of_box HV.out.2.1), HV.out.2.2.2.2.2.later hb8, box_later HV.out.2.2.2.2.1 hb8 (lt_of_box HV.out.2.2.2.2.1)⟩
      clear hP6 hb6 hP7 hb7 hk7 hb8 ka1 ka2 kc HK hBR d0 d1 d2 e0 e1 e2
      obtain ⟨⟨e0, e1, e2⟩, -⟩ := box_cells HF.out.2.2.2
      obtain ⟨⟨z0, z1, z2⟩, z3, z4, z5⟩ := box_cells HF.out.2.1
      go_wp2_with fail
      refine bodyPost_ret (results_cell_row rfl _ _ (w.heap.size + 1 + 1) 45 #[.bool s5, .slice ao5 n5 cap5, .int .i64 ex5] (0, 0) _ rfl (store3 _ _ _ HF.out.2.1) Tryz.underlying45 rfl Tryz.info45) rfl ?_
      exact ⟨_, _, _, _, _, rfl, pn_store HF.out.2.2.1 HF.out.2.1 _ _ _, below_store3 HF.out.1 (by omega) _ _ _⟩
end Go.Proofs.YtajeodimbfppiaaGreatDoor

/- Sub of floats, and the walk of RoundSums. -/
namespace Go.Proofs.YtajeodimbfppiaaGreatDoor
set_option linter.unusedVariables false
set_option linter.unusedSimpArgs false
open Go.RowKit Go.Fl64

/-- the law's 'same', of answers that are alike -/
theorem lsame_ok {n X : Nat} (h : lk n X) (hX : X < 18446744073709551616) (w : World) : Calls Tryz.prog 9 #[.float .f64 n, .float .f64 X] w fun r w' => r = .returned (.bool true) ∧ w' = w := by
  have := Ie.lsame n X h.1 hX w
  rw [h.2] at this
  exact this

end Go.Proofs.YtajeodimbfppiaaGreatDoor

/- The law's own test of layer 3: it answers true. -/
namespace Go.Proofs.YtajeodimbfppiaaGreatDoor
set_option linter.unusedVariables false
set_option linter.unusedSimpArgs false
open Go.RowKit Go.Fl64

theorem pabs {t : Bool × Nat × Int} {A : Value} {w : World} (ok : Ok t) (h : PN w A t) : Calls Tryz.prog 123 #[A] w fun r w' => OutA w (false, t.2.1, t.2.2) r w' := by
  obtain ⟨ao, cap, rfl, h1⟩ := h
  obtain ⟨f1, -, -, -, -⟩ := ok.facts
  refine (abs_ok (ea := t.2.2) h1 (by omega) ok).mono ?_
  rintro r w' ⟨v, rfl, ho, hb⟩
  obtain ⟨ao', cap', rfl, h2, h3, h4⟩ := ho.is
  exact ⟨_, _, _, _, _, rfl, ⟨ao', cap', rfl, ao', cap', rfl, h2, h3, h4⟩, hb⟩
theorem pcmp {t1 t2 : Bool × Nat × Int} {X Y : Value} {w : World} (o1 : Ok t1) (o2 : Ok t2) (h1 : PN w X t1) (h2 : PN w Y t2) : Calls Tryz.prog 122 #[X, Y] w fun r w' => r = .returned (.int .i64 (ordN t1.1 t1.2.1 t1.2.2 t2.1 t2.2.1 t2.2.2)) ∧ Below w.heap.size w w' := by
  obtain ⟨ao, cap, rfl, i1⟩ := h1
  obtain ⟨ao', cap', rfl, i2⟩ := h2
  obtain ⟨f1, f2, f3, -, -⟩ := o1.facts
  obtain ⟨g1, g2, g3, -, -⟩ := o2.facts
  exact cmp_ok i1 i2 (by omega) (by omega) (by omega) (by omega) o1 o2

theorem tF5 : tF 4617315517961601024 = (false, 5, 0) := by decide +kernel
theorem tF3 : tF 4613937818241073152 = (false, 3, 0) := by decide +kernel
theorem okT5 : Ok (false, 5, 0) := by rw [← tF5]; exact tF_ok _
theorem okT3 : Ok (false, 3, 0) := by rw [← tF3]; exact tF_ok _
theorem okT1 : Ok (false, 1, 0) := (by decide +kernel : okN false (dlen 1) 1 0 = true)
theorem okT1n : Ok (true, 1, 0) := (by decide +kernel : okN true (dlen 1) 1 0 = true)
theorem okT2 : Ok (false, 1, 1) := (by decide +kernel : okN false (dlen 1) 1 1 = true)

theorem sure_least (s1 s2 : Bool) (ao1 ao2 : Option Addr) (n1 cap1 n2 cap2 : Nat) (ex1 ex2 : Int) (w : World) (hT : Tab32 w) (h1 : PN w (.agg #[.bool s1, .slice ao1 n1 cap1, .int .i64 ex1]) (false, 5, 0)) (h2 : PN w (.agg #[.bool s2, .slice ao2 n2 cap2, .int .i64 ex2]) (false, 3, 0)) :
    Calls Tryz.prog 89 #[.agg #[.bool s1, .slice ao1 n1 cap1, .int .i64 ex1], .agg #[.bool s2, .slice ao2 n2 cap2, .int .i64 ex2]] w fun r w' => OutA w (true, 1, 0) r w' := by
  have m1 := mul_op okT1 okT3 (by decide +kernel)
  have u1 := sub_op okT5 okT3 (by decide +kernel)
  have u2 := sub_op okT2 okT3 (by decide +kernel)
  rw [show cn (!((false, (1 : Nat), (0 : Int)).1 == (false, (3 : Nat), (0 : Int)).1)) ((false, (1 : Nat), (0 : Int)).2.1 * (false, (3 : Nat), (0 : Int)).2.1) ((false, (1 : Nat), (0 : Int)).2.2 + (false, (3 : Nat), (0 : Int)).2.2) = (false, 3, 0) by decide +kernel] at m1
  refine lrest_g s1 s2 ao1 ao2 n1 cap1 n2 cap2 ex1 ex2 1 (false, 5, 0) (false, 3, 0) (false, 1, 0) (false, 3, 0) (false, 1, 1) (true, 1, 0) (false, 1, 1) (false, 1, 0) w (by decide) h1 h2 (fun W h => ?_) (fun W X Y h p q => multiplied_op m1 (hT.later h) p q) (fun W X Y h p q => ?_) (fun W X Y h p q => ?_) (fun W X h p => pabs okT2 p) (fun W X h p => pabs okT1n p) (fun W X Y h p q => ?_)
  · obtain ⟨ao, cap, e1, i1⟩ := h1.later h
    obtain ⟨ao', cap', e2, i2⟩ := h2.later h
    rw [e1, e2]
    have k := c44 (na := false) (nb := false) (ea := 0) (eb := 0) (place := 0) i1 i2 (hT.later h) (by decide) (by have := okT5.facts; omega) (by have := okT3.facts; omega) okT5 okT3 (by omega) (by omega) (by omega) 5 3 (by decide) (by decide)
    rw [show (if (false != false) && !(decide (5 % 3 = 0)) then 5 / 3 + 1 else 5 / 3) = 1 by decide] at k
    refine Calls.mono k ?_
    intro r w' hh
    obtain ⟨s, a, n, c, e, q1, q2, q3⟩ := held3_pn hh (by decide +kernel)
    rw [show cn (false != false) 1 (-0) = (false, 1, 0) by decide +kernel] at q2
    exact ⟨s, a, n, c, e, _, q1, q2, q3⟩
  · have := taken_op u1 (hT.later h) p q
    rw [show cn _ _ _ = (false, 1, 1) by decide +kernel] at this
    exact this
  · have := taken_op u2 (hT.later h) p q
    rw [show cn _ _ _ = (true, 1, 0) by decide +kernel] at this
    exact this
  · have := pcmp okT2 okT1 p q
    rw [show ordN _ _ _ _ _ _ = 1 by decide +kernel] at this
    exact this

set_option maxHeartbeats 4000000 in
set_option maxRecDepth 200000 in
theorem sure_rest (w : World) (hT : Tab32 w) (hI : Ie.Tab w) : Calls Tryz.prog 52 #[.float .f64 4617315517961601024, .float .f64 4613937818241073152] w fun r w' => r = .returned (.float .f64 13830554455654793216) ∧ Below w.heap.size w w' := by
  have e1 : (FloatKind.f64.format.order 4617315517961601024 4617315517961601024 != some Ordering.eq) = false := by decide +kernel
  have e2 : (FloatKind.f64.format.order 4613937818241073152 4613937818241073152 != some Ordering.eq) = false := by decide +kernel
  have e3 : (FloatKind.f64.format.order 4613937818241073152 0 == some Ordering.eq) = false := by decide +kernel
  have e4 : (FloatKind.f64.format.order 13830554455654793216 0 == some Ordering.eq) = false := by decide +kernel
  have i1 := pinf_n 4617315517961601024 (by decide) (by decide) w
  have i2 := pinf_n 4613937818241073152 (by decide) (by decide) w
  have kA := exact_ok 4617315517961601024 (by decide) (by decide) w hT hI
  rw [tF5] at kA
  have HKB : Hid (∀ W, Below w.heap.size w W → Calls Tryz.prog 41 #[.float .f64 4613937818241073152] W fun r w' => OutA W (false, 3, 0) r w') := fun W h => by
    have := exact_ok 4613937818241073152 (by decide) (by decide) W (hT.later h) (Tab.later hI h)
    rw [tF3] at this
    exact this
  have HT : Hid (Tab32 w) := hT
  clear hT hI
  go_enter Tryz.func52, Tryz.ntmps52
  go_wp2_with fail
  refine i1.mono ?_
  rintro r w' ⟨rfl, hw⟩
  rw [hw]
  clear hw i1 w'
  go_wp2_with fail
  refine i2.mono ?_
  rintro r w' ⟨rfl, hw⟩
  rw [hw]
  clear hw i2 w'
  go_wp2_with fail
  refine kA.mono ?_
  rintro r w1 ⟨s1, ao1, n1, cap1, ex1, rfl, hP1, hb1⟩
  have k2 := HKB.out w1 hb1
  clear kA
  go_wp2_with fail
  refine k2.mono ?_
  rintro r w2 ⟨s2, ao2, n2, cap2, ex2, rfl, hP2, hb2⟩
  have HB2 : Hid (Below w.heap.size w w2) := hb1.trans (hb2.mono hb1.size)
  have k3 := sure_least _ _ _ _ _ _ _ _ _ _ w2 (HT.out.later HB2.out) (hP1.later hb2) hP2
  clear k2 hP1 hP2 hb1 hb2
  go_wp2_with fail
  refine k3.mono ?_
  rintro r w3 ⟨s3, ao3, n3, cap3, ex3, rfl, hP3, hb3⟩
  have HB3 : Hid (Below w.heap.size w w3) := HB2.out.trans (hb3.mono HB2.out.size)
  have k4 := prounded (m := 2) (HT.out.later HB3.out) okT1n hP3 (by omega)
  rw [show tfF (true, (1 : Nat), (0 : Int)).1 true (true, (1 : Nat), (0 : Int)).2.1 (true, (1 : Nat), (0 : Int)).2.2 2 = 13830554455654793216 by decide +kernel] at k4
  clear k3 hP3 hb3
  go_wp2_with fail
  refine k4.mono ?_
  rintro r w4 ⟨rfl, hb4⟩
  have HB4 : Hid (Below w.heap.size w w4) := HB3.out.trans (hb4.mono HB3.out.size)
  clear k4 hb4
  go_wp2_with fail
  go_ret
  exact ⟨rfl, HB4.out⟩
end Go.Proofs.YtajeodimbfppiaaGreatDoor

/- The law's own test answers true; RoundSums. -/
namespace Go.Proofs.YtajeodimbfppiaaGreatDoor
set_option linter.unusedVariables false
set_option linter.unusedSimpArgs false
open Go.RowKit Go.Fl64

theorem sure_add_ok (w : World) (hT : Tab32 w) (hI : Ie.Tab w) : Calls Tryz.prog 10 #[.float .f64 4607182418800017408, .float .f64 4611686018427387904, .int .i64 2] w fun r w' => r = .returned (.float .f64 4613937818241073152) ∧ Below w.heap.size w w' := by
  obtain ⟨X, h1, -, h3, -, h5⟩ := join_FAdd 4607182418800017408 4611686018427387904 2 (by decide) (by decide)
  have e := h5 (by decide) (by decide) (by decide)
  rw [sure_add] at e
  subst e
  refine (h3 w hT hI).mono ?_
  rintro r w' ⟨n, rfl, hl, hb⟩
  exact ⟨by rw [hl.eq (by decide)], hb⟩

set_option maxHeartbeats 4000000 in
set_option maxRecDepth 200000 in
theorem sure_ok (w : World) (hT : Tab32 w) (hI : Ie.Tab w) : Calls Tryz.prog 16 #[] w fun r w' => r = .returned (.bool true) ∧ Below w.heap.size w w' := by
  have e1 : (FloatKind.f64.format.order 4613937818241073152 4613937818241073152 == some Ordering.eq) = true := by decide +kernel
  have e2 : (FloatKind.f64.format.order 4599676419421066582 4599676419421066581 == some Ordering.gt) = true := by decide +kernel
  have e3 : (FloatKind.f64.format.order 4617315517961601024 4617315517961601024 == some Ordering.eq) = true := by decide +kernel
  have e4 : (FloatKind.f64.format.order 4611686018427387904 4611686018427387904 == some Ordering.eq) = true := by decide +kernel
  have e5 : (FloatKind.f64.format.order 13830554455654793216 13830554455654793216 == some Ordering.eq) = true := by decide +kernel
  have HT : Hid (∀ W, Below w.heap.size w W → Tab32 W ∧ Ie.Tab W) := fun W h => ⟨hT.later h, Tab.later hI h⟩
  have kk := sure_add_ok w hT hI
  clear hT hI
  go_enter Tryz.func16, Tryz.ntmps16
  go_wp2_with fail
  refine kk.mono ?_
  rintro r w1 ⟨rfl, hb1⟩
  have HB1 : Hid (Below w.heap.size w w1) := hb1
  clear kk hb1
  have kk := pdiv_ok 4607182418800017408 4613937818241073152 3 w1 (by decide) (HT.out w1 HB1.out).1 (HT.out w1 HB1.out).2 (by decide) (by decide) (by decide) (by decide) (by decide) (by decide) (tF_ne (by decide)) (tF_ne (by decide))
  rw [sure_div3] at kk
  go_wp2_with fail
  refine kk.mono ?_
  rintro r w2 ⟨rfl, hb2⟩
  have HB2 : Hid (Below w.heap.size w w2) := HB1.out.trans (hb2.mono HB1.out.size)
  clear kk hb2
  have kk := pdiv_ok 4607182418800017408 4613937818241073152 1 w2 (by decide) (HT.out w2 HB2.out).1 (HT.out w2 HB2.out).2 (by decide) (by decide) (by decide) (by decide) (by decide) (by decide) (tF_ne (by decide)) (tF_ne (by decide))
  rw [sure_div1] at kk
  go_wp2_with fail
  refine kk.mono ?_
  rintro r w3 ⟨rfl, hb3⟩
  have HB3 : Hid (Below w.heap.size w w3) := HB2.out.trans (hb3.mono HB2.out.size)
  clear kk hb3
  have kk := sure_hyp w3 (HT.out w3 HB3.out).1 (HT.out w3 HB3.out).2
  go_wp2_with fail
  refine kk.mono ?_
  rintro r w4 ⟨rfl, hb4⟩
  have HB4 : Hid (Below w.heap.size w w4) := HB3.out.trans (hb4.mono HB3.out.size)
  clear kk hb4
  have kk := pvalid 3 w4
  rw [show isM 3 = true by decide] at kk
  go_wp2_with fail
  refine kk.mono ?_
  rintro r w' ⟨rfl, hw⟩
  rw [hw]
  clear hw kk w'
  have kk := pvalid 0 w4
  rw [show isM 0 = false by decide] at kk
  go_wp2_with fail
  refine kk.mono ?_
  rintro r w' ⟨rfl, hw⟩
  rw [hw]
  clear hw kk w'
  have kk := sure_whole w4
  go_wp2_with fail
  refine kk.mono ?_
  rintro r w' ⟨rfl, hw⟩
  rw [hw]
  clear hw kk w'
  have kk := sure_rest w4 (HT.out w4 HB4.out).1 (HT.out w4 HB4.out).2
  go_wp2_with fail
  refine kk.mono ?_
  rintro r w5 ⟨rfl, hb5⟩
  have HB5 : Hid (Below w.heap.size w w5) := HB4.out.trans (hb5.mono HB4.out.size)
  clear kk hb5
  go_wp2_with fail
  go_ret
  exact ⟨rfl, HB5.out⟩

end Go.Proofs.YtajeodimbfppiaaGreatDoor

/- Fma of floats: the program and the document answer alike. -/
namespace Go.Proofs.YtajeodimbfppiaaGreatDoor
set_option linter.unusedVariables false
set_option linter.unusedSimpArgs false
open Go.RowKit Go.Fl64

theorem nan_sig {s : Bool} {n : Nat} (h : n ≤ 9218868437227405312) : isNaN (sig s n) = false := by
  unfold isNaN sig mag
  cases s <;> simp <;> omega
theorem mag_sig' {s : Bool} {n : Nat} (h : n ≤ 9218868437227405312) : mag (sig s n) = n := by
  unfold sig mag
  cases s <;> simp <;> omega
theorem fMul_num {a b : Nat} (fa : mag a < 9218868437227405312) (fb : mag b < 9218868437227405312) : isNaN (fMul a b 2) = false := by
  unfold fMul
  rw [if_neg (by decide)]
  split
  · unfold mulX
    rw [nan_no (a := a) (by omega), nan_no (a := b) (by omega), if_neg (by decide), if_neg (by omega)]
    exact nan_sig (by omega)
  · rw [tf_bdy (by omega)]
    exact nan_sig (bdy_le _ _ _)
theorem fMul_non {a b : Nat} (h : ¬ mag a < 9218868437227405312 ∨ ¬ mag b < 9218868437227405312) : fMul a b 2 = mulX a b := by
  unfold fMul
  rw [if_neg (by decide), if_pos]
  rcases h with h | h
  · exact .inl (pln_false.2 (.inl h))
  · exact .inr (pln_false.2 (.inl h))
/-- the product where one is not finite: a NaN or an infinity -/
theorem mulX_non {a b : Nat} (h : ¬ mag a < 9218868437227405312 ∨ ¬ mag b < 9218868437227405312) : (isNaN (mulX a b) = true ∧ mulX a b = 9221120237041090560) ∨ (mag (mulX a b) = 9218868437227405312 ∧ isNaN a = false ∧ isNaN b = false ∧ (Ie.isInf a || Ie.isInf b) = true) := by
  unfold mulX
  by_cases hn : (isNaN a || isNaN b) = true
  · rw [if_pos hn]
    exact .inl ⟨nan_x, rfl⟩
  · rw [if_neg hn]
    have hn' : (isNaN a || isNaN b) = false := by simpa using hn
    simp only [Bool.or_eq_false_iff] at hn'
    obtain ⟨n1, n2⟩ := hn'
    have hi : (Ie.isInf a || Ie.isInf b) = true := by
      rcases h with h | h
      · have := nonfin h
        rw [n1, Bool.false_or] at this
        rw [this]; rfl
      · have := nonfin h
        rw [n2, Bool.false_or] at this
        rw [this, Bool.or_true]
    have hi' : mag a = 9218868437227405312 ∨ mag b = 9218868437227405312 := by
      rw [inf_dec, inf_dec] at hi
      simpa using hi
    rw [if_pos hi']
    split
    · exact .inl ⟨nan_x, rfl⟩
    · exact .inr ⟨mag_sig' (by omega), n1, n2, hi⟩
theorem addX_nan {n c : Nat} (h : isNaN n = true) : addX n c = 9221120237041090560 := by
  unfold addX
  rw [h, Bool.true_or, if_pos rfl]
theorem faX_eq {a b c : Nat} (h : ¬ mag a < 9218868437227405312 ∨ ¬ mag b < 9218868437227405312) : faX a b c (mulX a b) = addX (mulX a b) c := by
  rcases mulX_non h with ⟨h1, h2⟩ | ⟨h1, n1, n2, hi⟩
  · rw [addX_nan h1]
    unfold faX
    rw [h1, Bool.or_true, if_pos rfl]
  · have hp : isNaN (mulX a b) = false := nan_no (by omega)
    unfold faX addX
    rw [n1, n2, hp, hi]
    cases hc : isNaN c
    · rw [if_neg (show ¬ (false || false || false || false) = true by decide), if_pos (show true = true from rfl), if_neg (show ¬ (false || false) = true by decide), if_pos h1, inf_dec]
      by_cases hi : mag c = 9218868437227405312
      · rw [if_pos hi, decide_eq_true hi, Bool.true_and]
        cases neg c <;> cases neg (mulX a b) <;> rfl
      · rw [if_neg hi, decide_eq_false hi, Bool.false_and, if_neg (by decide)]
    · rw [if_pos (by rfl), if_pos (by rfl)]
theorem rn2_of {a b c : Nat} (ha : a < 18446744073709551616) (hb : b < 18446744073709551616) (hc : c < 18446744073709551616) (h : ¬ mag a < 9218868437227405312 ∨ ¬ mag b < 9218868437227405312) : Rn2 a b c (addX (mulX a b) c) := by
  have hpl : pln a = false ∨ pln b = false := by
    rcases h with h | h
    · exact .inl (pln_false.2 (.inl h))
    · exact .inr (pln_false.2 (.inl h))
  have hm : Rn .mul a b (mulX a b) := rn_of (by simp) (mul_non ha hb hpl)
  have hadd : ∀ n, n < 18446744073709551616 → fin n = false → addX n c = addX (mulX a b) c → ∀ W', ∃ n2 W2, (binOp .add 22 (.float .f64 n) (.float .f64 c)).run Tryz.prog W' = .ok (.float .f64 n2) W2 ∧ (W2 = W' ∨ W2 = W'.drew) ∧ lk n2 (addX (mulX a b) c) := fun n hn hf he W' => by
    have hr : Rn .add n c (addX n c) := rn_of (by simp) (add_non hn hc (.inl hf))
    rw [he] at hr
    rcases hr with hr | hr
    · exact ⟨_, _, hr W', .inl rfl, lk.refl (addX_lt mulX_lt hc)⟩
    · obtain ⟨n2, hl, hr2⟩ := hr W'
      exact ⟨n2, _, hr2, .inr rfl, hl⟩
  have hfm : fin (mulX a b) = false := by
    refine fin_false.2 ?_
    rcases mulX_non h with ⟨h1, -⟩ | ⟨h1, -⟩
    · unfold isNaN at h1; simp at h1; omega
    · omega
  intro W
  rcases hm with hm | hm
  · exact ⟨_, _, hm W, .inl rfl, hadd _ mulX_lt hfm rfl⟩
  · obtain ⟨n, hl, hr⟩ := hm W
    refine ⟨n, _, hr, .inr rfl, ?_⟩
    by_cases hx : isNaN (mulX a b) = true
    · have hn : isNaN n = true := by
        have := hl.2
        simp only [same, Bool.or_eq_true, beq_iff_eq, Bool.and_eq_true] at this
        rcases this with h | h
        · have : n = mulX a b := by omega
          rw [this]; exact hx
        · exact h.1
      exact hadd n hl.1 (fin_false.2 (by unfold isNaN at hn; simp at hn; omega)) (by rw [addX_nan hn, addX_nan hx])
    · have : n = mulX a b := hl.eq (by simpa using hx)
      subst this
      exact hadd _ mulX_lt hfm rfl
theorem faX_lt {a b c p : Nat} (hc : c < 18446744073709551616) (hp : p < 18446744073709551616) : faX a b c p < 18446744073709551616 := by
  unfold faX
  repeat' split
  all_goals first | exact hc | exact hp | decide

theorem join_FFma (a b c : Nat) (m : Int) (ha : a < 18446744073709551616) (hb : b < 18446744073709551616) (hc : c < 18446744073709551616) :
    ∃ X, X < 18446744073709551616 ∧
      (∀ W, Tab32 W → Ie.Tab W → Calls Tryz.prog 25 #[.float .f64 a, .float .f64 b, .float .f64 c, .int .i64 m] W fun r w' => OutF2 W X r w') ∧
      (∀ W, Calls Tryz.prog 26 #[.float .f64 a, .float .f64 b, .float .f64 c, .int .i64 m] W fun r w' => OutD W X r w') := by
  have kM := fun W => dmul_all a b 2 ha hb W
  have hp : fMul a b 2 < 18446744073709551616 := fMul_lt
  cases hm : isM m
  · refine ⟨9221120237041090560, by decide, fun W _ _ => ?_, fun W => dfma_no a b c _ m hm W (kM W)⟩
    refine (pfma_no a b c m W hm).mono ?_
    rintro r w' ⟨rfl, hb⟩
    exact ⟨_, rfl, lk.nan (by decide) (by decide) (by decide), hb⟩
  · have hm' := isM_iff.1 hm
    by_cases hab : ¬ mag a < 9218868437227405312 ∨ ¬ mag b < 9218868437227405312
    · refine ⟨addX (mulX a b) c, addX_lt mulX_lt hc, fun W hT hI => ?_, fun W => ?_⟩
      · by_cases hfa : mag a < 9218868437227405312
        · exact pfma_mb a b c _ m W hm (pfin_y a ha hfa) (pfin_n b hb (hab.resolve_left fun h => h hfa)) (rn2_of ha hb hc hab)
        · exact pfma_ma a b c _ m W hm (pfin_n a ha hfa) (rn2_of ha hb hc hab)
      · have k := dfma_non a b c (fMul a b 2) m ha hb hc hp hm (by
          have : (isNaN a || Ie.isInf a || isNaN b || Ie.isInf b) = true := by
            rcases hab with h | h
            · rw [nonfin h]; rfl
            · have := nonfin h
              revert this
              cases isNaN a <;> cases isNaN b <;> cases Ie.isInf a <;> cases Ie.isInf b <;> decide
          revert this
          cases isNaN a <;> cases isNaN b <;> cases isNaN c <;> cases isNaN (fMul a b 2) <;> cases Ie.isInf a <;> cases Ie.isInf b <;> cases Ie.isInf c <;> decide) W (kM W)
        rw [fMul_non hab, faX_eq hab] at k
        exact k
    · have hfa : mag a < 9218868437227405312 := Nat.lt_of_not_le fun h => hab (.inl (by omega))
      have hfb : mag b < 9218868437227405312 := Nat.lt_of_not_le fun h => hab (.inr (by omega))
      have hpn := fMul_num hfa hfb
      by_cases hfc : mag c < 9218868437227405312
      · have o1 := tM_ok (tM_okR a b)
        have g1 := (tM_fits (tF_fits a) (tF_fits b)).mono (lo' := -2148) (hi' := 2050) (by omega) (by omega)
        have g2 := (tF_fits c).mono (lo' := -2148) (hi' := 2050) (by omega) (by omega)
        have hokR := tS_okR g1 g2 (by omega) (by omega) (by omega)
        have hok : Ok (tS (tM (tF a) (tF b)) (tF c)) := ok_cn hokR
        obtain ⟨f1, f2, f3, f4, f5⟩ := hok.facts
        refine ⟨if (tS (tM (tF a) (tF b)) (tF c)).2.1 = 0 then sig (z0 (neg a != neg b) (neg c) m) 0 else tfF (tS (tM (tF a) (tF b)) (tF c)).1 true (tS (tM (tF a) (tF b)) (tF c)).2.1 (tS (tM (tF a) (tF b)) (tF c)).2.2 m, ?_, fun W hT hI => ?_, fun W => ?_⟩
        · split
          · exact sig_lt (by omega)
          · exact tfF_lt hm'
        · have kE := fun W' (h : Below W.heap.size W W') => exact_ok b hb hfb W' (hT.later h) (Tab.later hI h)
          have kF := fun W' (h : Below W.heap.size W W') => exact_ok c hc hfc W' (hT.later h) (Tab.later hI h)
          by_cases h0 : (tS (tM (tF a) (tF b)) (tF c)).2.1 = 0
          · rw [if_pos h0]
            refine (pfma_z a b c _ m _ (tF a) (tF b) (tF c) (tM (tF a) (tF b)) _ W hm ha hb hc (pfin_y a ha hfa) (pfin_y b hb hfb) (pfin_y c hc hfc) (exact_ok a ha hfa W hT hI) kE kF (fun W' X Y h h1 h2 => multiplied_op (mul_op (tF_ok a) (tF_ok b) (tM_okR a b)) (hT.later h) h1 h2) (fun W' X Y h h1 h2 => added_op (add_op o1 (tF_ok c) hokR) (hT.later h) h1 h2) (fun W' X h => psign hok h) (by show (sgI (tS (tM (tF a) (tF b)) (tF c)).1 _ == 0) = true; rw [sgI_nought, decide_eq_true h0]) (fun W' => pnought _ _ m hm' W')).mono ?_
            rintro r w' ⟨rfl, hb'⟩
            exact ⟨_, rfl, lk.refl (sig_lt (by omega)), hb'⟩
          · rw [if_neg h0]
            refine (pfma_r a b c _ m _ (tF a) (tF b) (tF c) (tM (tF a) (tF b)) _ W hm ha hb hc (pfin_y a ha hfa) (pfin_y b hb hfb) (pfin_y c hc hfc) (exact_ok a ha hfa W hT hI) kE kF (fun W' X Y h h1 h2 => multiplied_op (mul_op (tF_ok a) (tF_ok b) (tM_okR a b)) (hT.later h) h1 h2) (fun W' X Y h h1 h2 => added_op (add_op o1 (tF_ok c) hokR) (hT.later h) h1 h2) (fun W' X h => psign hok h) (by show (sgI (tS (tM (tF a) (tF b)) (tF c)).1 _ == 0) = false; rw [sgI_nought, decide_eq_false h0]) (fun W' X h h1 => prounded (hT.later h) hok h1 hm')).mono ?_
            rintro r w' ⟨rfl, hb'⟩
            exact ⟨_, rfl, lk.refl (tfF_lt hm'), hb'⟩
        · exact dfma_fin a b c _ _ m (tF a) (tF b) (tF c) (tM (tF a) (tF b)) (tS (tM (tF a) (tF b)) (tF c)) W hm ha hb hc hp hfa hfb hfc hpn (kM W) (fun W' h => float_dn a ha W') (fun W' h => float_dn b hb W') (fun W' h => float_dn c hc W') (fun W' X Y h1 h2 => times_dn (tF_ok a) (tF_ok b) h1 h2) (fun W' X Y h1 h2 => plus_dn o1 (tF_ok c) h1 h2) (fun W' X h1 => dR h1 f5 (by omega) (by omega) (by omega) hm')
      · refine ⟨faX a b c (fMul a b 2), faX_lt hc hp, fun W hT hI => ?_, fun W => ?_⟩
        · refine (pfma_c a b c m W hm (pfin_y a ha hfa) (pfin_y b hb hfb) (pfin_n c hc hfc)).mono ?_
          rintro r w' ⟨rfl, hb'⟩
          refine ⟨_, rfl, ?_, hb'⟩
          unfold faX
          rw [nan_no (show mag a ≤ 9218868437227405312 by omega), nan_no (show mag b ≤ 9218868437227405312 by omega), hpn, Ie.isInf_not.2 (show mag a ≠ 9218868437227405312 by omega), Ie.isInf_not.2 (show mag b ≠ 9218868437227405312 by omega)]
          cases hn : isNaN c
          · rw [if_neg (by decide), if_neg (by decide)]; exact lk.refl hc
          · rw [if_pos (by rfl)]; exact lk.nan hc hn nan_x
        · exact dfma_non a b c (fMul a b 2) m ha hb hc hp hm (by
            have := nonfin hfc
            revert this
            cases isNaN a <;> cases isNaN b <;> cases isNaN c <;> cases isNaN (fMul a b 2) <;> cases Ie.isInf a <;> cases Ie.isInf b <;> cases Ie.isInf c <;> decide) W (kM W)
end Go.Proofs.YtajeodimbfppiaaGreatDoor

/- RoundFused. -/
namespace Go.Proofs.YtajeodimbfppiaaGreatDoor
set_option linter.unusedVariables false
set_option linter.unusedSimpArgs false
open Go.RowKit Go.Fl64

theorem box_cells4 {w : World} {g : Nat} {a b c d : Value} {T : TypeId} (h : w.heap[g]? = some (.cells #[a, b, c, d] T (0, 0))) :
    w.cell? ⟨g, 0, none⟩ = some a ∧ w.cell? ⟨g, 1, none⟩ = some b ∧ w.cell? ⟨g, 2, none⟩ = some c ∧ w.cell? ⟨g, 3, none⟩ = some d := by
  simp [World.cell?, h]

set_option maxHeartbeats 8000000 in
set_option maxRecDepth 200000 in
theorem lawF_1 (a b c X : Nat) (m : Int) (w : World) (hX : X < 18446744073709551616)
    (k1 : ∀ W, Below w.heap.size w W → Calls Tryz.prog 25 #[.float .f64 a, .float .f64 b, .float .f64 c, .int .i64 m] W fun r w' => OutF2 W X r w')
    (k2 : ∀ W, Calls Tryz.prog 26 #[.float .f64 a, .float .f64 b, .float .f64 c, .int .i64 m] W fun r w' => OutD W X r w')
    (k7 : ∀ W, Below w.heap.size w W → Calls Tryz.prog 16 #[] W fun r w' => r = .returned (.bool true) ∧ Below W.heap.size W w') :
    Calls Tryz.prog 6 #[.agg #[.float .f64 a, .float .f64 b, .float .f64 c, .int .i64 m]] w fun r w' => r = .returned (.bool true) ∧ Below w.heap.size w w' := by
  obtain ⟨W, hW⟩ : ∃ W, W = w.alloc (.cells #[.float .f64 a, .float .f64 b, .float .f64 c, .int .i64 m] 32) := ⟨_, rfl⟩
  have HX : Hid (Below w.heap.size w W ∧ W.heap[w.heap.size]? = some (.cells #[.float .f64 a, .float .f64 b, .float .f64 c, .int .i64 m] 32 (0, 0))) := ⟨by rw [hW]; exact (Below.refl _ _).alloc (Nat.le_refl _) _, by rw [hW]; exact heap_alloc_new _ _⟩
  have HK : Hid (∀ w', Below W.heap.size W w' → (w'.cell? ⟨w.heap.size, 0, none⟩ = some (.float .f64 a) ∧ w'.cell? ⟨w.heap.size, 1, none⟩ = some (.float .f64 b) ∧ w'.cell? ⟨w.heap.size, 2, none⟩ = some (.float .f64 c) ∧ w'.cell? ⟨w.heap.size, 3, none⟩ = some (.int .i64 m)) ∧ Below W.heap.size W w') := fun w' hb => ⟨box_cells4 (box_later HX.out.2 hb (lt_of_box HX.out.2)), hb⟩
  have hBR : Below W.heap.size W W.drew := (Below.refl _ _).drew
  have q1 : ∀ w4, Below W.heap.size W w4 → Calls Tryz.prog 25 #[.float .f64 a, .float .f64 b, .float .f64 c, .int .i64 m] w4 fun r w' => ∃ n, r = .returned (.float .f64 n) ∧ Hid (lk n X) ∧ Below W.heap.size W w' := fun w4 hb =>
    (k1 w4 (HX.out.1.trans (hb.mono HX.out.1.size))).mono fun r w' ⟨n, e1, e2, e3⟩ => ⟨n, e1, e2, hb.trans (e3.mono hb.size)⟩
  have q2 : ∀ w4, Below W.heap.size W w4 → Calls Tryz.prog 26 #[.float .f64 a, .float .f64 b, .float .f64 c, .int .i64 m] w4 fun r w' => r = .returned (.float .f64 X) ∧ Below W.heap.size W w' := fun w4 hb =>
    (k2 w4).mono fun r w' ⟨e1, e3⟩ => ⟨e1, hb.trans (e3.mono hb.size)⟩
  have q3 : ∀ n w4, lk n X → Below W.heap.size W w4 → Calls Tryz.prog 9 #[.float .f64 n, .float .f64 X] w4 fun r w' => r = .returned (.bool true) ∧ Below W.heap.size W w' := fun n w4 hl hb =>
    (lsame_ok hl hX w4).mono fun r w' ⟨e1, e3⟩ => ⟨e1, by rw [e3]; exact hb⟩
  have q4 : ∀ w4, Below W.heap.size W w4 → Calls Tryz.prog 16 #[] w4 fun r w' => r = .returned (.bool true) ∧ Below W.heap.size W w' := fun w4 hb =>
    (k7 w4 (HX.out.1.trans (hb.mono HX.out.1.size))).mono fun r w' ⟨e1, e3⟩ => ⟨e1, hb.trans (e3.mono hb.size)⟩
  clear k1 k2 k7 hX
  go_enter Tryz.func6, Tryz.ntmps6
  go_upto_region 1 with fail
  rw [← hW]
  clear hW
  obtain ⟨⟨a0, a1, a2, a3⟩, -⟩ := HK.out W (Below.refl _ _)
  go_region_held3 (fun w' => (w'.cell? ⟨w.heap.size, 0, none⟩ = some (.float .f64 a) ∧ w'.cell? ⟨w.heap.size, 1, none⟩ = some (.float .f64 b) ∧ w'.cell? ⟨w.heap.size, 2, none⟩ = some (.float .f64 c) ∧ w'.cell? ⟨w.heap.size, 3, none⟩ = some (.int .i64 m)) ∧ Below W.heap.size W w') (first | (with_reducible assumption) | exact ⟨⟨a0, a1, a2, a3⟩, hBR⟩ | (refine HK.out _ ?_; with_reducible assumption) | go_keep)
    (first | (go_at_call 25; refine (q1 _ hBR).mono ?_; rintro r w5 ⟨n5, rfl, hl5, hb5⟩)
           | (go_at_call 26; refine (q2 _ hb5).mono ?_; rintro r w6 ⟨rfl, hb6⟩)
           | (go_at_call 9; refine (q3 _ _ hl5.out hb6).mono ?_; rintro r w7 ⟨rfl, hb7⟩)
           | (go_at_call 16; refine (q4 _ hb7).mono ?_; rintro r w8 ⟨rfl, hb8⟩))
  all_goals
    have HF : Hid (Below w.heap.size w w8) := HX.out.1.trans (hb8.mono HX.out.1.size)
    clear hl5 hb5 hb6 hb7 hb8 q1 q2 q3 q4 HK hBR a0 a1 a2 a3
    go_wp2_with fail
    go_ret
    exact ⟨rfl, HF.out⟩

/-- RoundFused answers true -/
theorem roundFused_ok (a b c : Nat) (m : Int) (w : World) (ha : a < 18446744073709551616) (hb : b < 18446744073709551616) (hc : c < 18446744073709551616) (hT : Tab32 w) (hI : Ie.Tab w) :
    Calls Tryz.prog 6 #[.agg #[.float .f64 a, .float .f64 b, .float .f64 c, .int .i64 m]] w fun r w' => r = .returned (.bool true) ∧ Below w.heap.size w w' := by
  obtain ⟨X, x1, x3, x4⟩ := join_FFma a b c m ha hb hc
  exact lawF_1 a b c X m w x1 (fun W h => x3 W (hT.later h) (Tab.later hI h)) x4 (fun W h => sure_ok W (hT.later h) (Tab.later hI h))
end Go.Proofs.YtajeodimbfppiaaGreatDoor
