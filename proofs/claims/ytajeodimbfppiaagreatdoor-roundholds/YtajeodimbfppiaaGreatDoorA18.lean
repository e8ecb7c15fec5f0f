/- Own work: contracts of the program's functions, part 18: SF3 SF4 SF5. -/
import Derived.Test.YtajeodimbfppiaaGreatDoorA17

/- RoundHolds: the law's walk. -/
namespace Go.Proofs.YtajeodimbfppiaaGreatDoor
set_option linter.unusedVariables false
set_option linter.unusedSimpArgs false
open Go.RowKit Go.Fl64

theorem lawH_no (a b : Nat) (fa fb : Bool) (w : World) (hf : (fa && fb) = false)
    (ka : ∀ W, Calls Tryz.prog 27 #[.float .f64 a] W fun r w' => r = .returned (.bool fa) ∧ w' = W) (kb : ∀ W, Calls Tryz.prog 27 #[.float .f64 b] W fun r w' => r = .returned (.bool fb) ∧ w' = W)
    (kS : Calls Tryz.prog 16 #[] w fun r w' => r = .returned (.bool true) ∧ Below w.heap.size w w') :
    Calls Tryz.prog 7 #[.float .f64 a, .float .f64 b] w fun r w' => r = .returned (.bool true) ∧ Below w.heap.size w w' := by
  have kA := ka w
  have kB := kb w
  clear ka kb
  cases fa
  · clear hf
    go_enter Tryz.func7, Tryz.ntmps7
    go_wp2_with fail
    refine kA.mono ?_
    rintro r w' ⟨rfl, hw⟩
    rw [hw]
    clear hw kA w'
    go_wp2_with fail
    refine kS.mono ?_
    rintro r w1 ⟨rfl, hb1⟩
    have HB : Hid (Below w.heap.size w w1) := hb1
    clear kS hb1
    go_wp2_with fail
    go_ret
    exact ⟨rfl, HB.out⟩
  · simp only [Bool.true_and] at hf
    subst hf
    go_enter Tryz.func7, Tryz.ntmps7
    go_wp2_with fail
    refine kA.mono ?_
    rintro r w' ⟨rfl, hw⟩
    rw [hw]
    clear hw kA w'
    go_wp2_with fail
    refine kB.mono ?_
    rintro r w' ⟨rfl, hw⟩
    rw [hw]
    clear hw kB w'
    go_wp2_with fail
    refine kS.mono ?_
    rintro r w1 ⟨rfl, hb1⟩
    have HB : Hid (Below w.heap.size w w1) := hb1
    clear kS hb1
    go_wp2_with fail
    go_ret
    exact ⟨rfl, HB.out⟩

set_option maxHeartbeats 16000000 in
set_option maxRecDepth 200000 in
theorem lawH_1 (a b nb X1 X2 X3 X4 Y1 Y2 Y3 Y Z : Nat) (ta tb tp tm : Bool × Nat × Int) (w : World)
    (ka : ∀ W, Calls Tryz.prog 27 #[.float .f64 a] W fun r w' => r = .returned (.bool true) ∧ w' = W) (kb : ∀ W, Calls Tryz.prog 27 #[.float .f64 b] W fun r w' => r = .returned (.bool true) ∧ w' = W)
    (kfa : Calls Tryz.prog 28 #[.float .f64 a] w fun r w' => ∃ A, r = .returned A ∧ DN w' A ta ∧ Below w.heap.size w w')
    (kA1 : ∀ W, Below w.heap.size w W → Calls Tryz.prog 10 #[.float .f64 a, .float .f64 b, .int .i64 1] W fun r w' => r = .returned (.float .f64 X1) ∧ Below W.heap.size W w')
    (kA2 : ∀ W, Below w.heap.size w W → Calls Tryz.prog 10 #[.float .f64 a, .float .f64 b, .int .i64 2] W fun r w' => r = .returned (.float .f64 X2) ∧ Below W.heap.size W w')
    (kA3 : ∀ W, Below w.heap.size w W → Calls Tryz.prog 10 #[.float .f64 a, .float .f64 b, .int .i64 3] W fun r w' => r = .returned (.float .f64 X3) ∧ Below W.heap.size W w')
    (kM1 : ∀ W, Below w.heap.size w W → Calls Tryz.prog 17 #[.float .f64 a, .float .f64 b, .int .i64 1] W fun r w' => r = .returned (.float .f64 Y1) ∧ Below W.heap.size W w')
    (kM2 : ∀ W, Below w.heap.size w W → Calls Tryz.prog 17 #[.float .f64 a, .float .f64 b, .int .i64 2] W fun r w' => r = .returned (.float .f64 Y2) ∧ Below W.heap.size W w')
    (kM3 : ∀ W, Below w.heap.size w W → Calls Tryz.prog 17 #[.float .f64 a, .float .f64 b, .int .i64 3] W fun r w' => r = .returned (.float .f64 Y3) ∧ Below W.heap.size W w')
    (kfb : ∀ W, Below w.heap.size w W → Calls Tryz.prog 28 #[.float .f64 b] W fun r w' => ∃ A, r = .returned A ∧ DN w' A tb ∧ Below W.heap.size W w')
    (kP : ∀ W X Y, DN W X ta → DN W Y tb → Calls Tryz.prog 30 #[X, Y] W fun r w' => ∃ A, r = .returned A ∧ DN w' A tp ∧ Below W.heap.size W w')
    (kT : ∀ W X Y, DN W X ta → DN W Y tb → Calls Tryz.prog 31 #[X, Y] W fun r w' => ∃ A, r = .returned A ∧ DN w' A tm ∧ Below W.heap.size W w')
    (kB1 : ∀ W A, DN W A tp → Calls Tryz.prog 29 #[.float .f64 X1, .float .f64 X2, .float .f64 X3, A] W fun r w' => r = .returned (.bool true) ∧ Below W.heap.size W w')
    (kB2 : ∀ W A, DN W A tm → Calls Tryz.prog 29 #[.float .f64 Y1, .float .f64 Y2, .float .f64 Y3, A] W fun r w' => r = .returned (.bool true) ∧ Below W.heap.size W w')
    (kN : ∀ W, Calls Tryz.prog 32 #[.float .f64 b] W fun r w' => r = .returned (.float .f64 nb) ∧ w' = W)
    (kMn : ∀ W, Below w.heap.size w W → Calls Tryz.prog 17 #[.float .f64 a, .float .f64 nb, .int .i64 3] W fun r w' => r = .returned (.float .f64 Y) ∧ Below W.heap.size W w')
    (kY : ∀ W, Calls Tryz.prog 32 #[.float .f64 Y] W fun r w' => r = .returned (.float .f64 Z) ∧ w' = W)
    (ks1 : ∀ W, Calls Tryz.prog 9 #[.float .f64 Y1, .float .f64 Z] W fun r w' => r = .returned (.bool true) ∧ w' = W)
    (kAc : ∀ W, Below w.heap.size w W → Calls Tryz.prog 10 #[.float .f64 b, .float .f64 a, .int .i64 3] W fun r w' => r = .returned (.float .f64 X4) ∧ Below W.heap.size W w')
    (ks2 : ∀ W, Calls Tryz.prog 9 #[.float .f64 X3, .float .f64 X4] W fun r w' => r = .returned (.bool true) ∧ w' = W)
    (kS : ∀ W, Below w.heap.size w W → Calls Tryz.prog 16 #[] W fun r w' => r = .returned (.bool true) ∧ Below W.heap.size W w') :
    Calls Tryz.prog 7 #[.float .f64 a, .float .f64 b] w fun r w' => r = .returned (.bool true) ∧ Below w.heap.size w w' := by
  have HkA1 : Hid (∀ W, Below w.heap.size w W → Calls Tryz.prog 10 #[.float .f64 a, .float .f64 b, .int .i64 1] W fun r w' => r = .returned (.float .f64 X1) ∧ Below W.heap.size W w') := kA1
  have HkA2 : Hid (∀ W, Below w.heap.size w W → Calls Tryz.prog 10 #[.float .f64 a, .float .f64 b, .int .i64 2] W fun r w' => r = .returned (.float .f64 X2) ∧ Below W.heap.size W w') := kA2
  have HkA3 : Hid (∀ W, Below w.heap.size w W → Calls Tryz.prog 10 #[.float .f64 a, .float .f64 b, .int .i64 3] W fun r w' => r = .returned (.float .f64 X3) ∧ Below W.heap.size W w') := kA3
  have HkM1 : Hid (∀ W, Below w.heap.size w W → Calls Tryz.prog 17 #[.float .f64 a, .float .f64 b, .int .i64 1] W fun r w' => r = .returned (.float .f64 Y1) ∧ Below W.heap.size W w') := kM1
  have HkM2 : Hid (∀ W, Below w.heap.size w W → Calls Tryz.prog 17 #[.float .f64 a, .float .f64 b, .int .i64 2] W fun r w' => r = .returned (.float .f64 Y2) ∧ Below W.heap.size W w') := kM2
  have HkM3 : Hid (∀ W, Below w.heap.size w W → Calls Tryz.prog 17 #[.float .f64 a, .float .f64 b, .int .i64 3] W fun r w' => r = .returned (.float .f64 Y3) ∧ Below W.heap.size W w') := kM3
  have Hkfb : Hid (∀ W, Below w.heap.size w W → Calls Tryz.prog 28 #[.float .f64 b] W fun r w' => ∃ A, r = .returned A ∧ DN w' A tb ∧ Below W.heap.size W w') := kfb
  have HkP : Hid (∀ W X Y, DN W X ta → DN W Y tb → Calls Tryz.prog 30 #[X, Y] W fun r w' => ∃ A, r = .returned A ∧ DN w' A tp ∧ Below W.heap.size W w') := kP
  have HkT : Hid (∀ W X Y, DN W X ta → DN W Y tb → Calls Tryz.prog 31 #[X, Y] W fun r w' => ∃ A, r = .returned A ∧ DN w' A tm ∧ Below W.heap.size W w') := kT
  have HkB1 : Hid (∀ W A, DN W A tp → Calls Tryz.prog 29 #[.float .f64 X1, .float .f64 X2, .float .f64 X3, A] W fun r w' => r = .returned (.bool true) ∧ Below W.heap.size W w') := kB1
  have HkB2 : Hid (∀ W A, DN W A tm → Calls Tryz.prog 29 #[.float .f64 Y1, .float .f64 Y2, .float .f64 Y3, A] W fun r w' => r = .returned (.bool true) ∧ Below W.heap.size W w') := kB2
  have HkN : Hid (∀ W, Calls Tryz.prog 32 #[.float .f64 b] W fun r w' => r = .returned (.float .f64 nb) ∧ w' = W) := kN
  have HkMn : Hid (∀ W, Below w.heap.size w W → Calls Tryz.prog 17 #[.float .f64 a, .float .f64 nb, .int .i64 3] W fun r w' => r = .returned (.float .f64 Y) ∧ Below W.heap.size W w') := kMn
  have HkY : Hid (∀ W, Calls Tryz.prog 32 #[.float .f64 Y] W fun r w' => r = .returned (.float .f64 Z) ∧ w' = W) := kY
  have Hks1 : Hid (∀ W, Calls Tryz.prog 9 #[.float .f64 Y1, .float .f64 Z] W fun r w' => r = .returned (.bool true) ∧ w' = W) := ks1
  have HkAc : Hid (∀ W, Below w.heap.size w W → Calls Tryz.prog 10 #[.float .f64 b, .float .f64 a, .int .i64 3] W fun r w' => r = .returned (.float .f64 X4) ∧ Below W.heap.size W w') := kAc
  have Hks2 : Hid (∀ W, Calls Tryz.prog 9 #[.float .f64 X3, .float .f64 X4] W fun r w' => r = .returned (.bool true) ∧ w' = W) := ks2
  have HkS : Hid (∀ W, Below w.heap.size w W → Calls Tryz.prog 16 #[] W fun r w' => r = .returned (.bool true) ∧ Below W.heap.size W w') := kS
  have kA := ka w
  have kB := kb w
  clear ka kb kA1 kA2 kA3 kM1 kM2 kM3 kfb kP kT kB1 kB2 kN kMn kY ks1 kAc ks2 kS
  go_enter Tryz.func7, Tryz.ntmps7
  go_wp2_with fail
  refine kA.mono ?_
  rintro r w' ⟨rfl, hw⟩
  rw [hw]
  clear hw kA w'
  go_wp2_with fail
  refine kB.mono ?_
  rintro r w' ⟨rfl, hw⟩
  rw [hw]
  clear hw kB w'
  go_wp2_with fail
  refine kfa.mono ?_
  rintro r w1 ⟨A1, rfl, hP1, hb1⟩
  have k2 := Hkfb.out w1 hb1
  clear kfa
  go_wp2_with fail
  refine k2.mono ?_
  rintro r w2 ⟨A2, rfl, hP2, hb2⟩
  have HB2 : Hid (Below w.heap.size w w2 ∧ DN w2 A1 ta ∧ DN w2 A2 tb) := ⟨hb1.trans (hb2.mono hb1.size), hP1.later hb2, hP2⟩
  obtain ⟨s1, ao1, n1, cap1, ex1, rfl⟩ := hP1.shape
  obtain ⟨s2, ao2, n2, cap2, ex2, rfl⟩ := hP2.shape
  clear k2 hP1 hP2 hb1 hb2
  obtain ⟨V, hV⟩ : ∃ V, V = (w2.alloc (.cells #[.bool s1, .slice ao1 n1 cap1, .int .i64 ex1] 38)).alloc (.cells #[.bool s2, .slice ao2 n2 cap2, .int .i64 ex2] 38) := ⟨_, rfl⟩
  have hh := two29 _ _ hV
  have HX : Hid (Below w.heap.size w V ∧ V.heap[w2.heap.size]? = some (.cells #[.bool s1, .slice ao1 n1 cap1, .int .i64 ex1] 38 (0, 0)) ∧ V.heap[w2.heap.size + 1]? = some (.cells #[.bool s2, .slice ao2 n2 cap2, .int .i64 ex2] 38 (0, 0)) ∧ DN V (.agg #[.bool s1, .slice ao1 n1 cap1, .int .i64 ex1]) ta ∧ DN V (.agg #[.bool s2, .slice ao2 n2 cap2, .int .i64 ex2]) tb) := ⟨HB2.out.1.trans (hh.2.2.2.mono HB2.out.1.size), hh.1, hh.2.1, HB2.out.2.1.later hh.2.2.2, HB2.out.2.2.later hh.2.2.2⟩
  clear hh
  go_upto_region 4 with fail
  rw [← hV]
  clear hV HB2
  generalize w2.heap.size = g2 at *
  have HK : Hid (∀ w', Below V.heap.size V w' → ((w'.cell? ⟨g2, 0, none⟩ = some (.bool s1) ∧ w'.cell? ⟨g2, 1, none⟩ = some (.slice ao1 n1 cap1) ∧ w'.cell? ⟨g2, 2, none⟩ = some (.int .i64 ex1)) ∧ (w'.cell? ⟨g2 + 1, 0, none⟩ = some (.bool s2) ∧ w'.cell? ⟨g2 + 1, 1, none⟩ = some (.slice ao2 n2 cap2) ∧ w'.cell? ⟨g2 + 1, 2, none⟩ = some (.int .i64 ex2))) ∧ Below V.heap.size V w') := fun w' hb => ⟨⟨(box_cells29 (box_later HX.out.2.1 hb (lt_of_box HX.out.2.1))).1, (box_cells29 (box_later HX.out.2.2.1 hb (lt_of_box HX.out.2.2.1))).1⟩, hb⟩
  have hBR : Below V.heap.size V V.drew := (Below.refl _ _).drew
  have q1 : ∀ w4, Below V.heap.size V w4 → Calls Tryz.prog 10 #[.float .f64 a, .float .f64 b, .int .i64 1] w4 fun r w' => r = .returned (.float .f64 X1) ∧ Below V.heap.size V w' := fun w4 hb => (HkA1.out w4 (HX.out.1.trans (hb.mono HX.out.1.size))).mono fun r w' ⟨e1, e3⟩ => ⟨e1, hb.trans (e3.mono hb.size)⟩
  have q2 : ∀ w4, Below V.heap.size V w4 → Calls Tryz.prog 10 #[.float .f64 a, .float .f64 b, .int .i64 2] w4 fun r w' => r = .returned (.float .f64 X2) ∧ Below V.heap.size V w' := fun w4 hb => (HkA2.out w4 (HX.out.1.trans (hb.mono HX.out.1.size))).mono fun r w' ⟨e1, e3⟩ => ⟨e1, hb.trans (e3.mono hb.size)⟩
  have q3 : ∀ w4, Below V.heap.size V w4 → Calls Tryz.prog 10 #[.float .f64 a, .float .f64 b, .int .i64 3] w4 fun r w' => r = .returned (.float .f64 X3) ∧ Below V.heap.size V w' := fun w4 hb => (HkA3.out w4 (HX.out.1.trans (hb.mono HX.out.1.size))).mono fun r w' ⟨e1, e3⟩ => ⟨e1, hb.trans (e3.mono hb.size)⟩
  have q4 : ∀ w4, Below V.heap.size V w4 → Calls Tryz.prog 30 #[.agg #[.bool s1, .slice ao1 n1 cap1, .int .i64 ex1], .agg #[.bool s2, .slice ao2 n2 cap2, .int .i64 ex2]] w4 fun r w' => ∃ A, r = .returned A ∧ DN w' A tp ∧ Below V.heap.size V w' := fun w4 hb => (HkP.out w4 _ _ (HX.out.2.2.2.1.later hb) (HX.out.2.2.2.2.later hb)).mono fun r w' ⟨A, e1, e2, e3⟩ => ⟨A, e1, e2, hb.trans (e3.mono hb.size)⟩
  have q5 : ∀ w4 A, Below V.heap.size V w4 → DN w4 A tp → Calls Tryz.prog 29 #[.float .f64 X1, .float .f64 X2, .float .f64 X3, A] w4 fun r w' => r = .returned (.bool true) ∧ Below V.heap.size V w' := fun w4 A hb h => (HkB1.out w4 A h).mono fun r w' ⟨e1, e3⟩ => ⟨e1, hb.trans (e3.mono hb.size)⟩
  obtain ⟨⟨⟨a0, a1, a2⟩, ⟨b0, b1, b2⟩⟩, -⟩ := HK.out V (Below.refl _ _)
  go_region_held3 (fun w' => ((w'.cell? ⟨g2, 0, none⟩ = some (.bool s1) ∧ w'.cell? ⟨g2, 1, none⟩ = some (.slice ao1 n1 cap1) ∧ w'.cell? ⟨g2, 2, none⟩ = some (.int .i64 ex1)) ∧ (w'.cell? ⟨g2 + 1, 0, none⟩ = some (.bool s2) ∧ w'.cell? ⟨g2 + 1, 1, none⟩ = some (.slice ao2 n2 cap2) ∧ w'.cell? ⟨g2 + 1, 2, none⟩ = some (.int .i64 ex2))) ∧ Below V.heap.size V w') (first | (with_reducible assumption) | exact ⟨⟨⟨a0, a1, a2⟩, ⟨b0, b1, b2⟩⟩, hBR⟩ | (refine HK.out _ ?_; with_reducible assumption) | go_keep)
    (first | (go_at_call 10; first | (have hq := hb6; clear hq; refine (q3 _ hb6).mono ?_; rintro r w7 ⟨rfl, hb7⟩) | (have hq := hb5; clear hq; refine (q2 _ hb5).mono ?_; rintro r w6 ⟨rfl, hb6⟩) | (refine (q1 _ hBR).mono ?_; rintro r w5 ⟨rfl, hb5⟩))
           | (go_at_call 30; refine (q4 _ hb7).mono ?_; rintro r w8 ⟨A8, rfl, hP8, hb8⟩)
           | (go_at_call 29; refine (q5 _ _ hb8 hP8).mono ?_; rintro r w9 ⟨rfl, hb9⟩))
  have HY : Hid (Below w.heap.size w w9 ∧ w9.heap[g2]? = some (.cells #[.bool s1, .slice ao1 n1 cap1, .int .i64 ex1] 38 (0, 0)) ∧ w9.heap[g2 + 1]? = some (.cells #[.bool s2, .slice ao2 n2 cap2, .int .i64 ex2] 38 (0, 0)) ∧ DN w9 (.agg #[.bool s1, .slice ao1 n1 cap1, .int .i64 ex1]) ta ∧ DN w9 (.agg #[.bool s2, .slice ao2 n2 cap2, .int .i64 ex2]) tb) := ⟨HX.out.1.trans (hb9.mono HX.out.1.size), box_later HX.out.2.1 hb9 (lt_of_box HX.out.2.1), box_later HX.out.2.2.1 hb9 (lt_of_box HX.out.2.2.1), HX.out.2.2.2.1.later hb9, HX.out.2.2.2.2.later hb9⟩
  clear hb5 hb6 hb7 hP8 hb8 hb9 q1 q2 q3 q4 q5 HK hBR a0 a1 a2 b0 b1 b2
  clear HX
  obtain ⟨U, rfl⟩ : ∃ U : World, U = w9 := ⟨_, rfl⟩
  go_upto_region 6 with fail
  have HK : Hid (∀ w', Below U.heap.size U w' → ((w'.cell? ⟨g2, 0, none⟩ = some (.bool s1) ∧ w'.cell? ⟨g2, 1, none⟩ = some (.slice ao1 n1 cap1) ∧ w'.cell? ⟨g2, 2, none⟩ = some (.int .i64 ex1)) ∧ (w'.cell? ⟨g2 + 1, 0, none⟩ = some (.bool s2) ∧ w'.cell? ⟨g2 + 1, 1, none⟩ = some (.slice ao2 n2 cap2) ∧ w'.cell? ⟨g2 + 1, 2, none⟩ = some (.int .i64 ex2))) ∧ Below U.heap.size U w') := fun w' hb => ⟨⟨(box_cells29 (box_later HY.out.2.1 hb (lt_of_box HY.out.2.1))).1, (box_cells29 (box_later HY.out.2.2.1 hb (lt_of_box HY.out.2.2.1))).1⟩, hb⟩
  have hBR : Below U.heap.size U U.drew := (Below.refl _ _).drew
  have q1 : ∀ w4, Below U.heap.size U w4 → Calls Tryz.prog 17 #[.float .f64 a, .float .f64 b, .int .i64 1] w4 fun r w' => r = .returned (.float .f64 Y1) ∧ Below U.heap.size U w' := fun w4 hb => (HkM1.out w4 (HY.out.1.trans (hb.mono HY.out.1.size))).mono fun r w' ⟨e1, e3⟩ => ⟨e1, hb.trans (e3.mono hb.size)⟩
  have q2 : ∀ w4, Below U.heap.size U w4 → Calls Tryz.prog 17 #[.float .f64 a, .float .f64 b, .int .i64 2] w4 fun r w' => r = .returned (.float .f64 Y2) ∧ Below U.heap.size U w' := fun w4 hb => (HkM2.out w4 (HY.out.1.trans (hb.mono HY.out.1.size))).mono fun r w' ⟨e1, e3⟩ => ⟨e1, hb.trans (e3.mono hb.size)⟩
  have q3 : ∀ w4, Below U.heap.size U w4 → Calls Tryz.prog 17 #[.float .f64 a, .float .f64 b, .int .i64 3] w4 fun r w' => r = .returned (.float .f64 Y3) ∧ Below U.heap.size U w' := fun w4 hb => (HkM3.out w4 (HY.out.1.trans (hb.mono HY.out.1.size))).mono fun r w' ⟨e1, e3⟩ => ⟨e1, hb.trans (e3.mono hb.size)⟩
  have q4 : ∀ w4, Below U.heap.size U w4 → Calls Tryz.prog 31 #[.agg #[.bool s1, .slice ao1 n1 cap1, .int .i64 ex1], .agg #[.bool s2, .slice ao2 n2 cap2, .int .i64 ex2]] w4 fun r w' => ∃ A, r = .returned A ∧ DN w' A tm ∧ Below U.heap.size U w' := fun w4 hb => (HkT.out w4 _ _ (HY.out.2.2.2.1.later hb) (HY.out.2.2.2.2.later hb)).mono fun r w' ⟨A, e1, e2, e3⟩ => ⟨A, e1, e2, hb.trans (e3.mono hb.size)⟩
  have q5 : ∀ w4 A, Below U.heap.size U w4 → DN w4 A tm → Calls Tryz.prog 29 #[.float .f64 Y1, .float .f64 Y2, .float .f64 Y3, A] w4 fun r w' => r = .returned (.bool true) ∧ Below U.heap.size U w' := fun w4 A hb h => (HkB2.out w4 A h).mono fun r w' ⟨e1, e3⟩ => ⟨e1, hb.trans (e3.mono hb.size)⟩
  obtain ⟨⟨⟨a0, a1, a2⟩, ⟨b0, b1, b2⟩⟩, -⟩ := HK.out U (Below.refl _ _)
  go_region_held3 (fun w' => ((w'.cell? ⟨g2, 0, none⟩ = some (.bool s1) ∧ w'.cell? ⟨g2, 1, none⟩ = some (.slice ao1 n1 cap1) ∧ w'.cell? ⟨g2, 2, none⟩ = some (.int .i64 ex1)) ∧ (w'.cell? ⟨g2 + 1, 0, none⟩ = some (.bool s2) ∧ w'.cell? ⟨g2 + 1, 1, none⟩ = some (.slice ao2 n2 cap2) ∧ w'.cell? ⟨g2 + 1, 2, none⟩ = some (.int .i64 ex2))) ∧ Below U.heap.size U w') (first | (with_reducible assumption) | exact ⟨⟨⟨a0, a1, a2⟩, ⟨b0, b1, b2⟩⟩, hBR⟩ | (refine HK.out _ ?_; with_reducible assumption) | go_keep)
    (first | (go_at_call 17; first | (have hq := hb6; clear hq; refine (q3 _ hb6).mono ?_; rintro r w7 ⟨rfl, hb7⟩) | (have hq := hb5; clear hq; refine (q2 _ hb5).mono ?_; rintro r w6 ⟨rfl, hb6⟩) | (refine (q1 _ hBR).mono ?_; rintro r w5 ⟨rfl, hb5⟩))
           | (go_at_call 31; refine (q4 _ hb7).mono ?_; rintro r w8 ⟨A8, rfl, hP8, hb8⟩)
           | (go_at_call 29; refine (q5 _ _ hb8 hP8).mono ?_; rintro r w9 ⟨rfl, hb9⟩))
  have HBw9 : Hid (Below w.heap.size w w9) := HY.out.1.trans (hb9.mono HY.out.1.size)
  clear hb5 hb6 hb7 hP8 hb8 hb9 q1 q2 q3 q4 q5 HK hBR a0 a1 a2 b0 b1 b2
  have k1 := HkM1.out w9 HBw9.out
  go_wp2_with fail
  refine k1.mono ?_
  rintro r wa ⟨rfl, hbn⟩
  have HBwa : Hid (Below w.heap.size w wa) := HBw9.out.trans (hbn.mono HBw9.out.size)
  clear k1 hbn
  have k2 := HkN.out wa
  go_wp2_with fail
  refine k2.mono ?_
  rintro r w' ⟨rfl, hw⟩
  rw [hw]
  clear hw k2 w'
  have k3 := HkMn.out wa HBwa.out
  go_wp2_with fail
  refine k3.mono ?_
  rintro r wb ⟨rfl, hbn⟩
  have HBwb : Hid (Below w.heap.size w wb) := HBwa.out.trans (hbn.mono HBwa.out.size)
  clear k3 hbn
  have k4 := HkY.out wb
  go_wp2_with fail
  refine k4.mono ?_
  rintro r w' ⟨rfl, hw⟩
  rw [hw]
  clear hw k4 w'
  have k5 := Hks1.out wb
  go_wp2_with fail
  refine k5.mono ?_
  rintro r w' ⟨rfl, hw⟩
  rw [hw]
  clear hw k5 w'
  have k6 := HkA3.out wb HBwb.out
  go_wp2_with fail
  refine k6.mono ?_
  rintro r wc ⟨rfl, hbn⟩
  have HBwc : Hid (Below w.heap.size w wc) := HBwb.out.trans (hbn.mono HBwb.out.size)
  clear k6 hbn
  have k7 := HkAc.out wc HBwc.out
  go_wp2_with fail
  refine k7.mono ?_
  rintro r wd ⟨rfl, hbn⟩
  have HBwd : Hid (Below w.heap.size w wd) := HBwc.out.trans (hbn.mono HBwc.out.size)
  clear k7 hbn
  have k8 := Hks2.out wd
  go_wp2_with fail
  refine k8.mono ?_
  rintro r w' ⟨rfl, hw⟩
  rw [hw]
  clear hw k8 w'
  have k9 := HkS.out wd HBwd.out
  go_wp2_with fail
  refine k9.mono ?_
  rintro r we ⟨rfl, hbn⟩
  have HBwe : Hid (Below w.heap.size w we) := HBwd.out.trans (hbn.mono HBwd.out.size)
  clear k9 hbn
  go_wp2_with fail
  go_ret
  exact ⟨rfl, HBwe.out⟩
end Go.Proofs.YtajeodimbfppiaaGreatDoor

/- RoundHolds. -/
namespace Go.Proofs.YtajeodimbfppiaaGreatDoor
set_option linter.unusedVariables false
set_option linter.unusedSimpArgs false
open Go.RowKit Go.Fl64

theorem dorder {t1 t2 : Bool × Nat × Int} {X Y : Value} {w : World} (o1 : Ok t1) (o2 : Ok t2) (h1 : DN w X t1) (h2 : DN w Y t2) : Calls Tryz.prog 34 #[X, Y] w fun r w' => r = .returned (.int .i64 (ordN t1.1 t1.2.1 t1.2.2 t2.1 t2.2.1 t2.2.2)) ∧ Below w.heap.size w w' := by
  obtain ⟨ao, cap, rfl, a1⟩ := h1
  obtain ⟨ao', cap', rfl, a2⟩ := h2
  obtain ⟨f1, f2, f3, -, -⟩ := o1.facts
  obtain ⟨g1, g2, g3, -, -⟩ := o2.facts
  exact rorder a1 a2 (by omega) (by omega) (by omega) (by omega)

/-- a finite float's number, by its bits -/
theorem vz_tF {a : Nat} (ha : a < 18446744073709551616) (hf : mag a < 9218868437227405312) : vz 70000 (tF a).1 (tF a).2.1 (tF a).2.2 = sv (neg a) (bv (mag a) * UU 70000) := by
  obtain ⟨m, hm, -⟩ := sM_lt a ha
  have e : nM a = m := by unfold nM; rw [hm]; rfl
  have hE : -1074 ≤ Ie.sE a := by
    by_cases h0 : mag a = 0
    · rw [(num_zero h0).2]; omega
    · exact (num_parts hf h0).2.2.1
  rw [← cn_parts a m ha hf hm, vz_cn (by omega), ← vz_num (K := 70000) (by omega) hf, e]
  unfold nN
  by_cases h0 : mag a = 0
  · have : nM a = 0 := (num_zero h0).1
    rw [← e, this]
    unfold vz
    rw [sv_zero, sv_zero]
  · rw [if_neg h0]

/-- three floats around a number -/
structure Btw (lo mid hi : Nat) (t : Bool × Nat × Int) : Prop where
  l1 : lo < 18446744073709551616
  l2 : mid < 18446744073709551616
  l3 : hi < 18446744073709551616
  n1 : isNaN lo = false
  n2 : isNaN mid = false
  n3 : isNaN hi = false
  s1 : stp lo ≤ stp mid
  s2 : stp mid ≤ stp hi
  s3 : stp hi ≤ stp lo + 1
  v1 : mag lo < 9218868437227405312 → vz 70000 (tF lo).1 (tF lo).2.1 (tF lo).2.2 ≤ vz 70000 t.1 t.2.1 t.2.2
  v2 : mag hi < 9218868437227405312 → vz 70000 t.1 t.2.1 t.2.2 ≤ vz 70000 (tF hi).1 (tF hi).2.1 (tF hi).2.2
  no : (Ie.isInf lo && Ie.isInf hi) = false

theorem fin_of {a : Nat} (hn : isNaN a = false) (h : Ie.isInf a = false) : mag a < 9218868437227405312 := by
  have h1 := Ie.isInf_not.1 h
  unfold isNaN at hn
  simp at hn
  omega
theorem cmpI_le {a b : Int} (h : a ≤ b) : cmpI a b ≤ 0 := by
  unfold cmpI
  split
  · omega
  · split <;> omega

theorem btw_ok {lo mid hi : Nat} {t : Bool × Nat × Int} (h : Btw lo mid hi t) (ok : Ok t) (w : World) (A : Value) (hA : DN w A t) :
    Calls Tryz.prog 29 #[.float .f64 lo, .float .f64 mid, .float .f64 hi, A] w fun r w' => r = .returned (.bool true) ∧ Below w.heap.size w w' := by
  obtain ⟨s1, ao1, n1, cap1, ex1, rfl⟩ := hA.shape
  have f := ok.facts
  have kE : ∀ c d : Int, (c = d → decide (c < d) = false ∧ decide (c = d) = true ∧ decide (c ≠ d) = false) := fun c d e => ⟨decide_eq_false (by omega), decide_eq_true e, decide_eq_false (by omega)⟩
  have kL : ∀ c d : Int, (d = c + 1 → decide (c < d) = true ∧ decide (c = d) = false ∧ decide (c ≠ d) = true) := fun c d e => ⟨decide_eq_true (by omega), decide_eq_false (by omega), decide_eq_true (by omega)⟩
  have hl : ∀ t', Ok t' → -65536 ≤ t'.2.2 := fun t' h' => h'.facts.2.1
  refine btw_all lo mid hi (nxF lo) s1 ao1 n1 cap1 ex1 (if Ie.isInf lo then 0 else ordN (tF lo).1 (tF lo).2.1 (tF lo).2.2 t.1 t.2.1 t.2.2) (if Ie.isInf hi then 0 else ordN t.1 t.2.1 t.2.2 (tF hi).1 (tF hi).2.1 (tF hi).2.2) (Ie.isInf lo) (Ie.isInf hi) (tF lo) (tF hi) w ?_ (Ie.dinf lo h.l1) (Ie.dinf hi h.l3) (fun W hW => float_dn lo h.l1 W) (fun W hW => float_dn hi h.l3 W) (fun hi' W X hW hX => ?_) (fun hi' W X hW hX => ?_) ?_ ?_ h.no
  · rw [o_lt h.l1 h.l2 h.n1 h.n2, o_eq h.l1 h.l2 h.n1 h.n2, o_lt h.l2 h.l3 h.n2 h.n3, o_eq h.l2 h.l3 h.n2 h.n3, o_ne h.l1 h.l3 h.n1 h.n3, o_ne h.l2 h.l1 h.n2 h.n1, o_ne h.l2 h.l3 h.n2 h.n3]
    have q1 := h.s1
    have q2 := h.s2
    have q3 := h.s3
    by_cases e1 : stp hi = stp lo
    · left
      have m1 := kE (stp lo) (stp mid) (by omega)
      have m2 := kE (stp mid) (stp hi) (by omega)
      have m3 := kE (stp lo) (stp hi) (by omega)
      have m4 := kE (stp mid) (stp lo) (by omega)
      exact ⟨m1.1, m1.2.1, m2.1, m2.2.1, m3.2.2, m4.2.2, m2.2.2⟩
    · right
      have e2 : stp hi = stp lo + 1 := by omega
      have hne : lo ≠ 9218868437227405312 := by
        intro e
        have a1 : stp lo = 9218868437227405312 := by rw [e]; decide
        have a2 : mag hi ≤ 9218868437227405312 := by have := h.n3; unfold isNaN at this; simp at this; omega
        have a3 : stp hi ≤ (mag hi : Int) := by unfold stp sgn; split <;> omega
        omega
      obtain ⟨x1, x2, x3⟩ := nxF_stp h.l1 h.n1 hne
      have kx := dnext lo h.l1 h.n1 hne
      have hx : (FloatKind.f64.format.order (nxF lo) hi != some Ordering.eq) = false := by
        rw [o_ne x3 h.l3 x2 h.n3]; exact decide_eq_false (by omega)
      have m3 := kL (stp lo) (stp hi) e2
      by_cases e3 : stp mid = stp lo
      · left
        have m1 := kE (stp lo) (stp mid) (by omega)
        have m2 := kL (stp mid) (stp hi) (by omega)
        have m4 := kE (stp mid) (stp lo) (by omega)
        exact ⟨m1.1, m1.2.1, m2.1, m2.2.1, m3.2.2, m4.2.2, m2.2.2, hx, kx⟩
      · right
        have m1 := kL (stp lo) (stp mid) (by omega)
        have m2 := kE (stp mid) (stp hi) (by omega)
        have m4 : decide (stp mid ≠ stp lo) = true := decide_eq_true e3
        exact ⟨m1.1, m1.2.1, m2.1, m2.2.1, m3.2.2, m4, m2.2.2, hx, kx⟩
  · rw [hi', if_neg (by decide)]
    exact dorder (tF_ok lo) ok hX (hA.later hW)
  · rw [hi', if_neg (by decide)]
    exact dorder ok (tF_ok hi) (hA.later hW) hX
  · cases hi' : Ie.isInf lo
    · rw [if_neg (by decide), ordN_vz (K := 70000) (by have := hl _ (tF_ok lo); omega) (by omega)]
      exact cmpI_le (h.v1 (fin_of h.n1 hi'))
    · rw [if_pos rfl]; omega
  · cases hi' : Ie.isInf hi
    · rw [if_neg (by decide), ordN_vz (K := 70000) (by omega) (by have := hl _ (tF_ok hi); omega)]
      exact cmpI_le (h.v2 (fin_of h.n3 hi'))
    · rw [if_pos rfl]; omega

theorem stp_nought (s : Bool) : stp (sig s 0) = 0 ∧ isNaN (sig s 0) = false ∧ mag (sig s 0) = 0 ∧ sig s 0 < 18446744073709551616 := by cases s <;> exact ⟨by decide, by decide, by decide, by decide⟩
/-- what is rounded three ways lies around its number -/
theorem btw_num {t : Bool × Nat × Int} (ok : Ok t) {F : Int → Nat} (hz : t.2.1 = 0 → ∀ m, 1 ≤ m → m ≤ 3 → ∃ s, F m = sig s 0) (hr : t.2.1 ≠ 0 → ∀ m, 1 ≤ m → m ≤ 3 → F m = tfF t.1 true t.2.1 t.2.2 m) : Btw (F 1) (F 2) (F 3) t := by
  have f := ok.facts
  by_cases h0 : t.2.1 = 0
  · obtain ⟨b1, e1⟩ := hz h0 1 (by omega) (by omega)
    obtain ⟨b2, e2⟩ := hz h0 2 (by omega) (by omega)
    obtain ⟨b3, e3⟩ := hz h0 3 (by omega) (by omega)
    obtain ⟨p1, p2, p3, p4⟩ := stp_nought b1
    obtain ⟨q1, q2, q3, q4⟩ := stp_nought b2
    obtain ⟨r1, r2, r3, r4⟩ := stp_nought b3
    have ht : vz 70000 t.1 t.2.1 t.2.2 = 0 := by unfold vz; rw [h0, sv_zero, Int.zero_mul]
    rw [e1, e2, e3]
    have hv : ∀ b, vz 70000 (tF (sig b 0)).1 (tF (sig b 0)).2.1 (tF (sig b 0)).2.2 = 0 := fun b => by
      obtain ⟨-, -, p3, p4⟩ := stp_nought b
      rw [vz_tF p4 (by omega), p3, bv_zero, Nat.zero_mul, sv_zero]
    refine ⟨p4, q4, r4, p2, q2, r2, by omega, by omega, by omega, fun _ => by rw [hv, ht]; omega, fun _ => by rw [hv, ht]; omega, ?_⟩
    rw [Ie.isInf_not.2 (by omega)]; rfl
  · have ok' : Ok (t.1, t.2.1, t.2.2) := ok
    obtain ⟨m1, m2, m3, m4, -⟩ := order_modes (K := 70000) (by omega) ok'
    have m5 := modes_step ok'
    have g1 := hr h0 1 (by omega) (by omega)
    have g2 := hr h0 2 (by omega) (by omega)
    have g3 := hr h0 3 (by omega) (by omega)
    rw [← g1, ← g2] at m1
    rw [← g2, ← g3] at m2
    rw [← g1] at m3
    rw [← g3] at m4
    rw [← g1, ← g3] at m5
    have k1 : ∀ m, 1 ≤ m → m ≤ 3 → F m < 18446744073709551616 ∧ isNaN (F m) = false := fun m a b => by
      rw [hr h0 m a b, tf_bdy ⟨a, b⟩]
      exact ⟨sig_lt (bdy_le _ _ _), nan_sig (bdy_le _ _ _)⟩
    obtain ⟨a1, b1⟩ := k1 1 (by omega) (by omega)
    obtain ⟨a2, b2⟩ := k1 2 (by omega) (by omega)
    obtain ⟨a3, b3⟩ := k1 3 (by omega) (by omega)
    refine ⟨a1, a2, a3, b1, b2, b3, m1, m2, m5, fun hf => ?_, fun hf => ?_, ?_⟩
    · rw [vz_tF a1 hf, ← vz_num (K := 70000) (by omega) hf]; exact m3 hf
    · rw [vz_tF a3 hf, ← vz_num (K := 70000) (by omega) hf]; exact m4 hf
    · obtain ⟨-, -, o3, -⟩ := bdy_order (K := 70000) (by omega) (x := t.2.1) (e := t.2.2) f.2.1
      cases hs : t.1
      · have : F 1 = sig false (bdy t.2.1 t.2.2 0) := by rw [g1, tf_bdy (by omega), hs]; rfl
        rw [Ie.isInf_not.2 (by rw [this, (mag_sig (bdy_le _ _ _)).1]; omega)]; rfl
      · have : F 3 = sig true (bdy t.2.1 t.2.2 0) := by rw [g3, tf_bdy (by omega), hs]; rfl
        have hq : Ie.isInf (F 3) = false := Ie.isInf_not.2 (by rw [this, (mag_sig (bdy_le _ _ _)).1]; omega)
        rw [hq, Bool.and_false]
end Go.Proofs.YtajeodimbfppiaaGreatDoor

/- RoundHolds: the joints. -/
namespace Go.Proofs.YtajeodimbfppiaaGreatDoor
set_option linter.unusedVariables false
set_option linter.unusedSimpArgs false
open Go.RowKit Go.Fl64

/-- the sum of two finite floats, rounded -/
def addV (a b : Nat) (m : Int) : Nat := if (tS (tF a) (tF b)).2.1 = 0 then sig (z0 (neg a) (neg b) m) 0 else tfF (tS (tF a) (tF b)).1 true (tS (tF a) (tF b)).2.1 (tS (tF a) (tF b)).2.2 m
theorem addV_num {a b : Nat} {m : Int} (hm : 1 ≤ m ∧ m ≤ 3) : isNaN (addV a b m) = false ∧ addV a b m < 18446744073709551616 := by
  unfold addV
  split
  · exact ⟨nan_sig (by omega), sig_lt (by omega)⟩
  · rw [tf_bdy hm]
    exact ⟨nan_sig (bdy_le _ _ _), sig_lt (bdy_le _ _ _)⟩
theorem padd_v (a b : Nat) (m : Int) (hm : 1 ≤ m ∧ m ≤ 3) (ha : a < 18446744073709551616) (hb : b < 18446744073709551616) (hfa : mag a < 9218868437227405312) (hfb : mag b < 9218868437227405312) (w : World) (hT : Tab32 w) (hI : Ie.Tab w) :
    Calls Tryz.prog 10 #[.float .f64 a, .float .f64 b, .int .i64 m] w fun r w' => r = .returned (.float .f64 (addV a b m)) ∧ Below w.heap.size w w' := by
  obtain ⟨X, x1, -, x3, -, x5⟩ := join_FAdd a b m ha hb
  have e : X = addV a b m := x5 (isM_iff.2 hm) hfa hfb
  subst e
  refine (x3 w hT hI).mono ?_
  rintro r w' ⟨n, rfl, hl, hb⟩
  exact ⟨by rw [hl.eq (addV_num hm).1], hb⟩
theorem fMul_num' {a b : Nat} {m : Int} (hm : 1 ≤ m ∧ m ≤ 3) (fa : mag a < 9218868437227405312) (fb : mag b < 9218868437227405312) : isNaN (fMul a b m) = false := by
  unfold fMul
  rw [if_neg (by rw [isM_iff.2 hm]; decide)]
  split
  · unfold mulX
    rw [nan_no (a := a) (by omega), nan_no (a := b) (by omega), if_neg (by decide), if_neg (by omega)]
    exact nan_sig (by omega)
  · rw [tf_bdy hm]
    exact nan_sig (bdy_le _ _ _)
theorem pmul_v (a b : Nat) (m : Int) (hm : 1 ≤ m ∧ m ≤ 3) (ha : a < 18446744073709551616) (hb : b < 18446744073709551616) (hfa : mag a < 9218868437227405312) (hfb : mag b < 9218868437227405312) (w : World) (hT : Tab32 w) (hI : Ie.Tab w) :
    Calls Tryz.prog 17 #[.float .f64 a, .float .f64 b, .int .i64 m] w fun r w' => r = .returned (.float .f64 (fMul a b m)) ∧ Below w.heap.size w w' := by
  refine (pmul_all a b m ha hb w hT hI).mono ?_
  rintro r w' ⟨n, rfl, hl, hb⟩
  exact ⟨by rw [hl.eq (fMul_num' hm hfa hfb)], hb⟩

theorem sum_comm (na : Bool) (x : Nat) (ea : Int) (nb : Bool) (y : Nat) (eb : Int) : cn (sumN na x ea nb y eb).1 (sumN na x ea nb y eb).2.1 (sumN na x ea nb y eb).2.2 = cn (sumN nb y eb na x ea).1 (sumN nb y eb na x ea).2.1 (sumN nb y eb na x ea).2.2 := by
  unfold sumN
  rw [Int.min_comm eb ea]
  by_cases hx : x = 0
  · by_cases hy : y = 0
    · subst hx hy; simp [cn]
    · rw [if_pos hx, if_neg hy, if_pos hx]
  · by_cases hy : y = 0
    · rw [if_neg hx, if_pos hy, if_pos hy]
    · rw [if_neg hx, if_neg hy, if_neg hy, if_neg hx]
      generalize x * 2 ^ (ea - min ea eb).toNat = X
      generalize y * 2 ^ (eb - min ea eb).toNat = Y
      by_cases hs : na = nb
      · rw [if_pos hs, if_pos hs.symm, Nat.add_comm X Y, hs]
      · rw [if_neg hs, if_neg (show ¬ nb = na from fun e => hs e.symm)]
        rcases Nat.lt_trichotomy X Y with h | h | h
        · rw [if_pos h, if_neg (show ¬ Y < X by omega)]
        · subst h
          rw [if_neg (show ¬ X < X by omega), if_neg (show ¬ X < X by omega), Nat.sub_self]
          simp [cn]
        · rw [if_neg (show ¬ X < Y by omega), if_pos h]
theorem tS_comm (t1 t2 : Bool × Nat × Int) : tS t1 t2 = tS t2 t1 := sum_comm _ _ _ _ _ _
theorem z0_comm (s t : Bool) (m : Int) : z0 s t m = z0 t s m := by
  unfold z0; cases s <;> cases t <;> rfl
theorem addV_comm (a b : Nat) (m : Int) : addV a b m = addV b a m := by
  unfold addV; rw [tS_comm (tF b) (tF a), z0_comm (neg b) (neg a)]

theorem ngt_sig {s : Bool} {n : Nat} (h : n ≤ 9218868437227405312) : ngt (sig s n) = sig (!s) n := by
  unfold ngt
  rw [(mag_sig h).2.1]
  unfold sig
  cases s <;> simp <;> omega
theorem tF_ngt {b : Nat} (hb : b < 18446744073709551616) (h0 : mag b ≠ 0) : tF (ngt b) = (!(tF b).1, (tF b).2.1, (tF b).2.2) := by
  have e1 : Ie.mant (ngt b) = Ie.mant b := by unfold Ie.mant; rw [ngt_mag hb]
  have e2 : Ie.lp (ngt b) = Ie.lp b := by unfold Ie.lp; rw [ngt_mag hb]
  unfold tF cn
  rw [e1, e2, ngt_neg hb, if_neg (Ie.mant_ne h0), if_neg (Ie.mant_ne h0)]
theorem tM_ngt {t1 t2 : Bool × Nat × Int} (h : t1.2.1 * t2.2.1 ≠ 0) : tM t1 (!t2.1, t2.2.1, t2.2.2) = (!(tM t1 t2).1, (tM t1 t2).2.1, (tM t1 t2).2.2) := by
  unfold tM cn
  rw [if_neg h, if_neg h]
  cases t1.1 <;> cases t2.1 <;> rfl
theorem turn_mul {a b : Nat} (ha : a < 18446744073709551616) (hb : b < 18446744073709551616) (hfa : mag a < 9218868437227405312) (hfb : mag b < 9218868437227405312) : ngt (fMul a (ngt b) 3) = fMul a b 1 := by
  have em : mag (ngt b) = mag b := ngt_mag hb
  have ep : pln (ngt b) = pln b := by unfold pln; rw [em]
  unfold fMul
  rw [if_neg (show ¬ isM 3 = false by decide), if_neg (show ¬ isM 1 = false by decide), ep]
  by_cases hp : pln a = false ∨ pln b = false
  · rw [if_pos hp, if_pos hp]
    unfold mulX
    rw [nan_no (a := a) (by omega), nan_no (a := b) (by omega), nan_no (a := ngt b) (by omega), if_neg (by decide), if_neg (by omega), if_neg (by decide), if_neg (by omega), ngt_sig (by omega), ngt_neg hb]
    cases neg a <;> cases neg b <;> rfl
  · rw [if_neg hp, if_neg hp]
    have pa : pln a = true := by cases h : pln a; exact absurd (.inl h) hp; rfl
    have pb : pln b = true := by cases h : pln b; exact absurd (.inr h) hp; rfl
    have hb0 := (pln_true.1 pb).2
    rw [tF_ngt hb hb0, tM_ngt (Nat.mul_ne_zero (tF_ne (pln_true.1 pa).2) (tF_ne hb0)), tf_bdy (by omega), tf_bdy (by omega), ngt_sig (bdy_le _ _ _)]
    simp only [Bool.not_not]
    congr 2
    cases (tM (tF a) (tF b)).1 <;> rfl

/-- RoundHolds answers true -/
theorem roundHolds_ok (a b : Nat) (w : World) (ha : a < 18446744073709551616) (hb : b < 18446744073709551616) (hT : Tab32 w) (hI : Ie.Tab w) :
    Calls Tryz.prog 7 #[.float .f64 a, .float .f64 b] w fun r w' => r = .returned (.bool true) ∧ Below w.heap.size w w' := by
  have ka := Ie.dfinite a ha
  have kb := Ie.dfinite b hb
  by_cases hf : mag a < 9218868437227405312 ∧ mag b < 9218868437227405312
  · obtain ⟨hfa, hfb⟩ := hf
    rw [decide_eq_true (show (mag a : Int) < 9218868437227405312 by omega)] at ka
    rw [decide_eq_true (show (mag b : Int) < 9218868437227405312 by omega)] at kb
    have hnb := ngt_lt hb
    have hfn : mag (ngt b) < 9218868437227405312 := by rw [ngt_mag hb]; exact hfb
    have hokR := tS_okR (tF_fits a) (tF_fits b) (by omega) (by omega) (by omega)
    have hokS : Ok (tS (tF a) (tF b)) := ok_cn hokR
    have hokM : Ok (tM (tF a) (tF b)) := tM_ok (tM_okR a b)
    have b1 : Btw (addV a b 1) (addV a b 2) (addV a b 3) (tS (tF a) (tF b)) := btw_num hokS (F := addV a b) (fun h m _ _ => ⟨z0 (neg a) (neg b) m, by unfold addV; rw [if_pos h]⟩) (fun h m _ _ => by unfold addV; rw [if_neg h])
    have b2 : Btw (fMul a b 1) (fMul a b 2) (fMul a b 3) (tM (tF a) (tF b)) := btw_num hokM (F := fMul a b) (fun h m m1 m3 => ⟨neg a != neg b, by
        unfold fMul
        rw [if_neg (by rw [isM_iff.2 ⟨m1, m3⟩]; decide)]
        by_cases hp : pln a = false ∨ pln b = false
        · rw [if_pos hp]
          unfold mulX
          rw [nan_no (a := a) (by omega), nan_no (a := b) (by omega), if_neg (by decide), if_neg (by omega)]
        · have pa : pln a = true := by cases h : pln a; exact absurd (.inl h) hp; rfl
          have pb : pln b = true := by cases h : pln b; exact absurd (.inr h) hp; rfl
          exact absurd h (tM_nought (tF_ne (pln_true.1 pa).2) (tF_ne (pln_true.1 pb).2))⟩) (fun h m m1 m3 => by
        unfold fMul
        rw [if_neg (by rw [isM_iff.2 ⟨m1, m3⟩]; decide)]
        rw [if_neg]
        intro hp
        apply h
        have hz : (tF a).2.1 * (tF b).2.1 = 0 := by
          rcases hp with h | h
          · rw [tF_nought ((pln_false.1 h).resolve_left (by omega)), Nat.zero_mul]
          · rw [tF_nought ((pln_false.1 h).resolve_left (by omega)), Nat.mul_zero]
        unfold tM cn
        rw [if_pos hz])
    have hY := fMul_num' (a := a) (b := ngt b) (m := 3) (by omega) hfa hfn
    exact lawH_1 a b (ngt b) (addV a b 1) (addV a b 2) (addV a b 3) (addV b a 3) (fMul a b 1) (fMul a b 2) (fMul a b 3) (fMul a (ngt b) 3) (ngt (fMul a (ngt b) 3)) (tF a) (tF b) (tS (tF a) (tF b)) (tM (tF a) (tF b)) w ka kb (float_dn a ha w)
      (fun W h => padd_v a b 1 (by omega) ha hb hfa hfb W (hT.later h) (Tab.later hI h)) (fun W h => padd_v a b 2 (by omega) ha hb hfa hfb W (hT.later h) (Tab.later hI h)) (fun W h => padd_v a b 3 (by omega) ha hb hfa hfb W (hT.later h) (Tab.later hI h))
      (fun W h => pmul_v a b 1 (by omega) ha hb hfa hfb W (hT.later h) (Tab.later hI h)) (fun W h => pmul_v a b 2 (by omega) ha hb hfa hfb W (hT.later h) (Tab.later hI h)) (fun W h => pmul_v a b 3 (by omega) ha hb hfa hfb W (hT.later h) (Tab.later hI h))
      (fun W h => float_dn b hb W) (fun W X Y h1 h2 => plus_dn (tF_ok a) (tF_ok b) h1 h2) (fun W X Y h1 h2 => times_dn (tF_ok a) (tF_ok b) h1 h2)
      (fun W A h => btw_ok b1 hokS W A h) (fun W A h => btw_ok b2 hokM W A h)
      (fun W => Ie.dturned b hb W) (fun W h => pmul_v a (ngt b) 3 (by omega) ha hnb hfa hfn W (hT.later h) (Tab.later hI h)) (fun W => Ie.dturned _ fMul_lt W)
      (fun W => by rw [turn_mul ha hb hfa hfb]; exact lsame_ok (lk.refl fMul_lt) fMul_lt W)
      (fun W h => padd_v b a 3 (by omega) hb ha hfb hfa W (hT.later h) (Tab.later hI h))
      (fun W => by rw [addV_comm b a]; exact lsame_ok (lk.refl (addV_num (by omega)).2) (addV_num (by omega)).2 W)
      (fun W h => sure_ok W (hT.later h) (Tab.later hI h))
  · refine lawH_no a b _ _ w ?_ ka kb (sure_ok w hT hI)
    by_cases h1 : mag a < 9218868437227405312
    · rw [decide_eq_false (show ¬ (mag b : Int) < 9218868437227405312 from fun h => hf ⟨h1, by omega⟩), Bool.and_false]
    · rw [decide_eq_false (show ¬ (mag a : Int) < 9218868437227405312 by omega)]; rfl
end Go.Proofs.YtajeodimbfppiaaGreatDoor
