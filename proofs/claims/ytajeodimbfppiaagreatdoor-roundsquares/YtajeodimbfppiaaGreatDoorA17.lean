/- Own work: contracts of the program's functions, part 17: SG3 SF5 SG4. -/
import Derived.Test.YtajeodimbfppiaaGreatDoorA16

/- RoundSquares: the law's walk. -/
namespace Go.Proofs.YtajeodimbfppiaaGreatDoor
set_option linter.unusedVariables false
set_option linter.unusedSimpArgs false
open Go.RowKit Go.Fl64

set_option maxHeartbeats 4000000 in
theorem lawQ_no (a b : Nat) (fa fb ga gb : Bool) (w : World) (hf : (fa && fb && ga && gb) = false)
    (ka : ∀ W, Calls Tryz.prog 27 #[.float .f64 a] W fun r w' => r = .returned (.bool fa) ∧ w' = W) (kb : ∀ W, Calls Tryz.prog 27 #[.float .f64 b] W fun r w' => r = .returned (.bool fb) ∧ w' = W)
    (ha : (FloatKind.f64.format.order a 0 == some Ordering.gt) = ga) (hb : (FloatKind.f64.format.order b 0 == some Ordering.gt) = gb)
    (kS : Calls Tryz.prog 16 #[] w fun r w' => r = .returned (.bool true) ∧ Below w.heap.size w w') :
    Calls Tryz.prog 8 #[.float .f64 a, .float .f64 b] w fun r w' => r = .returned (.bool true) ∧ Below w.heap.size w w' := by
  cases fa <;> cases fb <;> cases ga <;> cases gb
  all_goals first
    | (exfalso; revert hf; decide)
    | (clear hf
       go_enter Tryz.func8, Tryz.ntmps8
       go_wp2_with (go_at_call 27; first | (with_reducible refine (ka _).mono ?_; rintro e w' ⟨rfl, hw⟩; rw [hw]; clear hw w') | (with_reducible refine (kb _).mono ?_; rintro e w' ⟨rfl, hw⟩; rw [hw]; clear hw w'))
       refine kS.mono ?_
       rintro r w1 ⟨rfl, hb1⟩
       have HB : Hid (Below w.heap.size w w1) := hb1
       clear kS hb1
       go_wp2_with fail
       go_ret
       exact ⟨rfl, HB.out⟩)

set_option maxHeartbeats 40000000 in
set_option maxRecDepth 200000 in
theorem lawQ_1 (a b lo hi nx p q np : Nat) (iq eb : Bool) (c1 c3 c5 c7 : Int) (ta tb tl th t1 t3 tp tq t5 t7 : Bool × Nat × Int) (w : World)
    (hc1 : c1 ≤ 0) (hc3 : 0 ≤ c3) (hc5 : c5 ≤ 0) (hc7 : 0 ≤ c7)
    (ka : ∀ W, Calls Tryz.prog 27 #[.float .f64 a] W fun r w' => r = .returned (.bool true) ∧ w' = W) (kb : ∀ W, Calls Tryz.prog 27 #[.float .f64 b] W fun r w' => r = .returned (.bool true) ∧ w' = W)
    (ga : (FloatKind.f64.format.order a 0 == some Ordering.gt) = true) (gb : (FloatKind.f64.format.order b 0 == some Ordering.gt) = true)
    (kfa : Calls Tryz.prog 28 #[.float .f64 a] w fun r w' => ∃ A, r = .returned A ∧ DN w' A ta ∧ Below w.heap.size w w')
    (hcase : ((FloatKind.f64.format.order lo hi == some Ordering.gt) = false ∧ (FloatKind.f64.format.order lo hi != some Ordering.eq) = false) ∨ ((FloatKind.f64.format.order lo hi == some Ordering.gt) = false ∧ (FloatKind.f64.format.order lo hi != some Ordering.eq) = true ∧ (FloatKind.f64.format.order nx hi != some Ordering.eq) = false ∧ (∀ W, Calls Tryz.prog 33 #[.float .f64 lo] W fun r w' => r = .returned (.float .f64 nx) ∧ w' = W)))
    (he : (FloatKind.f64.format.order p q == some Ordering.eq) = eb) (hnp : eb = false → (FloatKind.f64.format.order np q == some Ordering.eq) = true)
    (kS1 : ∀ W, Below w.heap.size w W → Calls Tryz.prog 21 #[.float .f64 a, .int .i64 1] W fun r w' => r = .returned (.float .f64 lo) ∧ Below W.heap.size W w')
    (kS3 : ∀ W, Below w.heap.size w W → Calls Tryz.prog 21 #[.float .f64 a, .int .i64 3] W fun r w' => r = .returned (.float .f64 hi) ∧ Below W.heap.size W w')
    (kFl : ∀ W, Calls Tryz.prog 27 #[.float .f64 lo] W fun r w' => r = .returned (.bool true) ∧ w' = W)
    (kFh : ∀ W, Calls Tryz.prog 27 #[.float .f64 hi] W fun r w' => r = .returned (.bool true) ∧ w' = W)
    (kfl : ∀ W, Calls Tryz.prog 28 #[.float .f64 lo] W fun r w' => ∃ A, r = .returned A ∧ DN w' A tl ∧ Below W.heap.size W w')
    (kfh : ∀ W, Calls Tryz.prog 28 #[.float .f64 hi] W fun r w' => ∃ A, r = .returned A ∧ DN w' A th ∧ Below W.heap.size W w')
    (kT1 : ∀ W X Y, DN W X tl → DN W Y tl → Calls Tryz.prog 31 #[X, Y] W fun r w' => ∃ A, r = .returned A ∧ DN w' A t1 ∧ Below W.heap.size W w')
    (kT3 : ∀ W X Y, DN W X th → DN W Y th → Calls Tryz.prog 31 #[X, Y] W fun r w' => ∃ A, r = .returned A ∧ DN w' A t3 ∧ Below W.heap.size W w')
    (kO1 : ∀ W X Y, DN W X t1 → DN W Y ta → Calls Tryz.prog 34 #[X, Y] W fun r w' => r = .returned (.int .i64 c1) ∧ Below W.heap.size W w')
    (kO3 : ∀ W X Y, DN W X t3 → DN W Y ta → Calls Tryz.prog 34 #[X, Y] W fun r w' => r = .returned (.int .i64 c3) ∧ Below W.heap.size W w')
    (kD1 : ∀ W, Below w.heap.size w W → Calls Tryz.prog 19 #[.float .f64 a, .float .f64 b, .int .i64 1] W fun r w' => r = .returned (.float .f64 p) ∧ Below W.heap.size W w')
    (kD3 : ∀ W, Below w.heap.size w W → Calls Tryz.prog 19 #[.float .f64 a, .float .f64 b, .int .i64 3] W fun r w' => r = .returned (.float .f64 q) ∧ Below W.heap.size W w')
    (kfb : ∀ W, Calls Tryz.prog 28 #[.float .f64 b] W fun r w' => ∃ A, r = .returned A ∧ DN w' A tb ∧ Below W.heap.size W w')
    (kFp : ∀ W, Calls Tryz.prog 27 #[.float .f64 p] W fun r w' => r = .returned (.bool true) ∧ w' = W)
    (kNq : ∀ W, Calls Tryz.prog 35 #[.float .f64 q] W fun r w' => r = .returned (.bool false) ∧ w' = W)
    (kfp : ∀ W, Calls Tryz.prog 28 #[.float .f64 p] W fun r w' => ∃ A, r = .returned A ∧ DN w' A tp ∧ Below W.heap.size W w')
    (kTp : ∀ W X Y, DN W X tp → DN W Y tb → Calls Tryz.prog 31 #[X, Y] W fun r w' => ∃ A, r = .returned A ∧ DN w' A t5 ∧ Below W.heap.size W w')
    (kO5 : ∀ W X Y, DN W X t5 → DN W Y ta → Calls Tryz.prog 34 #[X, Y] W fun r w' => r = .returned (.int .i64 c5) ∧ Below W.heap.size W w')
    (kIq : ∀ W, Calls Tryz.prog 36 #[.float .f64 q] W fun r w' => r = .returned (.bool iq) ∧ w' = W)
    (kfq : ∀ W, Calls Tryz.prog 28 #[.float .f64 q] W fun r w' => ∃ A, r = .returned A ∧ DN w' A tq ∧ Below W.heap.size W w')
    (kTq : ∀ W X Y, DN W X tq → DN W Y tb → Calls Tryz.prog 31 #[X, Y] W fun r w' => ∃ A, r = .returned A ∧ DN w' A t7 ∧ Below W.heap.size W w')
    (kO7 : iq = false → ∀ W X Y, DN W X t7 → DN W Y ta → Calls Tryz.prog 34 #[X, Y] W fun r w' => r = .returned (.int .i64 c7) ∧ Below W.heap.size W w')
    (kNp : eb = false → ∀ W, Calls Tryz.prog 33 #[.float .f64 p] W fun r w' => r = .returned (.float .f64 np) ∧ w' = W)
    (kU : ∀ W, Below w.heap.size w W → Calls Tryz.prog 16 #[] W fun r w' => r = .returned (.bool true) ∧ Below W.heap.size W w') :
    Calls Tryz.prog 8 #[.float .f64 a, .float .f64 b] w fun r w' => r = .returned (.bool true) ∧ Below w.heap.size w w' := by
  have HkS1 : Hid (∀ W, Below w.heap.size w W → Calls Tryz.prog 21 #[.float .f64 a, .int .i64 1] W fun r w' => r = .returned (.float .f64 lo) ∧ Below W.heap.size W w') := kS1
  have HkS3 : Hid (∀ W, Below w.heap.size w W → Calls Tryz.prog 21 #[.float .f64 a, .int .i64 3] W fun r w' => r = .returned (.float .f64 hi) ∧ Below W.heap.size W w') := kS3
  have HkFl : Hid (∀ W, Calls Tryz.prog 27 #[.float .f64 lo] W fun r w' => r = .returned (.bool true) ∧ w' = W) := kFl
  have HkFh : Hid (∀ W, Calls Tryz.prog 27 #[.float .f64 hi] W fun r w' => r = .returned (.bool true) ∧ w' = W) := kFh
  have Hkfl : Hid (∀ W, Calls Tryz.prog 28 #[.float .f64 lo] W fun r w' => ∃ A, r = .returned A ∧ DN w' A tl ∧ Below W.heap.size W w') := kfl
  have Hkfh : Hid (∀ W, Calls Tryz.prog 28 #[.float .f64 hi] W fun r w' => ∃ A, r = .returned A ∧ DN w' A th ∧ Below W.heap.size W w') := kfh
  have HkT1 : Hid (∀ W X Y, DN W X tl → DN W Y tl → Calls Tryz.prog 31 #[X, Y] W fun r w' => ∃ A, r = .returned A ∧ DN w' A t1 ∧ Below W.heap.size W w') := kT1
  have HkT3 : Hid (∀ W X Y, DN W X th → DN W Y th → Calls Tryz.prog 31 #[X, Y] W fun r w' => ∃ A, r = .returned A ∧ DN w' A t3 ∧ Below W.heap.size W w') := kT3
  have HkO1 : Hid (∀ W X Y, DN W X t1 → DN W Y ta → Calls Tryz.prog 34 #[X, Y] W fun r w' => r = .returned (.int .i64 c1) ∧ Below W.heap.size W w') := kO1
  have HkO3 : Hid (∀ W X Y, DN W X t3 → DN W Y ta → Calls Tryz.prog 34 #[X, Y] W fun r w' => r = .returned (.int .i64 c3) ∧ Below W.heap.size W w') := kO3
  have HkD1 : Hid (∀ W, Below w.heap.size w W → Calls Tryz.prog 19 #[.float .f64 a, .float .f64 b, .int .i64 1] W fun r w' => r = .returned (.float .f64 p) ∧ Below W.heap.size W w') := kD1
  have HkD3 : Hid (∀ W, Below w.heap.size w W → Calls Tryz.prog 19 #[.float .f64 a, .float .f64 b, .int .i64 3] W fun r w' => r = .returned (.float .f64 q) ∧ Below W.heap.size W w') := kD3
  have Hkfb : Hid (∀ W, Calls Tryz.prog 28 #[.float .f64 b] W fun r w' => ∃ A, r = .returned A ∧ DN w' A tb ∧ Below W.heap.size W w') := kfb
  have HkFp : Hid (∀ W, Calls Tryz.prog 27 #[.float .f64 p] W fun r w' => r = .returned (.bool true) ∧ w' = W) := kFp
  have HkNq : Hid (∀ W, Calls Tryz.prog 35 #[.float .f64 q] W fun r w' => r = .returned (.bool false) ∧ w' = W) := kNq
  have Hkfp : Hid (∀ W, Calls Tryz.prog 28 #[.float .f64 p] W fun r w' => ∃ A, r = .returned A ∧ DN w' A tp ∧ Below W.heap.size W w') := kfp
  have HkTp : Hid (∀ W X Y, DN W X tp → DN W Y tb → Calls Tryz.prog 31 #[X, Y] W fun r w' => ∃ A, r = .returned A ∧ DN w' A t5 ∧ Below W.heap.size W w') := kTp
  have HkO5 : Hid (∀ W X Y, DN W X t5 → DN W Y ta → Calls Tryz.prog 34 #[X, Y] W fun r w' => r = .returned (.int .i64 c5) ∧ Below W.heap.size W w') := kO5
  have HkIq : Hid (∀ W, Calls Tryz.prog 36 #[.float .f64 q] W fun r w' => r = .returned (.bool iq) ∧ w' = W) := kIq
  have Hkfq : Hid (∀ W, Calls Tryz.prog 28 #[.float .f64 q] W fun r w' => ∃ A, r = .returned A ∧ DN w' A tq ∧ Below W.heap.size W w') := kfq
  have HkTq : Hid (∀ W X Y, DN W X tq → DN W Y tb → Calls Tryz.prog 31 #[X, Y] W fun r w' => ∃ A, r = .returned A ∧ DN w' A t7 ∧ Below W.heap.size W w') := kTq
  have HkO7 : Hid (iq = false → ∀ W X Y, DN W X t7 → DN W Y ta → Calls Tryz.prog 34 #[X, Y] W fun r w' => r = .returned (.int .i64 c7) ∧ Below W.heap.size W w') := kO7
  have HkNp : Hid (eb = false → ∀ W, Calls Tryz.prog 33 #[.float .f64 p] W fun r w' => r = .returned (.float .f64 np) ∧ w' = W) := kNp
  have HkU : Hid (∀ W, Below w.heap.size w W → Calls Tryz.prog 16 #[] W fun r w' => r = .returned (.bool true) ∧ Below W.heap.size W w') := kU
  have HC : Hid (((FloatKind.f64.format.order lo hi == some Ordering.gt) = false ∧ (FloatKind.f64.format.order lo hi != some Ordering.eq) = false) ∨ ((FloatKind.f64.format.order lo hi == some Ordering.gt) = false ∧ (FloatKind.f64.format.order lo hi != some Ordering.eq) = true ∧ (FloatKind.f64.format.order nx hi != some Ordering.eq) = false ∧ (∀ W, Calls Tryz.prog 33 #[.float .f64 lo] W fun r w' => r = .returned (.float .f64 nx) ∧ w' = W))) := hcase
  have HE : Hid ((FloatKind.f64.format.order p q == some Ordering.eq) = eb ∧ (eb = false → (FloatKind.f64.format.order np q == some Ordering.eq) = true)) := ⟨he, hnp⟩
  have HD : Hid (c1 ≤ 0 ∧ 0 ≤ c3 ∧ c5 ≤ 0 ∧ 0 ≤ c7) := ⟨hc1, hc3, hc5, hc7⟩
  have kA := ka w
  have kB := kb w
  clear ka kb hcase he hnp hc1 hc3 hc5 hc7 kS1 kS3 kFl kFh kfl kfh kT1 kT3 kO1 kO3 kD1 kD3 kfb kFp kNq kfp kTp kO5 kIq kfq kTq kO7 kNp kU
  go_enter Tryz.func8, Tryz.ntmps8
  go_wp2_with fail
  refine kA.mono ?_
  rintro r w' ⟨rfl, hw⟩
  rw [hw]
  clear hw kA w'
  go_wp2_with fail
  refine kB.mono ?_
  rintro r w' ⟨rfl, hw⟩
  rw [hw]
  clear hw kB w'
  go_wp2_with fail
  refine kfa.mono ?_
  rintro r w1 ⟨A1, rfl, hP1, hb1⟩
  obtain ⟨s1, ao1, n1, cap1, ex1, rfl⟩ := hP1.shape
  clear kfa ga gb
  obtain ⟨V1, hV1⟩ : ∃ V1, V1 = w1.alloc (.cells #[.bool s1, .slice ao1 n1 cap1, .int .i64 ex1] 38) := ⟨_, rfl⟩
  have HX1 : Hid (Below w.heap.size w V1 ∧ V1.heap[w1.heap.size]? = some (.cells #[.bool s1, .slice ao1 n1 cap1, .int .i64 ex1] 38 (0, 0)) ∧ DN V1 (.agg #[.bool s1, .slice ao1 n1 cap1, .int .i64 ex1]) ta) := ⟨by rw [hV1]; exact hb1.alloc hb1.size _, by rw [hV1]; exact heap_alloc_new _ _, by rw [hV1]; exact hP1.later ((Below.refl _ _).alloc (Nat.le_refl _) _)⟩
  clear hP1 hb1
  go_upto_region 4 with fail
  rw [← hV1]
  clear hV1
  generalize w1.heap.size = g1 at *
  have k1 := HkS1.out V1 HX1.out.1
  go_wp2_with fail
  refine k1.mono ?_
  rintro r w2 ⟨rfl, hb2⟩
  have HX2 : Hid (Below w.heap.size w w2 ∧ w2.heap[g1]? = some (.cells #[.bool s1, .slice ao1 n1 cap1, .int .i64 ex1] 38 (0, 0)) ∧ DN w2 (.agg #[.bool s1, .slice ao1 n1 cap1, .int .i64 ex1]) ta) := ⟨HX1.out.1.trans (hb2.mono HX1.out.1.size), box_later HX1.out.2.1 hb2 (lt_of_box HX1.out.2.1), HX1.out.2.2.later hb2⟩
  clear k1 hb2 HX1
  have k1 := HkS3.out w2 HX2.out.1
  go_wp2_with fail
  refine k1.mono ?_
  rintro r w3 ⟨rfl, hb3⟩
  have HX3 : Hid (Below w.heap.size w w3 ∧ w3.heap[g1]? = some (.cells #[.bool s1, .slice ao1 n1 cap1, .int .i64 ex1] 38 (0, 0)) ∧ DN w3 (.agg #[.bool s1, .slice ao1 n1 cap1, .int .i64 ex1]) ta) := ⟨HX2.out.1.trans (hb3.mono HX2.out.1.size), box_later HX2.out.2.1 hb3 (lt_of_box HX2.out.2.1), HX2.out.2.2.later hb3⟩
  clear k1 hb3 HX2
  go_upto_region 5 with fail
  go_cut [61] from 38 to 60 (fun v wx => v = .bool false ∧ wx = w3)
  case first =>
    have kl := HkFl.out
    have kh := HkFh.out
    rcases HC.out with ⟨f1, f2⟩ | ⟨f1, f2, f3, kx⟩
    · go_wp2_with (go_at_call 27; first | (with_reducible refine (kl _).mono ?_; rintro e w' ⟨rfl, hw⟩; rw [hw]; clear hw w') | (with_reducible refine (kh _).mono ?_; rintro e w' ⟨rfl, hw⟩; rw [hw]; clear hw w'))
      go_meet
      exact ⟨rfl, rfl⟩
    · go_wp2_with (first | (go_at_call 33; refine (kx _).mono ?_; rintro e w' ⟨rfl, hw⟩; rw [hw]; clear hw w') | (go_at_call 27; first | (with_reducible refine (kl _).mono ?_; rintro e w' ⟨rfl, hw⟩; rw [hw]; clear hw w') | (with_reducible refine (kh _).mono ?_; rintro e w' ⟨rfl, hw⟩; rw [hw]; clear hw w')))
      go_meet
      exact ⟨rfl, rfl⟩
  case rest =>
    obtain ⟨rfl, hwc⟩ := hcut
    rw [hwc]
    clear hwc wc HC HkFl HkFh
    have k1 := Hkfl.out w3
    go_wp2_with fail
    refine k1.mono ?_
    rintro r w4 ⟨A2, rfl, hP2, hb4⟩
    have HX4 : Hid (Below w.heap.size w w4 ∧ w4.heap[g1]? = some (.cells #[.bool s1, .slice ao1 n1 cap1, .int .i64 ex1] 38 (0, 0)) ∧ DN w4 (.agg #[.bool s1, .slice ao1 n1 cap1, .int .i64 ex1]) ta) := ⟨HX3.out.1.trans (hb4.mono HX3.out.1.size), box_later HX3.out.2.1 hb4 (lt_of_box HX3.out.2.1), HX3.out.2.2.later hb4⟩
    clear k1 hb4 HX3
    have k1 := Hkfh.out w4
    go_wp2_with fail
    refine k1.mono ?_
    rintro r w5 ⟨A3, rfl, hP3, hb5⟩
    obtain ⟨s2, ao2, n2, cap2, ex2, rfl⟩ := hP2.shape
    obtain ⟨s3, ao3, n3, cap3, ex3, rfl⟩ := hP3.shape
    obtain ⟨V, hV⟩ : ∃ V, V = (w5.alloc (.cells #[.bool s2, .slice ao2 n2 cap2, .int .i64 ex2] 38)).alloc (.cells #[.bool s3, .slice ao3 n3 cap3, .int .i64 ex3] 38) := ⟨_, rfl⟩
    have hh := two29 _ _ hV
    have hb6 : Below w4.heap.size w4 V := hb5.trans (hh.2.2.2.mono hb5.size)
    have HX : Hid (Below w.heap.size w V ∧ (V.heap[g1]? = some (.cells #[.bool s1, .slice ao1 n1 cap1, .int .i64 ex1] 38 (0, 0)) ∧ DN V (.agg #[.bool s1, .slice ao1 n1 cap1, .int .i64 ex1]) ta) ∧ (V.heap[w5.heap.size]? = some (.cells #[.bool s2, .slice ao2 n2 cap2, .int .i64 ex2] 38 (0, 0)) ∧ DN V (.agg #[.bool s2, .slice ao2 n2 cap2, .int .i64 ex2]) tl) ∧ (V.heap[w5.heap.size + 1]? = some (.cells #[.bool s3, .slice ao3 n3 cap3, .int .i64 ex3] 38 (0, 0)) ∧ DN V (.agg #[.bool s3, .slice ao3 n3 cap3, .int .i64 ex3]) th)) := ⟨HX4.out.1.trans (hb6.mono HX4.out.1.size), ⟨box_later HX4.out.2.1 hb6 (lt_of_box HX4.out.2.1), HX4.out.2.2.later hb6⟩, ⟨hh.1, (hP2.later hb5).later hh.2.2.2⟩, ⟨hh.2.1, hP3.later hh.2.2.2⟩⟩
    clear k1 hb5 hb6 hh hP2 hP3 HX4
    go_upto_region 8 with fail
    rw [← hV]
    clear hV
    generalize w5.heap.size = g5 at *
    have HK : Hid (∀ w', Below V.heap.size V w' → ((w'.cell? ⟨g1, 0, none⟩ = some (.bool s1) ∧ w'.cell? ⟨g1, 1, none⟩ = some (.slice ao1 n1 cap1) ∧ w'.cell? ⟨g1, 2, none⟩ = some (.int .i64 ex1)) ∧ (w'.cell? ⟨g5, 0, none⟩ = some (.bool s2) ∧ w'.cell? ⟨g5, 1, none⟩ = some (.slice ao2 n2 cap2) ∧ w'.cell? ⟨g5, 2, none⟩ = some (.int .i64 ex2)) ∧ (w'.cell? ⟨g5 + 1, 0, none⟩ = some (.bool s3) ∧ w'.cell? ⟨g5 + 1, 1, none⟩ = some (.slice ao3 n3 cap3) ∧ w'.cell? ⟨g5 + 1, 2, none⟩ = some (.int .i64 ex3))) ∧ Below V.heap.size V w') := fun w' hb => ⟨⟨(box_cells29 (box_later HX.out.2.1.1 hb (lt_of_box HX.out.2.1.1))).1, (box_cells29 (box_later HX.out.2.2.1.1 hb (lt_of_box HX.out.2.2.1.1))).1, (box_cells29 (box_later HX.out.2.2.2.1 hb (lt_of_box HX.out.2.2.2.1))).1⟩, hb⟩
    have hBR : Below V.heap.size V V.drew := (Below.refl _ _).drew
    have x1 : ¬ 0 < c1 := by have := HD.out.1; omega
    have x2 : decide (0 < c1) = false := decide_eq_false x1
    have x3 : ¬ c3 < 0 := by have := HD.out.2.1; omega
    have x4 : decide (c3 < 0) = false := decide_eq_false x3
    have qt1 : ∀ w4, Below V.heap.size V w4 → Calls Tryz.prog 31 #[.agg #[.bool s2, .slice ao2 n2 cap2, .int .i64 ex2], .agg #[.bool s2, .slice ao2 n2 cap2, .int .i64 ex2]] w4 fun r w' => ∃ A, r = .returned A ∧ DN w' A t1 ∧ Below V.heap.size V w' := fun w4 hb => (HkT1.out w4 _ _ (HX.out.2.2.1.2.later hb) (HX.out.2.2.1.2.later hb)).mono fun r w' ⟨A, e1, e2, e3⟩ => ⟨A, e1, e2, hb.trans (e3.mono hb.size)⟩
    have qt3 : ∀ w4, Below V.heap.size V w4 → Calls Tryz.prog 31 #[.agg #[.bool s3, .slice ao3 n3 cap3, .int .i64 ex3], .agg #[.bool s3, .slice ao3 n3 cap3, .int .i64 ex3]] w4 fun r w' => ∃ A, r = .returned A ∧ DN w' A t3 ∧ Below V.heap.size V w' := fun w4 hb => (HkT3.out w4 _ _ (HX.out.2.2.2.2.later hb) (HX.out.2.2.2.2.later hb)).mono fun r w' ⟨A, e1, e2, e3⟩ => ⟨A, e1, e2, hb.trans (e3.mono hb.size)⟩
    have qo1 : ∀ w4 X, Below V.heap.size V w4 → DN w4 X t1 → Calls Tryz.prog 34 #[X, .agg #[.bool s1, .slice ao1 n1 cap1, .int .i64 ex1]] w4 fun r w' => r = .returned (.int .i64 c1) ∧ Below V.heap.size V w' := fun w4 X hb h => (HkO1.out w4 _ _ h (HX.out.2.1.2.later hb)).mono fun r w' ⟨e1, e3⟩ => ⟨e1, hb.trans (e3.mono hb.size)⟩
    have qo3 : ∀ w4 X, Below V.heap.size V w4 → DN w4 X t3 → Calls Tryz.prog 34 #[X, .agg #[.bool s1, .slice ao1 n1 cap1, .int .i64 ex1]] w4 fun r w' => r = .returned (.int .i64 c3) ∧ Below V.heap.size V w' := fun w4 X hb h => (HkO3.out w4 _ _ h (HX.out.2.1.2.later hb)).mono fun r w' ⟨e1, e3⟩ => ⟨e1, hb.trans (e3.mono hb.size)⟩
    obtain ⟨⟨⟨a0, a1, a2⟩, ⟨b0, b1, b2⟩, ⟨d0, d1, d2⟩⟩, -⟩ := HK.out V (Below.refl _ _)
    go_region_held3 (fun w' => ((w'.cell? ⟨g1, 0, none⟩ = some (.bool s1) ∧ w'.cell? ⟨g1, 1, none⟩ = some (.slice ao1 n1 cap1) ∧ w'.cell? ⟨g1, 2, none⟩ = some (.int .i64 ex1)) ∧ (w'.cell? ⟨g5, 0, none⟩ = some (.bool s2) ∧ w'.cell? ⟨g5, 1, none⟩ = some (.slice ao2 n2 cap2) ∧ w'.cell? ⟨g5, 2, none⟩ = some (.int .i64 ex2)) ∧ (w'.cell? ⟨g5 + 1, 0, none⟩ = some (.bool s3) ∧ w'.cell? ⟨g5 + 1, 1, none⟩ = some (.slice ao3 n3 cap3) ∧ w'.cell? ⟨g5 + 1, 2, none⟩ = some (.int .i64 ex3))) ∧ Below V.heap.size V w') (first | (with_reducible assumption) | exact ⟨⟨⟨a0, a1, a2⟩, ⟨b0, b1, b2⟩, ⟨d0, d1, d2⟩⟩, hBR⟩ | (refine HK.out _ ?_; with_reducible assumption) | go_keep)
      (first | (go_at_call 31; first | (have hq := hb7; clear hq; refine (qt3 _ hb7).mono ?_; rintro r w8 ⟨A8, rfl, hP8, hb8⟩) | (refine (qt1 _ hBR).mono ?_; rintro r w6 ⟨A6, rfl, hP6, hb6⟩))
             | (go_at_call 34; first | (have hq := hb8; clear hq; refine (qo3 _ _ hb8 hP8).mono ?_; rintro r w9 ⟨rfl, hb9⟩) | (refine (qo1 _ _ hb6 hP6).mono ?_; rintro r w7 ⟨rfl, hb7⟩)))
    have HX9 : Hid (Below w.heap.size w w9 ∧ w9.heap[g1]? = some (.cells #[.bool s1, .slice ao1 n1 cap1, .int .i64 ex1] 38 (0, 0)) ∧ DN w9 (.agg #[.bool s1, .slice ao1 n1 cap1, .int .i64 ex1]) ta) := ⟨HX.out.1.trans (hb9.mono HX.out.1.size), box_later HX.out.2.1.1 hb9 (lt_of_box HX.out.2.1.1), HX.out.2.1.2.later hb9⟩
    clear hb6 hb7 hb8 hb9 hP6 hP8 qt1 qt3 qo1 qo3 HK hBR a0 a1 a2 b0 b1 b2 d0 d1 d2 HX
    have k1 := HkD1.out w9 HX9.out.1
    go_wp2_with fail
    refine k1.mono ?_
    rintro r wa ⟨rfl, hb2⟩
    have HXa : Hid (Below w.heap.size w wa ∧ wa.heap[g1]? = some (.cells #[.bool s1, .slice ao1 n1 cap1, .int .i64 ex1] 38 (0, 0)) ∧ DN wa (.agg #[.bool s1, .slice ao1 n1 cap1, .int .i64 ex1]) ta) := ⟨HX9.out.1.trans (hb2.mono HX9.out.1.size), box_later HX9.out.2.1 hb2 (lt_of_box HX9.out.2.1), HX9.out.2.2.later hb2⟩
    clear k1 hb2 HX9
    have k1 := HkD3.out wa HXa.out.1
    go_wp2_with fail
    refine k1.mono ?_
    rintro r wb ⟨rfl, hb2⟩
    have HXb : Hid (Below w.heap.size w wb ∧ wb.heap[g1]? = some (.cells #[.bool s1, .slice ao1 n1 cap1, .int .i64 ex1] 38 (0, 0)) ∧ DN wb (.agg #[.bool s1, .slice ao1 n1 cap1, .int .i64 ex1]) ta) := ⟨HXa.out.1.trans (hb2.mono HXa.out.1.size), box_later HXa.out.2.1 hb2 (lt_of_box HXa.out.2.1), HXa.out.2.2.later hb2⟩
    clear k1 hb2 HXa
    have k1 := Hkfb.out wb
    go_wp2_with fail
    refine k1.mono ?_
    rintro r wd ⟨A4, rfl, hP4, hb4⟩
    obtain ⟨s4, ao4, n4, cap4, ex4, rfl⟩ := hP4.shape

    obtain ⟨V, hV⟩ : ∃ V, V = wd.alloc (.cells #[.bool s4, .slice ao4 n4 cap4, .int .i64 ex4] 38) := ⟨_, rfl⟩
    have hb5 : Below wb.heap.size wb V := by rw [hV]; exact hb4.alloc hb4.size _
    have HX : Hid (Below w.heap.size w V ∧ (V.heap[g1]? = some (.cells #[.bool s1, .slice ao1 n1 cap1, .int .i64 ex1] 38 (0, 0)) ∧ DN V (.agg #[.bool s1, .slice ao1 n1 cap1, .int .i64 ex1]) ta) ∧ (V.heap[wd.heap.size]? = some (.cells #[.bool s4, .slice ao4 n4 cap4, .int .i64 ex4] 38 (0, 0)) ∧ DN V (.agg #[.bool s4, .slice ao4 n4 cap4, .int .i64 ex4]) tb)) := ⟨HXb.out.1.trans (hb5.mono HXb.out.1.size), ⟨box_later HXb.out.2.1 hb5 (lt_of_box HXb.out.2.1), HXb.out.2.2.later hb5⟩, ⟨by rw [hV]; exact heap_alloc_new _ _, by rw [hV]; exact hP4.later ((Below.refl _ _).alloc (Nat.le_refl _) _)⟩⟩
    clear k1 hb4 hb5 hP4 HXb
    go_upto_region 12 with fail
    rw [← hV]
    clear hV
    generalize wd.heap.size = g4 at *
    have HK : Hid (∀ w', Below V.heap.size V w' → ((w'.cell? ⟨g1, 0, none⟩ = some (.bool s1) ∧ w'.cell? ⟨g1, 1, none⟩ = some (.slice ao1 n1 cap1) ∧ w'.cell? ⟨g1, 2, none⟩ = some (.int .i64 ex1)) ∧ (w'.cell? ⟨g4, 0, none⟩ = some (.bool s4) ∧ w'.cell? ⟨g4, 1, none⟩ = some (.slice ao4 n4 cap4) ∧ w'.cell? ⟨g4, 2, none⟩ = some (.int .i64 ex4))) ∧ Below V.heap.size V w') := fun w' hb => ⟨⟨(box_cells29 (box_later HX.out.2.1.1 hb (lt_of_box HX.out.2.1.1))).1, (box_cells29 (box_later HX.out.2.2.1 hb (lt_of_box HX.out.2.2.1))).1⟩, hb⟩
    have hBR : Below V.heap.size V V.drew := (Below.refl _ _).drew
    have x1 : ¬ 0 < c5 := by have := HD.out.2.2.1; omega
    have x2 : decide (0 < c5) = false := decide_eq_false x1
    have qp : ∀ w4, Below V.heap.size V w4 → Calls Tryz.prog 27 #[.float .f64 p] w4 fun r w' => r = .returned (.bool true) ∧ Below V.heap.size V w' := fun w4 hb => (HkFp.out w4).mono fun r w' ⟨e1, e2⟩ => ⟨e1, by rw [e2]; exact hb⟩
    have qn : ∀ w4, Below V.heap.size V w4 → Calls Tryz.prog 35 #[.float .f64 q] w4 fun r w' => r = .returned (.bool false) ∧ Below V.heap.size V w' := fun w4 hb => (HkNq.out w4).mono fun r w' ⟨e1, e2⟩ => ⟨e1, by rw [e2]; exact hb⟩
    have qf : ∀ w4, Below V.heap.size V w4 → Calls Tryz.prog 28 #[.float .f64 p] w4 fun r w' => ∃ A, r = .returned A ∧ DN w' A tp ∧ Below V.heap.size V w' := fun w4 hb => (Hkfp.out w4).mono fun r w' ⟨A, e1, e2, e3⟩ => ⟨A, e1, e2, hb.trans (e3.mono hb.size)⟩
    have qt : ∀ w4 X, Below V.heap.size V w4 → DN w4 X tp → Calls Tryz.prog 31 #[X, .agg #[.bool s4, .slice ao4 n4 cap4, .int .i64 ex4]] w4 fun r w' => ∃ A, r = .returned A ∧ DN w' A t5 ∧ Below V.heap.size V w' := fun w4 X hb h => (HkTp.out w4 _ _ h (HX.out.2.2.2.later hb)).mono fun r w' ⟨A, e1, e2, e3⟩ => ⟨A, e1, e2, hb.trans (e3.mono hb.size)⟩
    have qo : ∀ w4 X, Below V.heap.size V w4 → DN w4 X t5 → Calls Tryz.prog 34 #[X, .agg #[.bool s1, .slice ao1 n1 cap1, .int .i64 ex1]] w4 fun r w' => r = .returned (.int .i64 c5) ∧ Below V.heap.size V w' := fun w4 X hb h => (HkO5.out w4 _ _ h (HX.out.2.1.2.later hb)).mono fun r w' ⟨e1, e3⟩ => ⟨e1, hb.trans (e3.mono hb.size)⟩
    obtain ⟨⟨⟨a0, a1, a2⟩, ⟨b0, b1, b2⟩⟩, -⟩ := HK.out V (Below.refl _ _)
    go_region_held3 (fun w' => ((w'.cell? ⟨g1, 0, none⟩ = some (.bool s1) ∧ w'.cell? ⟨g1, 1, none⟩ = some (.slice ao1 n1 cap1) ∧ w'.cell? ⟨g1, 2, none⟩ = some (.int .i64 ex1)) ∧ (w'.cell? ⟨g4, 0, none⟩ = some (.bool s4) ∧ w'.cell? ⟨g4, 1, none⟩ = some (.slice ao4 n4 cap4) ∧ w'.cell? ⟨g4, 2, none⟩ = some (.int .i64 ex4))) ∧ Below V.heap.size V w') (first | (with_reducible assumption) | exact ⟨⟨⟨a0, a1, a2⟩, ⟨b0, b1, b2⟩⟩, hBR⟩ | (refine HK.out _ ?_; with_reducible assumption) | go_keep)
      (first | (go_at_call 27; refine (qp _ hBR).mono ?_; rintro r w5 ⟨rfl, hb5⟩)
             | (go_at_call 35; refine (qn _ hb5).mono ?_; rintro r w6 ⟨rfl, hb6⟩)
             | (go_at_call 28; refine (qf _ hb6).mono ?_; rintro r w7 ⟨A7, rfl, hP7, hb7⟩)
             | (go_at_call 31; refine (qt _ _ hb7 hP7).mono ?_; rintro r w8 ⟨A8, rfl, hP8, hb8⟩)
             | (go_at_call 34; refine (qo _ _ hb8 hP8).mono ?_; rintro r w9 ⟨rfl, hb9⟩))
    have HY : Hid (Below w.heap.size w w9 ∧ (w9.heap[g1]? = some (.cells #[.bool s1, .slice ao1 n1 cap1, .int .i64 ex1] 38 (0, 0)) ∧ DN w9 (.agg #[.bool s1, .slice ao1 n1 cap1, .int .i64 ex1]) ta) ∧ (w9.heap[g4]? = some (.cells #[.bool s4, .slice ao4 n4 cap4, .int .i64 ex4] 38 (0, 0)) ∧ DN w9 (.agg #[.bool s4, .slice ao4 n4 cap4, .int .i64 ex4]) tb)) := ⟨HX.out.1.trans (hb9.mono HX.out.1.size), ⟨box_later HX.out.2.1.1 hb9 (lt_of_box HX.out.2.1.1), HX.out.2.1.2.later hb9⟩, ⟨box_later HX.out.2.2.1 hb9 (lt_of_box HX.out.2.2.1), HX.out.2.2.2.later hb9⟩⟩
    clear hb5 hb6 hb7 hb8 hb9 hP7 hP8 qp qn qf qt qo HK hBR a0 a1 a2 b0 b1 b2 HX

    obtain ⟨V, rfl⟩ : ∃ V : World, V = w9 := ⟨_, rfl⟩
    go_upto_region 14 with fail
    have HK : Hid (∀ w', Below V.heap.size V w' → ((w'.cell? ⟨g1, 0, none⟩ = some (.bool s1) ∧ w'.cell? ⟨g1, 1, none⟩ = some (.slice ao1 n1 cap1) ∧ w'.cell? ⟨g1, 2, none⟩ = some (.int .i64 ex1)) ∧ (w'.cell? ⟨g4, 0, none⟩ = some (.bool s4) ∧ w'.cell? ⟨g4, 1, none⟩ = some (.slice ao4 n4 cap4) ∧ w'.cell? ⟨g4, 2, none⟩ = some (.int .i64 ex4))) ∧ Below V.heap.size V w') := fun w' hb => ⟨⟨(box_cells29 (box_later HY.out.2.1.1 hb (lt_of_box HY.out.2.1.1))).1, (box_cells29 (box_later HY.out.2.2.1 hb (lt_of_box HY.out.2.2.1))).1⟩, hb⟩
    have hBR : Below V.heap.size V V.drew := (Below.refl _ _).drew
    have x1 : 0 ≤ c7 := HD.out.2.2.2
    have x2 : decide (0 ≤ c7) = true := decide_eq_true x1
    have he := HE.out.1
    have hz := HkIq.out
    have qi : ∀ w4, Below V.heap.size V w4 → Calls Tryz.prog 36 #[.float .f64 q] w4 fun r w' => r = .returned (.bool iq) ∧ Below V.heap.size V w' := fun w4 hb => (HkIq.out w4).mono fun r w' ⟨e1, e2⟩ => ⟨e1, by rw [e2]; exact hb⟩
    have qf : ∀ w4, Below V.heap.size V w4 → Calls Tryz.prog 28 #[.float .f64 q] w4 fun r w' => ∃ A, r = .returned A ∧ DN w' A tq ∧ Below V.heap.size V w' := fun w4 hb => (Hkfq.out w4).mono fun r w' ⟨A, e1, e2, e3⟩ => ⟨A, e1, e2, hb.trans (e3.mono hb.size)⟩
    have qt : ∀ w4 X, Below V.heap.size V w4 → DN w4 X tq → Calls Tryz.prog 31 #[X, .agg #[.bool s4, .slice ao4 n4 cap4, .int .i64 ex4]] w4 fun r w' => ∃ A, r = .returned A ∧ DN w' A t7 ∧ Below V.heap.size V w' := fun w4 X hb h => (HkTq.out w4 _ _ h (HY.out.2.2.2.later hb)).mono fun r w' ⟨A, e1, e2, e3⟩ => ⟨A, e1, e2, hb.trans (e3.mono hb.size)⟩
    have qs : ∀ w4, Below V.heap.size V w4 → Calls Tryz.prog 16 #[] w4 fun r w' => r = .returned (.bool true) ∧ Below V.heap.size V w' := fun w4 hb => (HkU.out w4 (HY.out.1.trans (hb.mono HY.out.1.size))).mono fun r w' ⟨e1, e3⟩ => ⟨e1, hb.trans (e3.mono hb.size)⟩
    obtain ⟨⟨⟨a0, a1, a2⟩, ⟨b0, b1, b2⟩⟩, -⟩ := HK.out V (Below.refl _ _)
    clear HkS1 HkS3 Hkfl Hkfh HkT1 HkT3 HkO1 HkO3 HkD1 HkD3 Hkfb HkFp HkNq Hkfp HkTp HkO5 HkIq Hkfq HkTq HkU HD
    cases iq <;> cases eb
    · skip
      have qo : ∀ w4 X, Below V.heap.size V w4 → DN w4 X t7 → Calls Tryz.prog 34 #[X, .agg #[.bool s1, .slice ao1 n1 cap1, .int .i64 ex1]] w4 fun r w' => r = .returned (.int .i64 c7) ∧ Below V.heap.size V w' := fun w4 X hb h => (HkO7.out rfl w4 _ _ h (HY.out.2.1.2.later hb)).mono fun r w' ⟨e1, e3⟩ => ⟨e1, hb.trans (e3.mono hb.size)⟩
      have hn := HE.out.2 rfl
      have kn := HkNp.out rfl
      have qx : ∀ w4, Below V.heap.size V w4 → Calls Tryz.prog 33 #[.float .f64 p] w4 fun r w' => r = .returned (.float .f64 np) ∧ Below V.heap.size V w' := fun w4 hb => (kn w4).mono fun r w' ⟨e1, e2⟩ => ⟨e1, by rw [e2]; exact hb⟩
      clear kn
      clear HE HkO7 HkNp
      go_region_held3 (fun w' => ((w'.cell? ⟨g1, 0, none⟩ = some (.bool s1) ∧ w'.cell? ⟨g1, 1, none⟩ = some (.slice ao1 n1 cap1) ∧ w'.cell? ⟨g1, 2, none⟩ = some (.int .i64 ex1)) ∧ (w'.cell? ⟨g4, 0, none⟩ = some (.bool s4) ∧ w'.cell? ⟨g4, 1, none⟩ = some (.slice ao4 n4 cap4) ∧ w'.cell? ⟨g4, 2, none⟩ = some (.int .i64 ex4))) ∧ Below V.heap.size V w') (first | (with_reducible assumption) | exact ⟨⟨⟨a0, a1, a2⟩, ⟨b0, b1, b2⟩⟩, hBR⟩ | (refine HK.out _ ?_; with_reducible assumption) | go_keep)
        (first | (go_at_call 36; refine (qi _ hBR).mono ?_; rintro r w5 ⟨rfl, hb5⟩)
               | (go_at_call 28; refine (qf _ hb5).mono ?_; rintro r w7 ⟨A7, rfl, hP7, hb7⟩)
               | (go_at_call 31; refine (qt _ _ hb7 hP7).mono ?_; rintro r w8 ⟨A8, rfl, hP8, hb8⟩)
               | (go_at_call 34; refine (qo _ _ hb8 hP8).mono ?_; rintro r w9 ⟨rfl, hb9⟩)
               | (go_at_call 33; refine (qx _ hb9).mono ?_; rintro r wy ⟨rfl, hby⟩)
               | (go_at_call 16; refine (qs _ hby).mono ?_; rintro r wz ⟨rfl, hbz⟩))
      all_goals
        have HF : Hid (Below w.heap.size w wz) := HY.out.1.trans (hbz.mono HY.out.1.size)
        clear hb5 hP7 hb7 hP8 hb8 hb9 hby hbz qi qf qt qo qx qs hz HK hBR a0 a1 a2 b0 b1 b2
        go_wp2_with fail
        go_ret
        exact ⟨rfl, HF.out⟩
    · skip
      have qo : ∀ w4 X, Below V.heap.size V w4 → DN w4 X t7 → Calls Tryz.prog 34 #[X, .agg #[.bool s1, .slice ao1 n1 cap1, .int .i64 ex1]] w4 fun r w' => r = .returned (.int .i64 c7) ∧ Below V.heap.size V w' := fun w4 X hb h => (HkO7.out rfl w4 _ _ h (HY.out.2.1.2.later hb)).mono fun r w' ⟨e1, e3⟩ => ⟨e1, hb.trans (e3.mono hb.size)⟩
      clear HE HkO7 HkNp
      refine wp_region_held_drew (S := (fun w' => ((w'.cell? ⟨g1, 0, none⟩ = some (.bool s1) ∧ w'.cell? ⟨g1, 1, none⟩ = some (.slice ao1 n1 cap1) ∧ w'.cell? ⟨g1, 2, none⟩ = some (.int .i64 ex1)) ∧ (w'.cell? ⟨g4, 0, none⟩ = some (.bool s4) ∧ w'.cell? ⟨g4, 1, none⟩ = some (.slice ao4 n4 cap4) ∧ w'.cell? ⟨g4, 2, none⟩ = some (.int .i64 ex4))) ∧ Below V.heap.size V w')) (by kernel_rfl) (HK.out _ hBR) (fun hHeld0 => ?_)
      refine wpAnyH_take (i := 0) (oi := { dst := some 104, op := Op.move (Operand.tmp 11), type := 22, pos := "law.go:93", after := #[], guard := none }) (v := .float .f64 q) rfl (by kernel_rfl) (by kernel_rfl) (by kernel_rfl) (fun _ _ _ h => h) (.inl ⟨by rfl, (by intro w1 hSw; (try dsimp only at hSw); go_simp)⟩) (by assumption) ?_
      try simp only [Act.put, List.setIfInBounds_toArray, List.set_cons_zero, List.set_cons_succ]
      refine wpAnyH_ready (rs := [1]) (by kernel_rfl) (by simp) ?_
      refine AllReadyH.cons (o := { dst := some 105, op := Op.call { callee := Callee.value (Operand.func 36), args := #[Operand.tmp 104], argTypes := #[22] }, type := 4, pos := "law.go:93", after := #[{ on := 0, ground := Ground.data }], guard := none }) rfl (fun K hK => ?_) AllReadyH.nil
      go_simp
      refine (qi _ hBR).mono ?_
      rintro r w5 ⟨rfl, hb5⟩
      first | (refine hK.out _ _ (HK.out _ hb5) (fun hHeld1 => ?_)) | (go_wp2_with fail; refine hK.out _ _ (HK.out _ hb5) (fun hHeld1 => ?_))
      clear hK K hHeld0
      try simp only [Act.put, List.setIfInBounds_toArray, List.set_cons_zero, List.set_cons_succ]
      refine wpAnyH_take (i := 2) (oi := { dst := some 106, op := Op.move (Operand.tmp 105), type := 4, pos := "law.go:93", after := #[{ on := 1, ground := Ground.data }, { on := 1, ground := Ground.chain }], guard := none }) (v := .bool false) rfl (by kernel_rfl) (by kernel_rfl) (by kernel_rfl) (fun _ _ _ h => h) (.inl ⟨by rfl, (by intro w1 hSw; (try dsimp only at hSw); go_simp)⟩) (by assumption) ?_
      try simp only [Act.put, List.setIfInBounds_toArray, List.set_cons_zero, List.set_cons_succ]
      refine wpAnyH_take (i := 3) (oi := { dst := some 107, op := Op.move (Operand.tmp 11), type := 22, pos := "law.go:93", after := #[{ on := 2, ground := Ground.guard }], guard := some (2, false) }) (v := .float .f64 q) rfl (by kernel_rfl) (by kernel_rfl) (by kernel_rfl) (fun _ _ _ h => h) (.inl ⟨by rfl, (by intro w1 hSw; (try dsimp only at hSw); go_simp)⟩) (by assumption) ?_
      try simp only [Act.put, List.setIfInBounds_toArray, List.set_cons_zero, List.set_cons_succ]
      refine wpAnyH_take (i := 5) (oi := { dst := some 109, op := Op.load 38 (Operand.tmp 12), type := 38, pos := "law.go:93", after := #[{ on := 2, ground := Ground.guard }], guard := some (2, false) }) (v := .agg #[.bool s4, .slice ao4 n4 cap4, .int .i64 ex4]) rfl (by kernel_rfl) (by kernel_rfl) (by kernel_rfl) (fun _ _ _ h => h) (.inl ⟨by rfl, (by intro w1 hSw; (try dsimp only at hSw); go_simp)⟩) (by assumption) ?_
      try simp only [Act.put, List.setIfInBounds_toArray, List.set_cons_zero, List.set_cons_succ]
      refine wpAnyH_take (i := 7) (oi := { dst := some 111, op := Op.load 38 (Operand.tmp 5), type := 38, pos := "law.go:93", after := #[{ on := 2, ground := Ground.guard }], guard := some (2, false) }) (v := .agg #[.bool s1, .slice ao1 n1 cap1, .int .i64 ex1]) rfl (by kernel_rfl) (by kernel_rfl) (by kernel_rfl) (fun _ _ _ h => h) (.inl ⟨by rfl, (by intro w1 hSw; (try dsimp only at hSw); go_simp)⟩) (by assumption) ?_
      try simp only [Act.put, List.setIfInBounds_toArray, List.set_cons_zero, List.set_cons_succ]
      refine wpAnyH_ready (rs := [4]) (by kernel_rfl) (by simp) ?_
      refine AllReadyH.cons (o := { dst := some 108, op := Op.call { callee := Callee.value (Operand.func 28), args := #[Operand.tmp 107], argTypes := #[22] }, type := 38, pos := "law.go:93", after := #[{ on := 3, ground := Ground.data }, { on := 2, ground := Ground.chain }, { on := 2, ground := Ground.guard }], guard := some (2, false) }) rfl (fun K hK => ?_) AllReadyH.nil
      go_simp
      refine (qf _ hb5).mono ?_
      rintro r w7 ⟨A7, rfl, hP7, hb7⟩
      first | (refine hK.out _ _ (HK.out _ hb7) (fun hHeld2 => ?_)) | (go_wp2_with fail; refine hK.out _ _ (HK.out _ hb7) (fun hHeld2 => ?_))
      clear hK K hHeld1
      try simp only [Act.put, List.setIfInBounds_toArray, List.set_cons_zero, List.set_cons_succ]
      refine wpAnyH_ready (rs := [6]) (by kernel_rfl) (by simp) ?_
      refine AllReadyH.cons (o := { dst := some 110, op := Op.call { callee := Callee.value (Operand.func 31), args := #[Operand.tmp 108, Operand.tmp 109], argTypes := #[38, 38] }, type := 38, pos := "law.go:93", after := #[{ on := 4, ground := Ground.data }, { on := 5, ground := Ground.data }, { on := 4, ground := Ground.chain }, { on := 2, ground := Ground.guard }], guard := some (2, false) }) rfl (fun K hK => ?_) AllReadyH.nil
      go_simp
      refine (qt _ _ hb7 hP7).mono ?_
      rintro r w8 ⟨A8, rfl, hP8, hb8⟩
      first | (refine hK.out _ _ (HK.out _ hb8) (fun hHeld3 => ?_)) | (go_wp2_with fail; refine hK.out _ _ (HK.out _ hb8) (fun hHeld3 => ?_))
      clear hK K hHeld2
      try simp only [Act.put, List.setIfInBounds_toArray, List.set_cons_zero, List.set_cons_succ]
      refine wpAnyH_ready (rs := [8]) (by kernel_rfl) (by simp) ?_
      refine AllReadyH.cons (o := { dst := some 112, op := Op.call { callee := Callee.value (Operand.func 34), args := #[Operand.tmp 110, Operand.tmp 111], argTypes := #[38, 38] }, type := 3, pos := "law.go:93", after := #[{ on := 6, ground := Ground.data }, { on := 7, ground := Ground.data }, { on := 6, ground := Ground.chain }, { on := 2, ground := Ground.guard }], guard := some (2, false) }) rfl (fun K hK => ?_) AllReadyH.nil
      go_simp
      refine (qo _ _ hb8 hP8).mono ?_
      rintro r w9 ⟨rfl, hb9⟩
      first | (refine hK.out _ _ (HK.out _ hb9) (fun hHeld4 => ?_)) | (go_wp2_with fail; refine hK.out _ _ (HK.out _ hb9) (fun hHeld4 => ?_))
      clear hK K hHeld3
      try simp only [Act.put, List.setIfInBounds_toArray, List.set_cons_zero, List.set_cons_succ]
      refine wpAnyH_take (i := 9) (oi := { dst := some 113, op := Op.binOp BinOp.geq 3 (Operand.tmp 112) (Operand.const (Value.int IntKind.i64 0)) 3, type := 4, pos := "law.go:93", after := #[{ on := 8, ground := Ground.data }, { on := 2, ground := Ground.guard }], guard := some (2, false) }) (v := .bool true) rfl (by kernel_rfl) (by kernel_rfl) (by kernel_rfl) (fun _ _ _ h => h) (.inl ⟨by rfl, (by intro w1 hSw; (try dsimp only at hSw); go_simp)⟩) (by assumption) ?_
      try simp only [Act.put, List.setIfInBounds_toArray, List.set_cons_zero, List.set_cons_succ]
      refine wpAnyH_take (i := 10) (oi := { dst := some 114, op := Op.pick (Operand.tmp 106) (Operand.const (Value.bool true)) (Operand.tmp 113), type := 4, pos := "law.go:93", after := #[{ on := 2, ground := Ground.data }, { on := 9, ground := Ground.data }], guard := none }) (v := .bool true) rfl (by kernel_rfl) (by kernel_rfl) (by kernel_rfl) (fun _ _ _ h => h) (.inl ⟨by rfl, (by intro w1 hSw; (try dsimp only at hSw); go_simp)⟩) (by assumption) ?_
      try simp only [Act.put, List.setIfInBounds_toArray, List.set_cons_zero, List.set_cons_succ]
      refine wpAnyH_take (i := 11) (oi := { dst := some 115, op := Op.move (Operand.tmp 114), type := 4, pos := "law.go:93", after := #[{ on := 10, ground := Ground.data }, { on := 8, ground := Ground.chain }], guard := none }) (v := .bool true) rfl (by kernel_rfl) (by kernel_rfl) (by kernel_rfl) (fun _ _ _ h => h) (.inl ⟨by rfl, (by intro w1 hSw; (try dsimp only at hSw); go_simp)⟩) (by assumption) ?_
      try simp only [Act.put, List.setIfInBounds_toArray, List.set_cons_zero, List.set_cons_succ]
      refine wpAnyH_take (i := 12) (oi := { dst := some 116, op := Op.move (Operand.tmp 10), type := 22, pos := "law.go:93", after := #[{ on := 11, ground := Ground.guard }], guard := some (11, true) }) (v := .float .f64 p) rfl (by kernel_rfl) (by kernel_rfl) (by kernel_rfl) (fun _ _ _ h => h) (.inl ⟨by rfl, (by intro w1 hSw; (try dsimp only at hSw); go_simp)⟩) (by assumption) ?_
      try simp only [Act.put, List.setIfInBounds_toArray, List.set_cons_zero, List.set_cons_succ]
      refine wpAnyH_take (i := 13) (oi := { dst := some 117, op := Op.move (Operand.tmp 11), type := 22, pos := "law.go:93", after := #[{ on := 11, ground := Ground.guard }], guard := some (11, true) }) (v := .float .f64 q) rfl (by kernel_rfl) (by kernel_rfl) (by kernel_rfl) (fun _ _ _ h => h) (.inl ⟨by rfl, (by intro w1 hSw; (try dsimp only at hSw); go_simp)⟩) (by assumption) ?_
      try simp only [Act.put, List.setIfInBounds_toArray, List.set_cons_zero, List.set_cons_succ]
      refine wpAnyH_take (i := 14) (oi := { dst := some 118, op := Op.binOp BinOp.eql 22 (Operand.tmp 116) (Operand.tmp 117) 22, type := 4, pos := "law.go:93", after := #[{ on := 12, ground := Ground.data }, { on := 13, ground := Ground.data }, { on := 11, ground := Ground.guard }], guard := some (11, true) }) (v := .bool true) rfl (by kernel_rfl) (by kernel_rfl) (by kernel_rfl) (fun _ _ _ h => h) (.inl ⟨by rfl, (by intro w1 hSw; (try dsimp only at hSw); go_simp)⟩) (by assumption) ?_
      try simp only [Act.put, List.setIfInBounds_toArray, List.set_cons_zero, List.set_cons_succ]
      refine wpAnyH_take (i := 15) (oi := { dst := some 119, op := Op.move (Operand.tmp 118), type := 4, pos := "law.go:93", after := #[{ on := 14, ground := Ground.data }, { on := 11, ground := Ground.chain }, { on := 11, ground := Ground.guard }], guard := some (11, true) }) (v := .bool true) rfl (by kernel_rfl) (by kernel_rfl) (by kernel_rfl) (fun _ _ _ h => h) (.inl ⟨by rfl, (by intro w1 hSw; (try dsimp only at hSw); go_simp)⟩) (by assumption) ?_
      try simp only [Act.put, List.setIfInBounds_toArray, List.set_cons_zero, List.set_cons_succ]
      refine wpAnyH_take (i := 16) (oi := { dst := some 120, op := Op.move (Operand.tmp 10), type := 22, pos := "law.go:93", after := #[{ on := 15, ground := Ground.guard }], guard := some (15, false) }) (v := undef) rfl (by kernel_rfl) (by kernel_rfl) (by kernel_rfl) (fun _ _ _ h => h) (.inr ⟨by rfl, rfl⟩) (by assumption) ?_
      try simp only [Act.put, List.setIfInBounds_toArray, List.set_cons_zero, List.set_cons_succ]
      refine wpAnyH_take (i := 18) (oi := { dst := some 122, op := Op.move (Operand.tmp 11), type := 22, pos := "law.go:93", after := #[{ on := 15, ground := Ground.guard }], guard := some (15, false) }) (v := undef) rfl (by kernel_rfl) (by kernel_rfl) (by kernel_rfl) (fun _ _ _ h => h) (.inr ⟨by rfl, rfl⟩) (by assumption) ?_
      try simp only [Act.put, List.setIfInBounds_toArray, List.set_cons_zero, List.set_cons_succ]
      refine wpAnyH_take (i := 17) (oi := { dst := some 121, op := Op.call { callee := Callee.value (Operand.func 33), args := #[Operand.tmp 120], argTypes := #[22] }, type := 22, pos := "law.go:93", after := #[{ on := 16, ground := Ground.data }, { on := 15, ground := Ground.chain }, { on := 15, ground := Ground.guard }], guard := some (15, false) }) (v := undef) rfl (by kernel_rfl) (by kernel_rfl) (by kernel_rfl) (fun _ _ _ h => h) (.inr ⟨by rfl, rfl⟩) (by assumption) ?_
      try simp only [Act.put, List.setIfInBounds_toArray, List.set_cons_zero, List.set_cons_succ]
      refine wpAnyH_take (i := 19) (oi := { dst := some 123, op := Op.binOp BinOp.eql 22 (Operand.tmp 121) (Operand.tmp 122) 22, type := 4, pos := "law.go:93", after := #[{ on := 17, ground := Ground.data }, { on := 18, ground := Ground.data }, { on := 15, ground := Ground.guard }], guard := some (15, false) }) (v := undef) rfl (by kernel_rfl) (by kernel_rfl) (by kernel_rfl) (fun _ _ _ h => h) (.inr ⟨by rfl, rfl⟩) (by assumption) ?_
      try simp only [Act.put, List.setIfInBounds_toArray, List.set_cons_zero, List.set_cons_succ]
      refine wpAnyH_take (i := 20) (oi := { dst := some 124, op := Op.pick (Operand.tmp 119) (Operand.const (Value.bool true)) (Operand.tmp 123), type := 4, pos := "law.go:93", after := #[{ on := 15, ground := Ground.data }, { on := 19, ground := Ground.data }, { on := 11, ground := Ground.guard }], guard := some (11, true) }) (v := .bool true) rfl (by kernel_rfl) (by kernel_rfl) (by kernel_rfl) (fun _ _ _ h => h) (.inl ⟨by rfl, (by intro w1 hSw; (try dsimp only at hSw); go_simp)⟩) (by assumption) ?_
      try simp only [Act.put, List.setIfInBounds_toArray, List.set_cons_zero, List.set_cons_succ]
      refine wpAnyH_take (i := 21) (oi := { dst := some 125, op := Op.pick (Operand.tmp 115) (Operand.tmp 124) (Operand.const (Value.bool false)), type := 4, pos := "law.go:93", after := #[{ on := 11, ground := Ground.data }, { on := 20, ground := Ground.data }], guard := none }) (v := .bool true) rfl (by kernel_rfl) (by kernel_rfl) (by kernel_rfl) (fun _ _ _ h => h) (.inl ⟨by rfl, (by intro w1 hSw; (try dsimp only at hSw); go_simp)⟩) (by assumption) ?_
      try simp only [Act.put, List.setIfInBounds_toArray, List.set_cons_zero, List.set_cons_succ]
      refine wpAnyH_take (i := 22) (oi := { dst := some 126, op := Op.move (Operand.tmp 125), type := 4, pos := "law.go:93", after := #[{ on := 21, ground := Ground.data }, { on := 17, ground := Ground.chain }], guard := none }) (v := .bool true) rfl (by kernel_rfl) (by kernel_rfl) (by kernel_rfl) (fun _ _ _ h => h) (.inl ⟨by rfl, (by intro w1 hSw; (try dsimp only at hSw); go_simp)⟩) (by assumption) ?_
      try simp only [Act.put, List.setIfInBounds_toArray, List.set_cons_zero, List.set_cons_succ]
      refine wpAnyH_ready (rs := [23]) (by kernel_rfl) (by simp) ?_
      refine AllReadyH.cons (o := { dst := some 127, op := Op.call { callee := Callee.value (Operand.func 16), args := #[], argTypes := #[] }, type := 4, pos := "law.go:93", after := #[{ on := 22, ground := Ground.chain }, { on := 22, ground := Ground.guard }], guard := some (22, true) }) rfl (fun K hK => ?_) AllReadyH.nil
      go_simp
      refine (qs _ hb9).mono ?_
      rintro r wz ⟨rfl, hbz⟩
      first | (refine hK.out _ _ (HK.out _ hbz) (fun hHeld5 => ?_)) | (go_wp2_with fail; refine hK.out _ _ (HK.out _ hbz) (fun hHeld5 => ?_))
      clear hK K hHeld4
      try simp only [Act.put, List.setIfInBounds_toArray, List.set_cons_zero, List.set_cons_succ]
      refine wpAnyH_take (i := 24) (oi := { dst := some 128, op := Op.pick (Operand.tmp 126) (Operand.tmp 127) (Operand.const (Value.bool false)), type := 4, pos := "law.go:93", after := #[{ on := 22, ground := Ground.data }, { on := 23, ground := Ground.data }], guard := none }) (v := .bool true) rfl (by kernel_rfl) (by kernel_rfl) (by kernel_rfl) (fun _ _ _ h => h) (.inl ⟨by rfl, (by intro w1 hSw; (try dsimp only at hSw); go_simp)⟩) (by assumption) ?_
      try simp only [Act.put, List.setIfInBounds_toArray, List.set_cons_zero, List.set_cons_succ]
      refine wpAnyH_take (i := 25) (oi := { dst := some 4, op := Op.assign (Operand.tmp 128), type := 4, pos := "law.go:93", after := #[{ on := 24, ground := Ground.data }, { on := 23, ground := Ground.chain }, { on := 0, ground := Ground.phase }, { on := 1, ground := Ground.phase }, { on := 2, ground := Ground.phase }, { on := 3, ground := Ground.phase }, { on := 4, ground := Ground.phase }, { on := 5, ground := Ground.phase }, { on := 6, ground := Ground.phase }, { on := 7, ground := Ground.phase }, { on := 8, ground := Ground.phase }, { on := 9, ground := Ground.phase }, { on := 10, ground := Ground.phase }, { on := 11, ground := Ground.phase }, { on := 12, ground := Ground.phase }, { on := 13, ground := Ground.phase }, { on := 14, ground := Ground.phase }, { on := 15, ground := Ground.phase }, { on := 16, ground := Ground.phase }, { on := 17, ground := Ground.phase }, { on := 18, ground := Ground.phase }, { on := 19, ground := Ground.phase }, { on := 20, ground := Ground.phase }, { on := 21, ground := Ground.phase }, { on := 22, ground := Ground.phase }, { on := 23, ground := Ground.phase }, { on := 24, ground := Ground.phase }], guard := none }) (v := .bool true) rfl (by kernel_rfl) (by kernel_rfl) (by kernel_rfl) (fun _ _ _ h => h) (.inl ⟨by rfl, (by intro w1 hSw; (try dsimp only at hSw); go_simp)⟩) (by assumption) ?_
      try simp only [Act.put, List.setIfInBounds_toArray, List.set_cons_zero, List.set_cons_succ]
      refine wpAnyH_done (by kernel_rfl) ?_ _
      skip
      have HF : Hid (Below w.heap.size w wz) := HY.out.1.trans (hbz.mono HY.out.1.size)
      clear hbz hb5 hP7 hb7 hP8 hb8 hb9 qo qi qf qt qs hz HK hBR a0 a1 a2 b0 b1 b2 hHeld5
      go_wp2_with fail
      go_ret
      exact ⟨rfl, HF.out⟩
    · skip
      have hn := HE.out.2 rfl
      have kn := HkNp.out rfl
      have qx : ∀ w4, Below V.heap.size V w4 → Calls Tryz.prog 33 #[.float .f64 p] w4 fun r w' => r = .returned (.float .f64 np) ∧ Below V.heap.size V w' := fun w4 hb => (kn w4).mono fun r w' ⟨e1, e2⟩ => ⟨e1, by rw [e2]; exact hb⟩
      clear kn
      clear HE HkO7 HkNp
      refine wp_region_held_drew (S := (fun w' => ((w'.cell? ⟨g1, 0, none⟩ = some (.bool s1) ∧ w'.cell? ⟨g1, 1, none⟩ = some (.slice ao1 n1 cap1) ∧ w'.cell? ⟨g1, 2, none⟩ = some (.int .i64 ex1)) ∧ (w'.cell? ⟨g4, 0, none⟩ = some (.bool s4) ∧ w'.cell? ⟨g4, 1, none⟩ = some (.slice ao4 n4 cap4) ∧ w'.cell? ⟨g4, 2, none⟩ = some (.int .i64 ex4))) ∧ Below V.heap.size V w')) (by kernel_rfl) (HK.out _ hBR) (fun hHeld0 => ?_)
      refine wpAnyH_take (i := 0) (oi := { dst := some 104, op := Op.move (Operand.tmp 11), type := 22, pos := "law.go:93", after := #[], guard := none }) (v := .float .f64 q) rfl (by kernel_rfl) (by kernel_rfl) (by kernel_rfl) (fun _ _ _ h => h) (.inl ⟨by rfl, (by intro w1 hSw; (try dsimp only at hSw); go_simp)⟩) (by assumption) ?_
      try simp only [Act.put, List.setIfInBounds_toArray, List.set_cons_zero, List.set_cons_succ]
      refine wpAnyH_ready (rs := [1]) (by kernel_rfl) (by simp) ?_
      refine AllReadyH.cons (o := { dst := some 105, op := Op.call { callee := Callee.value (Operand.func 36), args := #[Operand.tmp 104], argTypes := #[22] }, type := 4, pos := "law.go:93", after := #[{ on := 0, ground := Ground.data }], guard := none }) rfl (fun K hK => ?_) AllReadyH.nil
      go_simp
      refine (qi _ hBR).mono ?_
      rintro r w5 ⟨rfl, hb5⟩
      first | (refine hK.out _ _ (HK.out _ hb5) (fun hHeld1 => ?_)) | (go_wp2_with fail; refine hK.out _ _ (HK.out _ hb5) (fun hHeld1 => ?_))
      clear hK K hHeld0
      try simp only [Act.put, List.setIfInBounds_toArray, List.set_cons_zero, List.set_cons_succ]
      refine wpAnyH_take (i := 2) (oi := { dst := some 106, op := Op.move (Operand.tmp 105), type := 4, pos := "law.go:93", after := #[{ on := 1, ground := Ground.data }, { on := 1, ground := Ground.chain }], guard := none }) (v := .bool true) rfl (by kernel_rfl) (by kernel_rfl) (by kernel_rfl) (fun _ _ _ h => h) (.inl ⟨by rfl, (by intro w1 hSw; (try dsimp only at hSw); go_simp)⟩) (by assumption) ?_
      try simp only [Act.put, List.setIfInBounds_toArray, List.set_cons_zero, List.set_cons_succ]
      refine wpAnyH_take (i := 3) (oi := { dst := some 107, op := Op.move (Operand.tmp 11), type := 22, pos := "law.go:93", after := #[{ on := 2, ground := Ground.guard }], guard := some (2, false) }) (v := undef) rfl (by kernel_rfl) (by kernel_rfl) (by kernel_rfl) (fun _ _ _ h => h) (.inr ⟨by rfl, rfl⟩) (by assumption) ?_
      try simp only [Act.put, List.setIfInBounds_toArray, List.set_cons_zero, List.set_cons_succ]
      refine wpAnyH_take (i := 5) (oi := { dst := some 109, op := Op.load 38 (Operand.tmp 12), type := 38, pos := "law.go:93", after := #[{ on := 2, ground := Ground.guard }], guard := some (2, false) }) (v := undef) rfl (by kernel_rfl) (by kernel_rfl) (by kernel_rfl) (fun _ _ _ h => h) (.inr ⟨by rfl, rfl⟩) (by assumption) ?_
      try simp only [Act.put, List.setIfInBounds_toArray, List.set_cons_zero, List.set_cons_succ]
      refine wpAnyH_take (i := 7) (oi := { dst := some 111, op := Op.load 38 (Operand.tmp 5), type := 38, pos := "law.go:93", after := #[{ on := 2, ground := Ground.guard }], guard := some (2, false) }) (v := undef) rfl (by kernel_rfl) (by kernel_rfl) (by kernel_rfl) (fun _ _ _ h => h) (.inr ⟨by rfl, rfl⟩) (by assumption) ?_
      try simp only [Act.put, List.setIfInBounds_toArray, List.set_cons_zero, List.set_cons_succ]
      refine wpAnyH_take (i := 4) (oi := { dst := some 108, op := Op.call { callee := Callee.value (Operand.func 28), args := #[Operand.tmp 107], argTypes := #[22] }, type := 38, pos := "law.go:93", after := #[{ on := 3, ground := Ground.data }, { on := 2, ground := Ground.chain }, { on := 2, ground := Ground.guard }], guard := some (2, false) }) (v := undef) rfl (by kernel_rfl) (by kernel_rfl) (by kernel_rfl) (fun _ _ _ h => h) (.inr ⟨by rfl, rfl⟩) (by assumption) ?_
      try simp only [Act.put, List.setIfInBounds_toArray, List.set_cons_zero, List.set_cons_succ]
      refine wpAnyH_take (i := 6) (oi := { dst := some 110, op := Op.call { callee := Callee.value (Operand.func 31), args := #[Operand.tmp 108, Operand.tmp 109], argTypes := #[38, 38] }, type := 38, pos := "law.go:93", after := #[{ on := 4, ground := Ground.data }, { on := 5, ground := Ground.data }, { on := 4, ground := Ground.chain }, { on := 2, ground := Ground.guard }], guard := some (2, false) }) (v := undef) rfl (by kernel_rfl) (by kernel_rfl) (by kernel_rfl) (fun _ _ _ h => h) (.inr ⟨by rfl, rfl⟩) (by assumption) ?_
      try simp only [Act.put, List.setIfInBounds_toArray, List.set_cons_zero, List.set_cons_succ]
      refine wpAnyH_take (i := 8) (oi := { dst := some 112, op := Op.call { callee := Callee.value (Operand.func 34), args := #[Operand.tmp 110, Operand.tmp 111], argTypes := #[38, 38] }, type := 3, pos := "law.go:93", after := #[{ on := 6, ground := Ground.data }, { on := 7, ground := Ground.data }, { on := 6, ground := Ground.chain }, { on := 2, ground := Ground.guard }], guard := some (2, false) }) (v := undef) rfl (by kernel_rfl) (by kernel_rfl) (by kernel_rfl) (fun _ _ _ h => h) (.inr ⟨by rfl, rfl⟩) (by assumption) ?_
      try simp only [Act.put, List.setIfInBounds_toArray, List.set_cons_zero, List.set_cons_succ]
      refine wpAnyH_take (i := 9) (oi := { dst := some 113, op := Op.binOp BinOp.geq 3 (Operand.tmp 112) (Operand.const (Value.int IntKind.i64 0)) 3, type := 4, pos := "law.go:93", after := #[{ on := 8, ground := Ground.data }, { on := 2, ground := Ground.guard }], guard := some (2, false) }) (v := undef) rfl (by kernel_rfl) (by kernel_rfl) (by kernel_rfl) (fun _ _ _ h => h) (.inr ⟨by rfl, rfl⟩) (by assumption) ?_
      try simp only [Act.put, List.setIfInBounds_toArray, List.set_cons_zero, List.set_cons_succ]
      refine wpAnyH_take (i := 10) (oi := { dst := some 114, op := Op.pick (Operand.tmp 106) (Operand.const (Value.bool true)) (Operand.tmp 113), type := 4, pos := "law.go:93", after := #[{ on := 2, ground := Ground.data }, { on := 9, ground := Ground.data }], guard := none }) (v := .bool true) rfl (by kernel_rfl) (by kernel_rfl) (by kernel_rfl) (fun _ _ _ h => h) (.inl ⟨by rfl, (by intro w1 hSw; (try dsimp only at hSw); go_simp)⟩) (by assumption) ?_
      try simp only [Act.put, List.setIfInBounds_toArray, List.set_cons_zero, List.set_cons_succ]
      refine wpAnyH_take (i := 11) (oi := { dst := some 115, op := Op.move (Operand.tmp 114), type := 4, pos := "law.go:93", after := #[{ on := 10, ground := Ground.data }, { on := 8, ground := Ground.chain }], guard := none }) (v := .bool true) rfl (by kernel_rfl) (by kernel_rfl) (by kernel_rfl) (fun _ _ _ h => h) (.inl ⟨by rfl, (by intro w1 hSw; (try dsimp only at hSw); go_simp)⟩) (by assumption) ?_
      try simp only [Act.put, List.setIfInBounds_toArray, List.set_cons_zero, List.set_cons_succ]
      refine wpAnyH_take (i := 12) (oi := { dst := some 116, op := Op.move (Operand.tmp 10), type := 22, pos := "law.go:93", after := #[{ on := 11, ground := Ground.guard }], guard := some (11, true) }) (v := .float .f64 p) rfl (by kernel_rfl) (by kernel_rfl) (by kernel_rfl) (fun _ _ _ h => h) (.inl ⟨by rfl, (by intro w1 hSw; (try dsimp only at hSw); go_simp)⟩) (by assumption) ?_
      try simp only [Act.put, List.setIfInBounds_toArray, List.set_cons_zero, List.set_cons_succ]
      refine wpAnyH_take (i := 13) (oi := { dst := some 117, op := Op.move (Operand.tmp 11), type := 22, pos := "law.go:93", after := #[{ on := 11, ground := Ground.guard }], guard := some (11, true) }) (v := .float .f64 q) rfl (by kernel_rfl) (by kernel_rfl) (by kernel_rfl) (fun _ _ _ h => h) (.inl ⟨by rfl, (by intro w1 hSw; (try dsimp only at hSw); go_simp)⟩) (by assumption) ?_
      try simp only [Act.put, List.setIfInBounds_toArray, List.set_cons_zero, List.set_cons_succ]
      refine wpAnyH_take (i := 14) (oi := { dst := some 118, op := Op.binOp BinOp.eql 22 (Operand.tmp 116) (Operand.tmp 117) 22, type := 4, pos := "law.go:93", after := #[{ on := 12, ground := Ground.data }, { on := 13, ground := Ground.data }, { on := 11, ground := Ground.guard }], guard := some (11, true) }) (v := .bool false) rfl (by kernel_rfl) (by kernel_rfl) (by kernel_rfl) (fun _ _ _ h => h) (.inl ⟨by rfl, (by intro w1 hSw; (try dsimp only at hSw); go_simp)⟩) (by assumption) ?_
      try simp only [Act.put, List.setIfInBounds_toArray, List.set_cons_zero, List.set_cons_succ]
      refine wpAnyH_take (i := 15) (oi := { dst := some 119, op := Op.move (Operand.tmp 118), type := 4, pos := "law.go:93", after := #[{ on := 14, ground := Ground.data }, { on := 11, ground := Ground.chain }, { on := 11, ground := Ground.guard }], guard := some (11, true) }) (v := .bool false) rfl (by kernel_rfl) (by kernel_rfl) (by kernel_rfl) (fun _ _ _ h => h) (.inl ⟨by rfl, (by intro w1 hSw; (try dsimp only at hSw); go_simp)⟩) (by assumption) ?_
      try simp only [Act.put, List.setIfInBounds_toArray, List.set_cons_zero, List.set_cons_succ]
      refine wpAnyH_take (i := 16) (oi := { dst := some 120, op := Op.move (Operand.tmp 10), type := 22, pos := "law.go:93", after := #[{ on := 15, ground := Ground.guard }], guard := some (15, false) }) (v := .float .f64 p) rfl (by kernel_rfl) (by kernel_rfl) (by kernel_rfl) (fun _ _ _ h => h) (.inl ⟨by rfl, (by intro w1 hSw; (try dsimp only at hSw); go_simp)⟩) (by assumption) ?_
      try simp only [Act.put, List.setIfInBounds_toArray, List.set_cons_zero, List.set_cons_succ]
      refine wpAnyH_take (i := 18) (oi := { dst := some 122, op := Op.move (Operand.tmp 11), type := 22, pos := "law.go:93", after := #[{ on := 15, ground := Ground.guard }], guard := some (15, false) }) (v := .float .f64 q) rfl (by kernel_rfl) (by kernel_rfl) (by kernel_rfl) (fun _ _ _ h => h) (.inl ⟨by rfl, (by intro w1 hSw; (try dsimp only at hSw); go_simp)⟩) (by assumption) ?_
      try simp only [Act.put, List.setIfInBounds_toArray, List.set_cons_zero, List.set_cons_succ]
      refine wpAnyH_ready (rs := [17]) (by kernel_rfl) (by simp) ?_
      refine AllReadyH.cons (o := { dst := some 121, op := Op.call { callee := Callee.value (Operand.func 33), args := #[Operand.tmp 120], argTypes := #[22] }, type := 22, pos := "law.go:93", after := #[{ on := 16, ground := Ground.data }, { on := 15, ground := Ground.chain }, { on := 15, ground := Ground.guard }], guard := some (15, false) }) rfl (fun K hK => ?_) AllReadyH.nil
      go_simp
      refine (qx _ hb5).mono ?_
      rintro r wy ⟨rfl, hby⟩
      first | (refine hK.out _ _ (HK.out _ hby) (fun hHeld2 => ?_)) | (go_wp2_with fail; refine hK.out _ _ (HK.out _ hby) (fun hHeld2 => ?_))
      clear hK K hHeld1
      try simp only [Act.put, List.setIfInBounds_toArray, List.set_cons_zero, List.set_cons_succ]
      refine wpAnyH_take (i := 19) (oi := { dst := some 123, op := Op.binOp BinOp.eql 22 (Operand.tmp 121) (Operand.tmp 122) 22, type := 4, pos := "law.go:93", after := #[{ on := 17, ground := Ground.data }, { on := 18, ground := Ground.data }, { on := 15, ground := Ground.guard }], guard := some (15, false) }) (v := .bool true) rfl (by kernel_rfl) (by kernel_rfl) (by kernel_rfl) (fun _ _ _ h => h) (.inl ⟨by rfl, (by intro w1 hSw; (try dsimp only at hSw); go_simp)⟩) (by assumption) ?_
      try simp only [Act.put, List.setIfInBounds_toArray, List.set_cons_zero, List.set_cons_succ]
      refine wpAnyH_take (i := 20) (oi := { dst := some 124, op := Op.pick (Operand.tmp 119) (Operand.const (Value.bool true)) (Operand.tmp 123), type := 4, pos := "law.go:93", after := #[{ on := 15, ground := Ground.data }, { on := 19, ground := Ground.data }, { on := 11, ground := Ground.guard }], guard := some (11, true) }) (v := .bool true) rfl (by kernel_rfl) (by kernel_rfl) (by kernel_rfl) (fun _ _ _ h => h) (.inl ⟨by rfl, (by intro w1 hSw; (try dsimp only at hSw); go_simp)⟩) (by assumption) ?_
      try simp only [Act.put, List.setIfInBounds_toArray, List.set_cons_zero, List.set_cons_succ]
      refine wpAnyH_take (i := 21) (oi := { dst := some 125, op := Op.pick (Operand.tmp 115) (Operand.tmp 124) (Operand.const (Value.bool false)), type := 4, pos := "law.go:93", after := #[{ on := 11, ground := Ground.data }, { on := 20, ground := Ground.data }], guard := none }) (v := .bool true) rfl (by kernel_rfl) (by kernel_rfl) (by kernel_rfl) (fun _ _ _ h => h) (.inl ⟨by rfl, (by intro w1 hSw; (try dsimp only at hSw); go_simp)⟩) (by assumption) ?_
      try simp only [Act.put, List.setIfInBounds_toArray, List.set_cons_zero, List.set_cons_succ]
      refine wpAnyH_take (i := 22) (oi := { dst := some 126, op := Op.move (Operand.tmp 125), type := 4, pos := "law.go:93", after := #[{ on := 21, ground := Ground.data }, { on := 17, ground := Ground.chain }], guard := none }) (v := .bool true) rfl (by kernel_rfl) (by kernel_rfl) (by kernel_rfl) (fun _ _ _ h => h) (.inl ⟨by rfl, (by intro w1 hSw; (try dsimp only at hSw); go_simp)⟩) (by assumption) ?_
      try simp only [Act.put, List.setIfInBounds_toArray, List.set_cons_zero, List.set_cons_succ]
      refine wpAnyH_ready (rs := [23]) (by kernel_rfl) (by simp) ?_
      refine AllReadyH.cons (o := { dst := some 127, op := Op.call { callee := Callee.value (Operand.func 16), args := #[], argTypes := #[] }, type := 4, pos := "law.go:93", after := #[{ on := 22, ground := Ground.chain }, { on := 22, ground := Ground.guard }], guard := some (22, true) }) rfl (fun K hK => ?_) AllReadyH.nil
      go_simp
      refine (qs _ hby).mono ?_
      rintro r wz ⟨rfl, hbz⟩
      first | (refine hK.out _ _ (HK.out _ hbz) (fun hHeld3 => ?_)) | (go_wp2_with fail; refine hK.out _ _ (HK.out _ hbz) (fun hHeld3 => ?_))
      clear hK K hHeld2
      try simp only [Act.put, List.setIfInBounds_toArray, List.set_cons_zero, List.set_cons_succ]
      refine wpAnyH_take (i := 24) (oi := { dst := some 128, op := Op.pick (Operand.tmp 126) (Operand.tmp 127) (Operand.const (Value.bool false)), type := 4, pos := "law.go:93", after := #[{ on := 22, ground := Ground.data }, { on := 23, ground := Ground.data }], guard := none }) (v := .bool true) rfl (by kernel_rfl) (by kernel_rfl) (by kernel_rfl) (fun _ _ _ h => h) (.inl ⟨by rfl, (by intro w1 hSw; (try dsimp only at hSw); go_simp)⟩) (by assumption) ?_
      try simp only [Act.put, List.setIfInBounds_toArray, List.set_cons_zero, List.set_cons_succ]
      refine wpAnyH_take (i := 25) (oi := { dst := some 4, op := Op.assign (Operand.tmp 128), type := 4, pos := "law.go:93", after := #[{ on := 24, ground := Ground.data }, { on := 23, ground := Ground.chain }, { on := 0, ground := Ground.phase }, { on := 1, ground := Ground.phase }, { on := 2, ground := Ground.phase }, { on := 3, ground := Ground.phase }, { on := 4, ground := Ground.phase }, { on := 5, ground := Ground.phase }, { on := 6, ground := Ground.phase }, { on := 7, ground := Ground.phase }, { on := 8, ground := Ground.phase }, { on := 9, ground := Ground.phase }, { on := 10, ground := Ground.phase }, { on := 11, ground := Ground.phase }, { on := 12, ground := Ground.phase }, { on := 13, ground := Ground.phase }, { on := 14, ground := Ground.phase }, { on := 15, ground := Ground.phase }, { on := 16, ground := Ground.phase }, { on := 17, ground := Ground.phase }, { on := 18, ground := Ground.phase }, { on := 19, ground := Ground.phase }, { on := 20, ground := Ground.phase }, { on := 21, ground := Ground.phase }, { on := 22, ground := Ground.phase }, { on := 23, ground := Ground.phase }, { on := 24, ground := Ground.phase }], guard := none }) (v := .bool true) rfl (by kernel_rfl) (by kernel_rfl) (by kernel_rfl) (fun _ _ _ h => h) (.inl ⟨by rfl, (by intro w1 hSw; (try dsimp only at hSw); go_simp)⟩) (by assumption) ?_
      try simp only [Act.put, List.setIfInBounds_toArray, List.set_cons_zero, List.set_cons_succ]
      refine wpAnyH_done (by kernel_rfl) ?_ _
      skip
      have HF : Hid (Below w.heap.size w wz) := HY.out.1.trans (hbz.mono HY.out.1.size)
      clear hbz hb5 hby qx qi qf qt qs hz HK hBR a0 a1 a2 b0 b1 b2 hHeld3
      go_wp2_with fail
      go_ret
      exact ⟨rfl, HF.out⟩
    · skip
      clear HE HkO7 HkNp
      refine wp_region_held_drew (S := (fun w' => ((w'.cell? ⟨g1, 0, none⟩ = some (.bool s1) ∧ w'.cell? ⟨g1, 1, none⟩ = some (.slice ao1 n1 cap1) ∧ w'.cell? ⟨g1, 2, none⟩ = some (.int .i64 ex1)) ∧ (w'.cell? ⟨g4, 0, none⟩ = some (.bool s4) ∧ w'.cell? ⟨g4, 1, none⟩ = some (.slice ao4 n4 cap4) ∧ w'.cell? ⟨g4, 2, none⟩ = some (.int .i64 ex4))) ∧ Below V.heap.size V w')) (by kernel_rfl) (HK.out _ hBR) (fun hHeld0 => ?_)
      refine wpAnyH_take (i := 0) (oi := { dst := some 104, op := Op.move (Operand.tmp 11), type := 22, pos := "law.go:93", after := #[], guard := none }) (v := .float .f64 q) rfl (by kernel_rfl) (by kernel_rfl) (by kernel_rfl) (fun _ _ _ h => h) (.inl ⟨by rfl, (by intro w1 hSw; (try dsimp only at hSw); go_simp)⟩) (by assumption) ?_
      try simp only [Act.put, List.setIfInBounds_toArray, List.set_cons_zero, List.set_cons_succ]
      refine wpAnyH_ready (rs := [1]) (by kernel_rfl) (by simp) ?_
      refine AllReadyH.cons (o := { dst := some 105, op := Op.call { callee := Callee.value (Operand.func 36), args := #[Operand.tmp 104], argTypes := #[22] }, type := 4, pos := "law.go:93", after := #[{ on := 0, ground := Ground.data }], guard := none }) rfl (fun K hK => ?_) AllReadyH.nil
      go_simp
      refine (qi _ hBR).mono ?_
      rintro r w5 ⟨rfl, hb5⟩
      first | (refine hK.out _ _ (HK.out _ hb5) (fun hHeld1 => ?_)) | (go_wp2_with fail; refine hK.out _ _ (HK.out _ hb5) (fun hHeld1 => ?_))
      clear hK K hHeld0
      try simp only [Act.put, List.setIfInBounds_toArray, List.set_cons_zero, List.set_cons_succ]
      refine wpAnyH_take (i := 2) (oi := { dst := some 106, op := Op.move (Operand.tmp 105), type := 4, pos := "law.go:93", after := #[{ on := 1, ground := Ground.data }, { on := 1, ground := Ground.chain }], guard := none }) (v := .bool true) rfl (by kernel_rfl) (by kernel_rfl) (by kernel_rfl) (fun _ _ _ h => h) (.inl ⟨by rfl, (by intro w1 hSw; (try dsimp only at hSw); go_simp)⟩) (by assumption) ?_
      try simp only [Act.put, List.setIfInBounds_toArray, List.set_cons_zero, List.set_cons_succ]
      refine wpAnyH_take (i := 3) (oi := { dst := some 107, op := Op.move (Operand.tmp 11), type := 22, pos := "law.go:93", after := #[{ on := 2, ground := Ground.guard }], guard := some (2, false) }) (v := undef) rfl (by kernel_rfl) (by kernel_rfl) (by kernel_rfl) (fun _ _ _ h => h) (.inr ⟨by rfl, rfl⟩) (by assumption) ?_
      try simp only [Act.put, List.setIfInBounds_toArray, List.set_cons_zero, List.set_cons_succ]
      refine wpAnyH_take (i := 5) (oi := { dst := some 109, op := Op.load 38 (Operand.tmp 12), type := 38, pos := "law.go:93", after := #[{ on := 2, ground := Ground.guard }], guard := some (2, false) }) (v := undef) rfl (by kernel_rfl) (by kernel_rfl) (by kernel_rfl) (fun _ _ _ h => h) (.inr ⟨by rfl, rfl⟩) (by assumption) ?_
      try simp only [Act.put, List.setIfInBounds_toArray, List.set_cons_zero, List.set_cons_succ]
      refine wpAnyH_take (i := 7) (oi := { dst := some 111, op := Op.load 38 (Operand.tmp 5), type := 38, pos := "law.go:93", after := #[{ on := 2, ground := Ground.guard }], guard := some (2, false) }) (v := undef) rfl (by kernel_rfl) (by kernel_rfl) (by kernel_rfl) (fun _ _ _ h => h) (.inr ⟨by rfl, rfl⟩) (by assumption) ?_
      try simp only [Act.put, List.setIfInBounds_toArray, List.set_cons_zero, List.set_cons_succ]
      refine wpAnyH_take (i := 4) (oi := { dst := some 108, op := Op.call { callee := Callee.value (Operand.func 28), args := #[Operand.tmp 107], argTypes := #[22] }, type := 38, pos := "law.go:93", after := #[{ on := 3, ground := Ground.data }, { on := 2, ground := Ground.chain }, { on := 2, ground := Ground.guard }], guard := some (2, false) }) (v := undef) rfl (by kernel_rfl) (by kernel_rfl) (by kernel_rfl) (fun _ _ _ h => h) (.inr ⟨by rfl, rfl⟩) (by assumption) ?_
      try simp only [Act.put, List.setIfInBounds_toArray, List.set_cons_zero, List.set_cons_succ]
      refine wpAnyH_take (i := 6) (oi := { dst := some 110, op := Op.call { callee := Callee.value (Operand.func 31), args := #[Operand.tmp 108, Operand.tmp 109], argTypes := #[38, 38] }, type := 38, pos := "law.go:93", after := #[{ on := 4, ground := Ground.data }, { on := 5, ground := Ground.data }, { on := 4, ground := Ground.chain }, { on := 2, ground := Ground.guard }], guard := some (2, false) }) (v := undef) rfl (by kernel_rfl) (by kernel_rfl) (by kernel_rfl) (fun _ _ _ h => h) (.inr ⟨by rfl, rfl⟩) (by assumption) ?_
      try simp only [Act.put, List.setIfInBounds_toArray, List.set_cons_zero, List.set_cons_succ]
      refine wpAnyH_take (i := 8) (oi := { dst := some 112, op := Op.call { callee := Callee.value (Operand.func 34), args := #[Operand.tmp 110, Operand.tmp 111], argTypes := #[38, 38] }, type := 3, pos := "law.go:93", after := #[{ on := 6, ground := Ground.data }, { on := 7, ground := Ground.data }, { on := 6, ground := Ground.chain }, { on := 2, ground := Ground.guard }], guard := some (2, false) }) (v := undef) rfl (by kernel_rfl) (by kernel_rfl) (by kernel_rfl) (fun _ _ _ h => h) (.inr ⟨by rfl, rfl⟩) (by assumption) ?_
      try simp only [Act.put, List.setIfInBounds_toArray, List.set_cons_zero, List.set_cons_succ]
      refine wpAnyH_take (i := 9) (oi := { dst := some 113, op := Op.binOp BinOp.geq 3 (Operand.tmp 112) (Operand.const (Value.int IntKind.i64 0)) 3, type := 4, pos := "law.go:93", after := #[{ on := 8, ground := Ground.data }, { on := 2, ground := Ground.guard }], guard := some (2, false) }) (v := undef) rfl (by kernel_rfl) (by kernel_rfl) (by kernel_rfl) (fun _ _ _ h => h) (.inr ⟨by rfl, rfl⟩) (by assumption) ?_
      try simp only [Act.put, List.setIfInBounds_toArray, List.set_cons_zero, List.set_cons_succ]
      refine wpAnyH_take (i := 10) (oi := { dst := some 114, op := Op.pick (Operand.tmp 106) (Operand.const (Value.bool true)) (Operand.tmp 113), type := 4, pos := "law.go:93", after := #[{ on := 2, ground := Ground.data }, { on := 9, ground := Ground.data }], guard := none }) (v := .bool true) rfl (by kernel_rfl) (by kernel_rfl) (by kernel_rfl) (fun _ _ _ h => h) (.inl ⟨by rfl, (by intro w1 hSw; (try dsimp only at hSw); go_simp)⟩) (by assumption) ?_
      try simp only [Act.put, List.setIfInBounds_toArray, List.set_cons_zero, List.set_cons_succ]
      refine wpAnyH_take (i := 11) (oi := { dst := some 115, op := Op.move (Operand.tmp 114), type := 4, pos := "law.go:93", after := #[{ on := 10, ground := Ground.data }, { on := 8, ground := Ground.chain }], guard := none }) (v := .bool true) rfl (by kernel_rfl) (by kernel_rfl) (by kernel_rfl) (fun _ _ _ h => h) (.inl ⟨by rfl, (by intro w1 hSw; (try dsimp only at hSw); go_simp)⟩) (by assumption) ?_
      try simp only [Act.put, List.setIfInBounds_toArray, List.set_cons_zero, List.set_cons_succ]
      refine wpAnyH_take (i := 12) (oi := { dst := some 116, op := Op.move (Operand.tmp 10), type := 22, pos := "law.go:93", after := #[{ on := 11, ground := Ground.guard }], guard := some (11, true) }) (v := .float .f64 p) rfl (by kernel_rfl) (by kernel_rfl) (by kernel_rfl) (fun _ _ _ h => h) (.inl ⟨by rfl, (by intro w1 hSw; (try dsimp only at hSw); go_simp)⟩) (by assumption) ?_
      try simp only [Act.put, List.setIfInBounds_toArray, List.set_cons_zero, List.set_cons_succ]
      refine wpAnyH_take (i := 13) (oi := { dst := some 117, op := Op.move (Operand.tmp 11), type := 22, pos := "law.go:93", after := #[{ on := 11, ground := Ground.guard }], guard := some (11, true) }) (v := .float .f64 q) rfl (by kernel_rfl) (by kernel_rfl) (by kernel_rfl) (fun _ _ _ h => h) (.inl ⟨by rfl, (by intro w1 hSw; (try dsimp only at hSw); go_simp)⟩) (by assumption) ?_
      try simp only [Act.put, List.setIfInBounds_toArray, List.set_cons_zero, List.set_cons_succ]
      refine wpAnyH_take (i := 14) (oi := { dst := some 118, op := Op.binOp BinOp.eql 22 (Operand.tmp 116) (Operand.tmp 117) 22, type := 4, pos := "law.go:93", after := #[{ on := 12, ground := Ground.data }, { on := 13, ground := Ground.data }, { on := 11, ground := Ground.guard }], guard := some (11, true) }) (v := .bool true) rfl (by kernel_rfl) (by kernel_rfl) (by kernel_rfl) (fun _ _ _ h => h) (.inl ⟨by rfl, (by intro w1 hSw; (try dsimp only at hSw); go_simp)⟩) (by assumption) ?_
      try simp only [Act.put, List.setIfInBounds_toArray, List.set_cons_zero, List.set_cons_succ]
      refine wpAnyH_take (i := 15) (oi := { dst := some 119, op := Op.move (Operand.tmp 118), type := 4, pos := "law.go:93", after := #[{ on := 14, ground := Ground.data }, { on := 11, ground := Ground.chain }, { on := 11, ground := Ground.guard }], guard := some (11, true) }) (v := .bool true) rfl (by kernel_rfl) (by kernel_rfl) (by kernel_rfl) (fun _ _ _ h => h) (.inl ⟨by rfl, (by intro w1 hSw; (try dsimp only at hSw); go_simp)⟩) (by assumption) ?_
      try simp only [Act.put, List.setIfInBounds_toArray, List.set_cons_zero, List.set_cons_succ]
      refine wpAnyH_take (i := 16) (oi := { dst := some 120, op := Op.move (Operand.tmp 10), type := 22, pos := "law.go:93", after := #[{ on := 15, ground := Ground.guard }], guard := some (15, false) }) (v := undef) rfl (by kernel_rfl) (by kernel_rfl) (by kernel_rfl) (fun _ _ _ h => h) (.inr ⟨by rfl, rfl⟩) (by assumption) ?_
      try simp only [Act.put, List.setIfInBounds_toArray, List.set_cons_zero, List.set_cons_succ]
      refine wpAnyH_take (i := 18) (oi := { dst := some 122, op := Op.move (Operand.tmp 11), type := 22, pos := "law.go:93", after := #[{ on := 15, ground := Ground.guard }], guard := some (15, false) }) (v := undef) rfl (by kernel_rfl) (by kernel_rfl) (by kernel_rfl) (fun _ _ _ h => h) (.inr ⟨by rfl, rfl⟩) (by assumption) ?_
      try simp only [Act.put, List.setIfInBounds_toArray, List.set_cons_zero, List.set_cons_succ]
      refine wpAnyH_take (i := 17) (oi := { dst := some 121, op := Op.call { callee := Callee.value (Operand.func 33), args := #[Operand.tmp 120], argTypes := #[22] }, type := 22, pos := "law.go:93", after := #[{ on := 16, ground := Ground.data }, { on := 15, ground := Ground.chain }, { on := 15, ground := Ground.guard }], guard := some (15, false) }) (v := undef) rfl (by kernel_rfl) (by kernel_rfl) (by kernel_rfl) (fun _ _ _ h => h) (.inr ⟨by rfl, rfl⟩) (by assumption) ?_
      try simp only [Act.put, List.setIfInBounds_toArray, List.set_cons_zero, List.set_cons_succ]
      refine wpAnyH_take (i := 19) (oi := { dst := some 123, op := Op.binOp BinOp.eql 22 (Operand.tmp 121) (Operand.tmp 122) 22, type := 4, pos := "law.go:93", after := #[{ on := 17, ground := Ground.data }, { on := 18, ground := Ground.data }, { on := 15, ground := Ground.guard }], guard := some (15, false) }) (v := undef) rfl (by kernel_rfl) (by kernel_rfl) (by kernel_rfl) (fun _ _ _ h => h) (.inr ⟨by rfl, rfl⟩) (by assumption) ?_
      try simp only [Act.put, List.setIfInBounds_toArray, List.set_cons_zero, List.set_cons_succ]
      refine wpAnyH_take (i := 20) (oi := { dst := some 124, op := Op.pick (Operand.tmp 119) (Operand.const (Value.bool true)) (Operand.tmp 123), type := 4, pos := "law.go:93", after := #[{ on := 15, ground := Ground.data }, { on := 19, ground := Ground.data }, { on := 11, ground := Ground.guard }], guard := some (11, true) }) (v := .bool true) rfl (by kernel_rfl) (by kernel_rfl) (by kernel_rfl) (fun _ _ _ h => h) (.inl ⟨by rfl, (by intro w1 hSw; (try dsimp only at hSw); go_simp)⟩) (by assumption) ?_
      try simp only [Act.put, List.setIfInBounds_toArray, List.set_cons_zero, List.set_cons_succ]
      refine wpAnyH_take (i := 21) (oi := { dst := some 125, op := Op.pick (Operand.tmp 115) (Operand.tmp 124) (Operand.const (Value.bool false)), type := 4, pos := "law.go:93", after := #[{ on := 11, ground := Ground.data }, { on := 20, ground := Ground.data }], guard := none }) (v := .bool true) rfl (by kernel_rfl) (by kernel_rfl) (by kernel_rfl) (fun _ _ _ h => h) (.inl ⟨by rfl, (by intro w1 hSw; (try dsimp only at hSw); go_simp)⟩) (by assumption) ?_
      try simp only [Act.put, List.setIfInBounds_toArray, List.set_cons_zero, List.set_cons_succ]
      refine wpAnyH_take (i := 22) (oi := { dst := some 126, op := Op.move (Operand.tmp 125), type := 4, pos := "law.go:93", after := #[{ on := 21, ground := Ground.data }, { on := 17, ground := Ground.chain }], guard := none }) (v := .bool true) rfl (by kernel_rfl) (by kernel_rfl) (by kernel_rfl) (fun _ _ _ h => h) (.inl ⟨by rfl, (by intro w1 hSw; (try dsimp only at hSw); go_simp)⟩) (by assumption) ?_
      try simp only [Act.put, List.setIfInBounds_toArray, List.set_cons_zero, List.set_cons_succ]
      refine wpAnyH_ready (rs := [23]) (by kernel_rfl) (by simp) ?_
      refine AllReadyH.cons (o := { dst := some 127, op := Op.call { callee := Callee.value (Operand.func 16), args := #[], argTypes := #[] }, type := 4, pos := "law.go:93", after := #[{ on := 22, ground := Ground.chain }, { on := 22, ground := Ground.guard }], guard := some (22, true) }) rfl (fun K hK => ?_) AllReadyH.nil
      go_simp
      refine (qs _ hb5).mono ?_
      rintro r wz ⟨rfl, hbz⟩
      first | (refine hK.out _ _ (HK.out _ hbz) (fun hHeld2 => ?_)) | (go_wp2_with fail; refine hK.out _ _ (HK.out _ hbz) (fun hHeld2 => ?_))
      clear hK K hHeld1
      try simp only [Act.put, List.setIfInBounds_toArray, List.set_cons_zero, List.set_cons_succ]
      refine wpAnyH_take (i := 24) (oi := { dst := some 128, op := Op.pick (Operand.tmp 126) (Operand.tmp 127) (Operand.const (Value.bool false)), type := 4, pos := "law.go:93", after := #[{ on := 22, ground := Ground.data }, { on := 23, ground := Ground.data }], guard := none }) (v := .bool true) rfl (by kernel_rfl) (by kernel_rfl) (by kernel_rfl) (fun _ _ _ h => h) (.inl ⟨by rfl, (by intro w1 hSw; (try dsimp only at hSw); go_simp)⟩) (by assumption) ?_
      try simp only [Act.put, List.setIfInBounds_toArray, List.set_cons_zero, List.set_cons_succ]
      refine wpAnyH_take (i := 25) (oi := { dst := some 4, op := Op.assign (Operand.tmp 128), type := 4, pos := "law.go:93", after := #[{ on := 24, ground := Ground.data }, { on := 23, ground := Ground.chain }, { on := 0, ground := Ground.phase }, { on := 1, ground := Ground.phase }, { on := 2, ground := Ground.phase }, { on := 3, ground := Ground.phase }, { on := 4, ground := Ground.phase }, { on := 5, ground := Ground.phase }, { on := 6, ground := Ground.phase }, { on := 7, ground := Ground.phase }, { on := 8, ground := Ground.phase }, { on := 9, ground := Ground.phase }, { on := 10, ground := Ground.phase }, { on := 11, ground := Ground.phase }, { on := 12, ground := Ground.phase }, { on := 13, ground := Ground.phase }, { on := 14, ground := Ground.phase }, { on := 15, ground := Ground.phase }, { on := 16, ground := Ground.phase }, { on := 17, ground := Ground.phase }, { on := 18, ground := Ground.phase }, { on := 19, ground := Ground.phase }, { on := 20, ground := Ground.phase }, { on := 21, ground := Ground.phase }, { on := 22, ground := Ground.phase }, { on := 23, ground := Ground.phase }, { on := 24, ground := Ground.phase }], guard := none }) (v := .bool true) rfl (by kernel_rfl) (by kernel_rfl) (by kernel_rfl) (fun _ _ _ h => h) (.inl ⟨by rfl, (by intro w1 hSw; (try dsimp only at hSw); go_simp)⟩) (by assumption) ?_
      try simp only [Act.put, List.setIfInBounds_toArray, List.set_cons_zero, List.set_cons_succ]
      refine wpAnyH_done (by kernel_rfl) ?_ _
      skip
      have HF : Hid (Below w.heap.size w wz) := HY.out.1.trans (hbz.mono HY.out.1.size)
      clear hbz hb5 qi qf qt qs hz HK hBR a0 a1 a2 b0 b1 b2 hHeld2
      go_wp2_with fail
      go_ret
      exact ⟨rfl, HF.out⟩
end Go.Proofs.YtajeodimbfppiaaGreatDoor

/- RoundHolds: the joints. -/
namespace Go.Proofs.YtajeodimbfppiaaGreatDoor
set_option linter.unusedVariables false
set_option linter.unusedSimpArgs false
open Go.RowKit Go.Fl64

end Go.Proofs.YtajeodimbfppiaaGreatDoor

/- RoundSquares: the joints. -/
namespace Go.Proofs.YtajeodimbfppiaaGreatDoor
set_option linter.unusedVariables false
set_option linter.unusedSimpArgs false
open Go.RowKit Go.Fl64

theorem gt_nought {a : Nat} (ha : a < 18446744073709551616) (hf : mag a < 9218868437227405312) : (FloatKind.f64.format.order a 0 == some Ordering.gt) = (!neg a && decide (mag a ≠ 0)) := by
  rw [ord_gt a 0 ha (by decide)]
  unfold lt
  have na : isNaN a = false := nan_no (by omega)
  have nb : isNaN 0 = false := by decide
  have e0 : stp 0 = 0 := by decide
  rw [na, nb, e0]
  have : decide (0 < stp a) = (!neg a && decide (mag a ≠ 0)) := by
    unfold stp sgn
    cases neg a
    · show decide (0 < (mag a : Int)) = (true && decide (mag a ≠ 0))
      by_cases h : mag a = 0
      · simp [h]
      · rw [decide_eq_true (by omega), decide_eq_true h]; rfl
    · show decide (0 < -(mag a : Int)) = (false && _)
      rw [decide_eq_false (by omega)]; rfl
  rw [this]; simp
theorem o_gt {a b : Nat} (ha : a < 18446744073709551616) (hb : b < 18446744073709551616) (na : isNaN a = false) (nb : isNaN b = false) : (FloatKind.f64.format.order a b == some Ordering.gt) = decide (stp b < stp a) := by
  rw [ord_gt a b ha hb]; unfold lt; rw [na, nb]; simp
theorem psqrt_v (a q : Nat) (m : Int) (hm : 1 ≤ m ∧ m ≤ 3) (ha : a < 18446744073709551616) (hp : pln a = true) (hn : neg a = false) (a1 : q * q ≤ (tF a).2.1 * 2 ^ sqK (tF a)) (a2 : (tF a).2.1 * 2 ^ sqK (tF a) < (q + 1) * (q + 1)) (w : World) (hT : Tab32 w) (hI : Ie.Tab w) :
    Calls Tryz.prog 21 #[.float .f64 a, .int .i64 m] w fun r w' => r = .returned (.float .f64 (sqV a q m)) ∧ Below w.heap.size w w' := by
  obtain ⟨hf, h0⟩ := pln_true.1 hp
  refine psq_r a _ m (tF a) w (isM_iff.2 hm) (by rw [lt_nought ha, hn]; simp) (pplain_t a ha hp) (exact_ok a ha hf w hT hI) (fun W' X h h1 => ?_)
  refine (psqrt (hT.later h) (tF_ok a) h1 (tF_pos hn) hm).mono ?_
  rintro r w' ⟨q', ⟨c1, c2⟩, rfl, hb⟩
  obtain rfl := root_only a1 a2 c1 c2
  exact ⟨rfl, hb⟩
theorem pdiv_v (a b : Nat) (m : Int) (hm : 1 ≤ m ∧ m ≤ 3) (ha : a < 18446744073709551616) (hb : b < 18446744073709551616) (pa : pln a = true) (pb : pln b = true) (w : World) (hT : Tab32 w) (hI : Ie.Tab w) :
    Calls Tryz.prog 19 #[.float .f64 a, .float .f64 b, .int .i64 m] w fun r w' => r = .returned (.float .f64 (rtF (tF a) (tF b) m)) ∧ Below w.heap.size w w' :=
  pdiv_ok a b m w (isM_iff.2 hm) hT hI ha hb (pln_true.1 pa).1 (pln_true.1 pb).1 (pln_true.1 pa).2 (pln_true.1 pb).2 (tF_ne (pln_true.1 pa).2) (tF_ne (pln_true.1 pb).2)
theorem fin_dec {a : Nat} (h : mag a < 9218868437227405312) : decide ((mag a : Int) < 9218868437227405312) = true := decide_eq_true (by omega)
theorem not_inf {lo hi : Nat} (l1 : lo < 18446744073709551616) (n3 : isNaN hi = false) (e : stp hi = stp lo + 1) : lo ≠ 9218868437227405312 := by
  intro e'
  have a1 : stp lo = 9218868437227405312 := by rw [e']; decide
  have a2 : mag hi ≤ 9218868437227405312 := by unfold isNaN at n3; simp at n3; omega
  have a3 : stp hi ≤ (mag hi : Int) := by unfold stp sgn; split <;> omega
  omega

/-- RoundSquares answers true -/
theorem roundSquares_ok (a b : Nat) (w : World) (ha : a < 18446744073709551616) (hb : b < 18446744073709551616) (hT : Tab32 w) (hI : Ie.Tab w) :
    Calls Tryz.prog 8 #[.float .f64 a, .float .f64 b] w fun r w' => r = .returned (.bool true) ∧ Below w.heap.size w w' := by
  have ka := Ie.dfinite a ha
  have kb := Ie.dfinite b hb
  by_cases hp : (mag a < 9218868437227405312 ∧ mag b < 9218868437227405312) ∧ (neg a = false ∧ mag a ≠ 0) ∧ (neg b = false ∧ mag b ≠ 0)
  · obtain ⟨⟨hfa, hfb⟩, ⟨na, ha0⟩, ⟨nb, hb0⟩⟩ := hp
    have pa := pln_true.2 ⟨hfa, ha0⟩
    have pb := pln_true.2 ⟨hfb, hb0⟩
    rw [fin_dec hfa] at ka
    rw [fin_dec hfb] at kb
    have ga := gt_nought ha hfa
    have gb := gt_nought hb hfb
    rw [na, decide_eq_true ha0] at ga
    rw [nb, decide_eq_true hb0] at gb
    obtain ⟨q, a1, a2⟩ := rootEx ((tF a).2.1 * 2 ^ sqK (tF a))
    obtain ⟨f1, f2, f3, f4, f5, f6, f7, f8, f9, f10⟩ := sq_facts ha pa na a1 a2
    obtain ⟨q1, q2, q3, q4, q5, q6, q7⟩ := quo_facts ha hb pa pb na nb
    have l1 : sqV a q 1 < 18446744073709551616 := tfF_lt' (by omega)
    have l3 : sqV a q 3 < 18446744073709551616 := tfF_lt' (by omega)
    have m1 : rtF (tF a) (tF b) 1 < 18446744073709551616 := rtF_lt (by omega)
    have m3 : rtF (tF a) (tF b) 3 < 18446744073709551616 := rtF_lt (by omega)
    have kFl := Ie.dfinite (sqV a q 1) l1
    have kFh := Ie.dfinite (sqV a q 3) l3
    have kFp := Ie.dfinite (rtF (tF a) (tF b) 1) m1
    have kNq := Ie.dnan (rtF (tF a) (tF b) 3) m3
    rw [fin_dec f1] at kFl
    rw [fin_dec f2] at kFh
    rw [fin_dec q1] at kFp
    rw [q5] at kNq
    refine lawQ_1 a b (sqV a q 1) (sqV a q 3) (nxF (sqV a q 1)) (rtF (tF a) (tF b) 1) (rtF (tF a) (tF b) 3) (nxF (rtF (tF a) (tF b) 1)) (Ie.isInf (rtF (tF a) (tF b) 3)) (decide (stp (rtF (tF a) (tF b) 1) = stp (rtF (tF a) (tF b) 3))) _ _ _ (if Ie.isInf (rtF (tF a) (tF b) 3) then 0 else ordN (tM (tF (rtF (tF a) (tF b) 3)) (tF b)).1 (tM (tF (rtF (tF a) (tF b) 3)) (tF b)).2.1 (tM (tF (rtF (tF a) (tF b) 3)) (tF b)).2.2 (tF a).1 (tF a).2.1 (tF a).2.2) (tF a) (tF b) (tF (sqV a q 1)) (tF (sqV a q 3)) (tM (tF (sqV a q 1)) (tF (sqV a q 1))) (tM (tF (sqV a q 3)) (tF (sqV a q 3))) (tF (rtF (tF a) (tF b) 1)) (tF (rtF (tF a) (tF b) 3)) (tM (tF (rtF (tF a) (tF b) 1)) (tF b)) (tM (tF (rtF (tF a) (tF b) 3)) (tF b)) w
      f9 f10 q6 ?_ ka kb ga gb (float_dn a ha w) ?_ (o_eq m1 m3 q4 q5) ?_
      (fun W h => psqrt_v a q 1 (by omega) ha pa na a1 a2 W (hT.later h) (Tab.later hI h)) (fun W h => psqrt_v a q 3 (by omega) ha pa na a1 a2 W (hT.later h) (Tab.later hI h))
      kFl kFh (fun W => float_dn _ l1 W) (fun W => float_dn _ l3 W) (fun W X Y h1 h2 => times_dn (tF_ok _) (tF_ok _) h1 h2) (fun W X Y h1 h2 => times_dn (tF_ok _) (tF_ok _) h1 h2)
      (fun W X Y h1 h2 => dorder (tM_ok (tM_okR _ _)) (tF_ok a) h1 h2) (fun W X Y h1 h2 => dorder (tM_ok (tM_okR _ _)) (tF_ok a) h1 h2)
      (fun W h => pdiv_v a b 1 (by omega) ha hb pa pb W (hT.later h) (Tab.later hI h)) (fun W h => pdiv_v a b 3 (by omega) ha hb pa pb W (hT.later h) (Tab.later hI h))
      (fun W => float_dn b hb W) kFp kNq (fun W => float_dn _ m1 W) (fun W X Y h1 h2 => times_dn (tF_ok _) (tF_ok b) h1 h2) (fun W X Y h1 h2 => dorder (tM_ok (tM_okR _ _)) (tF_ok a) h1 h2)
      (Ie.dinf _ m3) (fun W => float_dn _ m3 W) (fun W X Y h1 h2 => times_dn (tF_ok _) (tF_ok b) h1 h2) (fun hi W X Y h1 h2 => ?_) (fun he => ?_) (fun W h => sure_ok W (hT.later h) (Tab.later hI h))
    · cases hi : Ie.isInf (rtF (tF a) (tF b) 3)
      · rw [if_neg (by decide)]; exact q7 (fin_of q5 hi)
      · rw [if_pos rfl]; omega
    · rw [o_gt l1 l3 f5 f6, o_ne l1 l3 f5 f6]
      by_cases e : stp (sqV a q 1) = stp (sqV a q 3)
      · exact .inl ⟨decide_eq_false (by omega), decide_eq_false (by omega)⟩
      · have e2 : stp (sqV a q 3) = stp (sqV a q 1) + 1 := by omega
        have hne := not_inf l1 f6 e2
        obtain ⟨x1, x2, x3⟩ := nxF_stp l1 f5 hne
        exact .inr ⟨decide_eq_false (by omega), decide_eq_true e, by rw [o_ne x3 l3 x2 f6]; exact decide_eq_false (by omega), dnext _ l1 f5 hne⟩
    · intro he
      have e : stp (rtF (tF a) (tF b) 1) ≠ stp (rtF (tF a) (tF b) 3) := by simpa using he
      have e2 : stp (rtF (tF a) (tF b) 3) = stp (rtF (tF a) (tF b) 1) + 1 := by omega
      obtain ⟨x1, x2, x3⟩ := nxF_stp m1 q4 (not_inf m1 q5 e2)
      rw [o_eq x3 m3 x2 q5]
      exact decide_eq_true (by omega)
    · rw [hi, if_neg (by decide)]
      exact dorder (tM_ok (tM_okR _ _)) (tF_ok a) h1 h2
    · have e : stp (rtF (tF a) (tF b) 1) ≠ stp (rtF (tF a) (tF b) 3) := by simpa using he
      exact dnext _ m1 q4 (not_inf m1 q5 (by omega))
  · refine lawQ_no a b _ _ _ _ w ?_ ka kb rfl rfl (sure_ok w hT hI)
    by_cases hfa : mag a < 9218868437227405312
    · by_cases hfb : mag b < 9218868437227405312
      · rw [gt_nought ha hfa, gt_nought hb hfb]
        by_cases h1 : neg a = false ∧ mag a ≠ 0
        · have h2 : ¬ (neg b = false ∧ mag b ≠ 0) := fun h => hp ⟨⟨hfa, hfb⟩, h1, h⟩
          have : (!neg b && decide (mag b ≠ 0)) = false := by
            cases hs : neg b
            · by_cases h0 : mag b = 0
              · simp [h0]
              · exact absurd ⟨hs, h0⟩ h2
            · rfl
          rw [this, Bool.and_false]
        · have : (!neg a && decide (mag a ≠ 0)) = false := by
            cases hs : neg a
            · by_cases h0 : mag a = 0
              · simp [h0]
              · exact absurd ⟨hs, h0⟩ h1
            · rfl
          rw [this, Bool.and_false, Bool.false_and]
      · rw [decide_eq_false (show ¬ (mag b : Int) < 9218868437227405312 by omega), Bool.and_false]; rfl
    · rw [decide_eq_false (show ¬ (mag a : Int) < 9218868437227405312 by omega)]; rfl
end Go.Proofs.YtajeodimbfppiaaGreatDoor
