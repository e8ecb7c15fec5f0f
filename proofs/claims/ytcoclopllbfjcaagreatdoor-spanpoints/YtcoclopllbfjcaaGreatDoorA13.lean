/- Own work: contracts of the program's functions, part 13: SNG SNK SNI SP5 SQ2 SQ3 SQ1 SNJ SNL SNP SNQ SNR SNN SNS SNT SNU SNV SNW SNX SNY SNZ SO1 SO2 SO3 SO4. -/
import Derived.Test.YtcoclopllbfjcaaGreatDoorA12
import Derived.Test.YtcoclopllbfjcaaGreatDoorA11
import Derived.Test.YtcoclopllbfjcaaGreatDoorA8
import Derived.Test.YtcoclopllbfjcaaGreatDoorA9
import Derived.Test.YtcoclopllbfjcaaGreatDoorA10
import Derived.Test.YtcoclopllbfjcaaGreatDoorA4
import Derived.Test.YtcoclopllbfjcaaGreatDoorA6

/- The law's own small test. -/
namespace Go.Proofs.YtcoclopllbfjcaaGreatDoor
set_option linter.unusedVariables false
set_option linter.unusedSimpArgs false
open Go.RowKit Go.Fl64
attribute [local go_sem] run_store_flt

set_option maxHeartbeats 16000000 in
set_option maxRecDepth 200000 in
theorem works_1 (w : World)
    (k1 : ∀ W, Below w.heap.size w W → Calls Tryz.prog 8 #[.agg #[.float .f64 13830554455654793216, .float .f64 4611686018427387904], .agg #[.float .f64 4613937818241073152, .float .f64 9218868437227405312]] W fun r w' => r = .returned (.tuple #[.agg #[.float .f64 18442240474082181120, .float .f64 9218868437227405312], .int .i64 0]) ∧ Below W.heap.size W w')
    (k2 : ∀ W, Below w.heap.size w W → Calls Tryz.prog 10 #[.agg #[.float .f64 4607182418800017408, .float .f64 4607182418800017408], .agg #[.float .f64 4613937818241073152, .float .f64 4613937818241073152]] W fun r w' => r = .returned (.tuple #[.agg #[.float .f64 4599676419421066581, .float .f64 4599676419421066582], .int .i64 0]) ∧ Below W.heap.size W w')
    (k3 : ∀ W, Below w.heap.size w W → Calls Tryz.prog 10 #[.agg #[.float .f64 4607182418800017408, .float .f64 4607182418800017408], .agg #[.float .f64 13830554455654793216, .float .f64 4607182418800017408]] W fun r w' => r = .returned (.tuple #[.agg #[.float .f64 0, .float .f64 0], .int .i64 6]) ∧ Below W.heap.size W w')
    (k4 : ∀ W, Below w.heap.size w W → Calls Tryz.prog 31 #[.agg #[.float .f64 4607182418800017408, .float .f64 4611686018427387904]] W fun r w' => r = .returned (.tuple #[.float .f64 4602678819172646912, .int .i64 0]) ∧ Below W.heap.size W w')
    (k5 : ∀ W, Below w.heap.size w W → Calls Tryz.prog 42 #[.agg #[.float .f64 4607182418800017408, .float .f64 4611686018427387904], .float .f64 4609434218613702656] W fun r w' => r = .returned (.bool true) ∧ Below W.heap.size W w')
    (k6 : ∀ W, Below w.heap.size w W → Calls Tryz.prog 42 #[.agg #[.float .f64 4607182418800017408, .float .f64 4611686018427387904], .float .f64 4613937818241073152] W fun r w' => r = .returned (.bool false) ∧ Below W.heap.size W w') :
    Calls Tryz.prog 13 #[] w fun r w' => r = .returned (.bool true) ∧ Below w.heap.size w w' := by
  have hh : (FloatKind.f64.format.order 4602678819172646912 4602678819172646912 == some Ordering.eq) = true := by decide
  have H1 : Hid (∀ W, Below w.heap.size w W → Calls Tryz.prog 8 #[.agg #[.float .f64 13830554455654793216, .float .f64 4611686018427387904], .agg #[.float .f64 4613937818241073152, .float .f64 9218868437227405312]] W fun r w' => r = .returned (.tuple #[.agg #[.float .f64 18442240474082181120, .float .f64 9218868437227405312], .int .i64 0]) ∧ Below W.heap.size W w') := k1
  have H2 : Hid (∀ W, Below w.heap.size w W → Calls Tryz.prog 10 #[.agg #[.float .f64 4607182418800017408, .float .f64 4607182418800017408], .agg #[.float .f64 4613937818241073152, .float .f64 4613937818241073152]] W fun r w' => r = .returned (.tuple #[.agg #[.float .f64 4599676419421066581, .float .f64 4599676419421066582], .int .i64 0]) ∧ Below W.heap.size W w') := k2
  have H3 : Hid (∀ W, Below w.heap.size w W → Calls Tryz.prog 10 #[.agg #[.float .f64 4607182418800017408, .float .f64 4607182418800017408], .agg #[.float .f64 13830554455654793216, .float .f64 4607182418800017408]] W fun r w' => r = .returned (.tuple #[.agg #[.float .f64 0, .float .f64 0], .int .i64 6]) ∧ Below W.heap.size W w') := k3
  have H4 : Hid (∀ W, Below w.heap.size w W → Calls Tryz.prog 31 #[.agg #[.float .f64 4607182418800017408, .float .f64 4611686018427387904]] W fun r w' => r = .returned (.tuple #[.float .f64 4602678819172646912, .int .i64 0]) ∧ Below W.heap.size W w') := k4
  have H5 : Hid (∀ W, Below w.heap.size w W → Calls Tryz.prog 42 #[.agg #[.float .f64 4607182418800017408, .float .f64 4611686018427387904], .float .f64 4609434218613702656] W fun r w' => r = .returned (.bool true) ∧ Below W.heap.size W w') := k5
  have H6 : Hid (∀ W, Below w.heap.size w W → Calls Tryz.prog 42 #[.agg #[.float .f64 4607182418800017408, .float .f64 4611686018427387904], .float .f64 4613937818241073152] W fun r w' => r = .returned (.bool false) ∧ Below W.heap.size W w') := k6
  have A0 : Hid (Below w.heap.size w w) := Below.refl _ _
  clear k1 k2 k3 k4 k5 k6
  go_enter Tryz.func13, Tryz.ntmps13
  have kk := lof 13830554455654793216 4611686018427387904 w
  go_wp2_with fail
  refine kk.mono ?_
  rintro r w1 ⟨rfl, hb⟩
  have A1 : Hid (Below w.heap.size w w1) := A0.out.trans (hb.mono A0.out.size)
  clear hb kk A0
  go_wp2_with fail
  refine (cinf_p w1).mono ?_
  rintro r w' ⟨rfl, hw⟩
  replace hw := hw.symm
  subst hw
  have kk := lof 4613937818241073152 9218868437227405312 w1
  go_wp2_with fail
  refine kk.mono ?_
  rintro r w2 ⟨rfl, hb⟩
  have A2 : Hid (Below w.heap.size w w2) := A1.out.trans (hb.mono A1.out.size)
  clear hb kk A1
  have kk := H1.out w2 A2.out
  go_wp2_with fail
  refine kk.mono ?_
  rintro r w3 ⟨rfl, hb⟩
  have A3 : Hid (Below w.heap.size w w3) := A2.out.trans (hb.mono A2.out.size)
  clear hb kk A2
  obtain ⟨V1, hV1⟩ : ∃ V, V = w3.alloc (.cells #[.float .f64 18442240474082181120, .float .f64 9218868437227405312] 24) := ⟨_, rfl⟩
  have AV1 : Hid (Below w.heap.size w V1) := by rw [hV1]; exact A3.out.alloc A3.out.size _
  have XV1 : Hid (IvB V1 w3.heap.size 18442240474082181120 9218868437227405312) := by rw [hV1]; exact IvB.new _ _ _
  have BV1_V1 : Hid (Below V1.heap.size V1 V1) := Below.refl _ _
  clear A3
  have kk := lof 4607182418800017408 4607182418800017408 V1
  go_wp2_with fail
  rw [← hV1]
  clear hV1
  generalize hgV1 : w3.heap.size = gV1 at *
  clear hgV1
  refine kk.mono ?_
  rintro r w4 ⟨rfl, hb⟩
  have A4 : Hid (Below w.heap.size w w4) := AV1.out.trans (hb.mono AV1.out.size)
  have BV1_4 : Hid (Below V1.heap.size V1 w4) := BV1_V1.out.trans (hb.mono BV1_V1.out.size)
  clear BV1_V1
  clear hb kk AV1
  have kk := lof 4613937818241073152 4613937818241073152 w4
  go_wp2_with fail
  refine kk.mono ?_
  rintro r w5 ⟨rfl, hb⟩
  have A5 : Hid (Below w.heap.size w w5) := A4.out.trans (hb.mono A4.out.size)
  have BV1_5 : Hid (Below V1.heap.size V1 w5) := BV1_4.out.trans (hb.mono BV1_4.out.size)
  clear BV1_4
  clear hb kk A4
  have kk := H2.out w5 A5.out
  go_wp2_with fail
  refine kk.mono ?_
  rintro r w6 ⟨rfl, hb⟩
  have A6 : Hid (Below w.heap.size w w6) := A5.out.trans (hb.mono A5.out.size)
  have BV1_6 : Hid (Below V1.heap.size V1 w6) := BV1_5.out.trans (hb.mono BV1_5.out.size)
  clear BV1_5
  clear hb kk A5
  obtain ⟨V2, hV2⟩ : ∃ V, V = w6.alloc (.cells #[.float .f64 4599676419421066581, .float .f64 4599676419421066582] 24) := ⟨_, rfl⟩
  have AV2 : Hid (Below w.heap.size w V2) := by rw [hV2]; exact A6.out.alloc A6.out.size _
  have XV2 : Hid (IvB V2 w6.heap.size 4599676419421066581 4599676419421066582) := by rw [hV2]; exact IvB.new _ _ _
  have BV1_V2 : Hid (Below V1.heap.size V1 V2) := by rw [hV2]; exact BV1_6.out.alloc BV1_6.out.size _
  clear BV1_6
  have BV2_V2 : Hid (Below V2.heap.size V2 V2) := Below.refl _ _
  clear A6
  have kk := lof 4607182418800017408 4607182418800017408 V2
  go_wp2_with fail
  rw [← hV2]
  clear hV2
  generalize hgV2 : w6.heap.size = gV2 at *
  clear hgV2
  refine kk.mono ?_
  rintro r w7 ⟨rfl, hb⟩
  have A7 : Hid (Below w.heap.size w w7) := AV2.out.trans (hb.mono AV2.out.size)
  have BV1_7 : Hid (Below V1.heap.size V1 w7) := BV1_V2.out.trans (hb.mono BV1_V2.out.size)
  clear BV1_V2
  have BV2_7 : Hid (Below V2.heap.size V2 w7) := BV2_V2.out.trans (hb.mono BV2_V2.out.size)
  clear BV2_V2
  clear hb kk AV2
  have kk := lof 13830554455654793216 4607182418800017408 w7
  go_wp2_with fail
  refine kk.mono ?_
  rintro r w8 ⟨rfl, hb⟩
  have A8 : Hid (Below w.heap.size w w8) := A7.out.trans (hb.mono A7.out.size)
  have BV1_8 : Hid (Below V1.heap.size V1 w8) := BV1_7.out.trans (hb.mono BV1_7.out.size)
  clear BV1_7
  have BV2_8 : Hid (Below V2.heap.size V2 w8) := BV2_7.out.trans (hb.mono BV2_7.out.size)
  clear BV2_7
  clear hb kk A7
  have kk := H3.out w8 A8.out
  go_wp2_with fail
  refine kk.mono ?_
  rintro r w9 ⟨rfl, hb⟩
  have A9 : Hid (Below w.heap.size w w9) := A8.out.trans (hb.mono A8.out.size)
  have BV1_9 : Hid (Below V1.heap.size V1 w9) := BV1_8.out.trans (hb.mono BV1_8.out.size)
  clear BV1_8
  have BV2_9 : Hid (Below V2.heap.size V2 w9) := BV2_8.out.trans (hb.mono BV2_8.out.size)
  clear BV2_8
  clear hb kk A8
  obtain ⟨V3, hV3⟩ : ∃ V, V = w9.alloc (.cells #[.float .f64 0, .float .f64 0] 24) := ⟨_, rfl⟩
  have AV3 : Hid (Below w.heap.size w V3) := by rw [hV3]; exact A9.out.alloc A9.out.size _
  have XV3 : Hid (IvB V3 w9.heap.size 0 0) := by rw [hV3]; exact IvB.new _ _ _
  have BV1_V3 : Hid (Below V1.heap.size V1 V3) := by rw [hV3]; exact BV1_9.out.alloc BV1_9.out.size _
  clear BV1_9
  have BV2_V3 : Hid (Below V2.heap.size V2 V3) := by rw [hV3]; exact BV2_9.out.alloc BV2_9.out.size _
  clear BV2_9
  have BV3_V3 : Hid (Below V3.heap.size V3 V3) := Below.refl _ _
  clear A9
  have kk := lof 4607182418800017408 4611686018427387904 V3
  go_wp2_with fail
  rw [← hV3]
  clear hV3
  generalize hgV3 : w9.heap.size = gV3 at *
  clear hgV3
  refine kk.mono ?_
  rintro r w10 ⟨rfl, hb⟩
  have A10 : Hid (Below w.heap.size w w10) := AV3.out.trans (hb.mono AV3.out.size)
  have BV1_10 : Hid (Below V1.heap.size V1 w10) := BV1_V3.out.trans (hb.mono BV1_V3.out.size)
  clear BV1_V3
  have BV2_10 : Hid (Below V2.heap.size V2 w10) := BV2_V3.out.trans (hb.mono BV2_V3.out.size)
  clear BV2_V3
  have BV3_10 : Hid (Below V3.heap.size V3 w10) := BV3_V3.out.trans (hb.mono BV3_V3.out.size)
  clear BV3_V3
  clear hb kk AV3
  have kk := H4.out w10 A10.out
  go_wp2_with fail
  refine kk.mono ?_
  rintro r w11 ⟨rfl, hb⟩
  have A11 : Hid (Below w.heap.size w w11) := A10.out.trans (hb.mono A10.out.size)
  have BV1_11 : Hid (Below V1.heap.size V1 w11) := BV1_10.out.trans (hb.mono BV1_10.out.size)
  clear BV1_10
  have BV2_11 : Hid (Below V2.heap.size V2 w11) := BV2_10.out.trans (hb.mono BV2_10.out.size)
  clear BV2_10
  have BV3_11 : Hid (Below V3.heap.size V3 w11) := BV3_10.out.trans (hb.mono BV3_10.out.size)
  clear BV3_10
  clear hb kk A10
  have XM : Hid (IvB w11 gV1 18442240474082181120 9218868437227405312) := XV1.out.box BV1_11.out
  have XQ : Hid (IvB w11 gV2 4599676419421066581 4599676419421066582) := XV2.out.box BV2_11.out
  clear XV1 XV2 XV3 BV1_11 BV2_11 BV3_11
  have HK : Hid (∀ w', Below w11.heap.size w11 w' → ((w'.cell? ⟨gV1, 0, none⟩ = some (.float .f64 18442240474082181120) ∧ w'.cell? ⟨gV1, 1, none⟩ = some (.float .f64 9218868437227405312)) ∧ (w'.cell? ⟨gV2, 0, none⟩ = some (.float .f64 4599676419421066581) ∧ w'.cell? ⟨gV2, 1, none⟩ = some (.float .f64 4599676419421066582))) ∧ Below w11.heap.size w11 w') := fun w' hb => ⟨⟨⟨(XM.out.later hb).1, (XM.out.later hb).2.1⟩, (XQ.out.later hb).1, (XQ.out.later hb).2.1⟩, hb⟩
  have hBR : Below w11.heap.size w11 w11.drew := (Below.refl _ _).drew
  have q1 : ∀ W, Below w11.heap.size w11 W → Calls Tryz.prog 51 #[] W fun r w' => r = .returned (.agg #[.float .f64 18442240474082181120, .float .f64 9218868437227405312]) ∧ Below w11.heap.size w11 w' := fun W h => (sall W).mono fun r w' ⟨e1, e2⟩ => ⟨e1, h.trans (e2.mono h.size)⟩
  have q2 : ∀ W, Below w11.heap.size w11 W → Calls Tryz.prog 12 #[.agg #[.float .f64 18442240474082181120, .float .f64 9218868437227405312], .agg #[.float .f64 18442240474082181120, .float .f64 9218868437227405312]] W fun r w' => r = .returned (.bool true) ∧ Below w11.heap.size w11 w' := fun W h => (isame _ _ (by omega) (by omega) W).mono fun r w' ⟨e1, e2⟩ => ⟨e1, h.trans (e2.mono h.size)⟩
  have q3 : ∀ W, Below w11.heap.size w11 W → Calls Tryz.prog 12 #[.agg #[.float .f64 4599676419421066581, .float .f64 4599676419421066582], .agg #[.float .f64 4599676419421066581, .float .f64 4599676419421066582]] W fun r w' => r = .returned (.bool true) ∧ Below w11.heap.size w11 w' := fun W h => (isame _ _ (by omega) (by omega) W).mono fun r w' ⟨e1, e2⟩ => ⟨e1, h.trans (e2.mono h.size)⟩
  have q4 : ∀ a b W, Below w11.heap.size w11 W → Calls Tryz.prog 50 #[.float .f64 a, .float .f64 b] W fun r w' => r = .returned (.agg #[.float .f64 a, .float .f64 b]) ∧ Below w11.heap.size w11 w' := fun a b W h => (lof a b W).mono fun r w' ⟨e1, e2⟩ => ⟨e1, h.trans (e2.mono h.size)⟩
  have q5 : ∀ W, Below w11.heap.size w11 W → Calls Tryz.prog 42 #[.agg #[.float .f64 4607182418800017408, .float .f64 4611686018427387904], .float .f64 4609434218613702656] W fun r w' => r = .returned (.bool true) ∧ Below w11.heap.size w11 w' := fun W h => (H5.out W (A11.out.trans (h.mono A11.out.size))).mono fun r w' ⟨e1, e2⟩ => ⟨e1, h.trans (e2.mono h.size)⟩
  have q6 : ∀ W, Below w11.heap.size w11 W → Calls Tryz.prog 42 #[.agg #[.float .f64 4607182418800017408, .float .f64 4611686018427387904], .float .f64 4613937818241073152] W fun r w' => r = .returned (.bool false) ∧ Below w11.heap.size w11 w' := fun W h => (H6.out W (A11.out.trans (h.mono A11.out.size))).mono fun r w' ⟨e1, e2⟩ => ⟨e1, h.trans (e2.mono h.size)⟩
  clear H1 H2 H3 H4 H5 H6 XM XQ
  obtain ⟨⟨⟨a0, a1⟩, a2, a3⟩, -⟩ := HK.out w11 (Below.refl _ _)
  go_upto_region 5 with fail
  go_region_held3 (fun w' => ((w'.cell? ⟨gV1, 0, none⟩ = some (.float .f64 18442240474082181120) ∧ w'.cell? ⟨gV1, 1, none⟩ = some (.float .f64 9218868437227405312)) ∧ (w'.cell? ⟨gV2, 0, none⟩ = some (.float .f64 4599676419421066581) ∧ w'.cell? ⟨gV2, 1, none⟩ = some (.float .f64 4599676419421066582))) ∧ Below w11.heap.size w11 w') (first | (with_reducible assumption) | exact HK.out _ hBR | (refine HK.out _ ?_; with_reducible assumption) | go_keep)
    (first | (go_at_call 51; with_reducible refine (q1 _ (by first | (with_reducible assumption) | exact hBR)).mono ?_; rintro r w5 ⟨rfl, hb5⟩)
           | (go_at_call 12; with_reducible refine (q2 _ (by first | (with_reducible assumption) | exact hBR)).mono ?_; rintro r w5 ⟨rfl, hb5⟩)
           | (go_at_call 12; with_reducible refine (q3 _ (by first | (with_reducible assumption) | exact hBR)).mono ?_; rintro r w5 ⟨rfl, hb5⟩)
           | (go_at_call 50; with_reducible refine (q4 _ _ _ (by first | (with_reducible assumption) | exact hBR)).mono ?_; rintro r w5 ⟨rfl, hb5⟩)
           | (go_at_call 42; with_reducible refine (q5 _ (by first | (with_reducible assumption) | exact hBR)).mono ?_; rintro r w5 ⟨rfl, hb5⟩)
           | (go_at_call 42; with_reducible refine (q6 _ (by first | (with_reducible assumption) | exact hBR)).mono ?_; rintro r w5 ⟨rfl, hb5⟩))
  have HF : Hid (Below w.heap.size w w5) := A11.out.trans (hb5.mono A11.out.size)
  clear q1 q2 q3 q4 q5 q6 HK hBR a0 a1 a2 a3 hb5
  go_wp2_with fail
  go_ret
  exact ⟨rfl, HF.out⟩
theorem works8 (w : World) (hT : Tab32 w) (hJ : Ie.Tab w) : Calls Tryz.prog 13 #[] w fun r w' => r = .returned (.bool true) ∧ Below w.heap.size w w' := by
  refine works_1 w (fun W h => ?_) (fun W h => ?_) (fun W h => ?_) (fun W h => ?_) (fun W h => ?_) (fun W h => ?_)
  · have k := smul 13830554455654793216 4611686018427387904 4613937818241073152 9218868437227405312 (by omega) (by omega) (by omega) (by omega) W (hT.later h) (Tab.later hJ h)
    rw [mul_at.1, mul_at.2.1, mul_at.2.2] at k
    exact k
  · have k := squo 4607182418800017408 4607182418800017408 4613937818241073152 4613937818241073152 (by omega) (by omega) (by omega) (by omega) W (hT.later h) (Tab.later hJ h)
    rw [quo_at.1, quo_at.2.1, quo_at.2.2.1, quo_at.2.2.2] at k
    exact k
  · have k := squo 4607182418800017408 4607182418800017408 13830554455654793216 4607182418800017408 (by omega) (by omega) (by omega) (by omega) W (hT.later h) (Tab.later hJ h)
    rw [quo_at2.1, quo_at2.2] at k
    exact k
  · have k := srad 4607182418800017408 4611686018427387904 (by omega) (by omega) W (hT.later h) (Tab.later hJ h) (fun _ => rad_at.2.1) (fun _ => rad_at.2.2.1)
    rw [rad_at.2.2.2, rad_at.1] at k
    exact k
  · have k := shas 4607182418800017408 4611686018427387904 4609434218613702656 (by omega) (by omega) (by omega) W
    rw [has_at.1] at k
    exact k
  · have k := shas 4607182418800017408 4611686018427387904 4613937818241073152 (by omega) (by omega) (by omega) W
    rw [has_at.2] at k
    exact k
end Go.Proofs.YtcoclopllbfjcaaGreatDoor
/- The sums of span. -/
namespace Go.Proofs.YtcoclopllbfjcaaGreatDoor
set_option linter.unusedVariables false
set_option linter.unusedSimpArgs false
open Go.RowKit Go.Fl64
attribute [local go_sem] run_store_flt

set_option maxHeartbeats 4000000 in
set_option maxRecDepth 200000 in
theorem sadd_1 (a b c d x y : Nat) (v : Bool) (w : World)
    (k0 : ∀ W g T, W.heap[g]? = some (.cells #[.float .f64 a, .float .f64 b, .float .f64 c, .float .f64 d] T (0, 0)) → Calls Tryz.prog 33 #[.slice (some ⟨g, 0, none⟩) 2 2] W fun r w' => r = .returned (.bool v) ∧ Below W.heap.size W w')
    (k1 : v = true → ∀ W, Below w.heap.size w W → Calls Tryz.prog 61 #[.agg #[.float .f64 a, .float .f64 b], .agg #[.float .f64 c, .float .f64 d]] W fun r w' => r = .returned (.agg #[.float .f64 x, .float .f64 y]) ∧ Below W.heap.size W w') :
    Calls Tryz.prog 20 #[.agg #[.float .f64 a, .float .f64 b], .agg #[.float .f64 c, .float .f64 d]] w fun r w' => r = .returned (orV v x y (.int .i64 0) (.int .i64 1)) ∧ Below w.heap.size w w' := by
  have H0 : Hid (∀ W g T, W.heap[g]? = some (.cells #[.float .f64 a, .float .f64 b, .float .f64 c, .float .f64 d] T (0, 0)) → Calls Tryz.prog 33 #[.slice (some ⟨g, 0, none⟩) 2 2] W fun r w' => r = .returned (.bool v) ∧ Below W.heap.size W w') := k0
  have H1 : Hid (v = true → ∀ W, Below w.heap.size w W → Calls Tryz.prog 61 #[.agg #[.float .f64 a, .float .f64 b], .agg #[.float .f64 c, .float .f64 d]] W fun r w' => r = .returned (.agg #[.float .f64 x, .float .f64 y]) ∧ Below W.heap.size W w') := k1
  obtain ⟨W, hW⟩ : ∃ W, W = (((w.alloc (.cells #[.float .f64 a, .float .f64 b] 24)).alloc (.cells #[.float .f64 c, .float .f64 d] 24)).alloc (.cells #[.float .f64 0, .float .f64 0] 24)) := ⟨_, rfl⟩
  have HX : Hid (Below w.heap.size w W ∧ IvB W (w.heap.size) a b ∧ IvB W (w.heap.size + 1) c d ∧ IvB W (w.heap.size + 1 + 1) 0 0) := by
    rw [hW]
    exact ⟨bxs3_0 w a b c d 0 0, bxs3_1 w a b c d 0 0, bxs3_2 w a b c d 0 0, bxs3_3 w a b c d 0 0⟩
  have HK : Hid (∀ w', Below W.heap.size W w' → IvF w' (w.heap.size) a b ∧ IvF w' (w.heap.size + 1) c d ∧ IvF w' (w.heap.size + 1 + 1) 0 0) := fun w' hb => ⟨(HX.out.2.1).later hb, (HX.out.2.2.1).later hb, (HX.out.2.2.2).later hb⟩
  obtain ⟨⟨c0, c1, z0, z1⟩, ⟨c2, c3, z2, z3⟩, ⟨c4, c5, z4, z5⟩⟩ := HK.out W (Below.refl _ _)
  have kk := H0.out (W.alloc (.cells #[.float .f64 a, .float .f64 b, .float .f64 c, .float .f64 d] 24)) W.heap.size _ (heap_alloc_new _ _)
  clear k0 k1 H0
  go_enter Tryz.func20, Tryz.ntmps20
  go_upto_region 1 with fail
  rw [← hW]
  clear hW
  go_wp2_with fail
  refine kk.mono ?_
  rintro r w0 ⟨rfl, hb1⟩
  clear kk
  have hb2 : Below W.heap.size W w0 := ((Below.refl _ _).alloc (Nat.le_refl _) _).trans (hb1.mono (by simp))
  clear c0 z0 c1 z1 c2 z2 c3 z3 c4 z4 c5 z5
  obtain ⟨⟨c0, c1, z0, z1⟩, ⟨c2, c3, z2, z3⟩, ⟨c4, c5, z4, z5⟩⟩ := HK.out w0 hb2
  cases v
  · have HB : Hid (Below w.heap.size w w0) := HX.out.1.trans (hb2.mono HX.out.1.size)
    have HR : Hid (IvB w0 (w.heap.size + 1 + 1) 0 0) := HX.out.2.2.2.box hb2
    clear hb1 hb2 HK HX H1
    go_wp2
    refine bodyPost_ret (results_cell_tmp_row rfl _ _ (w.heap.size + 1 + 1) 24 #[.float .f64 0, .float .f64 0] (0, 0) _ rfl (HR.out.set _ _) Tryz.underlying24 rfl iv_info) rfl ?_
    exact ⟨rfl, below_store2 HB.out (by omega) _ _⟩
  have HB0 : Hid (Below W.heap.size W w0) := hb2
  clear hb1 hb2
  have kk := H1.out (by simp) w0 (HX.out.1.trans (HB0.out.mono HX.out.1.size))
  clear H1
  go_wp2_with fail
  refine kk.mono ?_
  rintro r w1 ⟨rfl, hb2⟩
  have HB1 : Hid (Below W.heap.size W w1) := HB0.out.trans (hb2.mono HB0.out.size)
  clear hb2 kk HB0
  clear c0 z0 c1 z1 c2 z2 c3 z3 c4 z4 c5 z5
  obtain ⟨⟨c0, c1, z0, z1⟩, ⟨c2, c3, z2, z3⟩, ⟨c4, c5, z4, z5⟩⟩ := HK.out w1 HB1.out
  have HB : Hid (Below w.heap.size w w1) := HX.out.1.trans (HB1.out.mono HX.out.1.size)
  have HR : Hid (IvB w1 (w.heap.size + 1 + 1) 0 0) := HX.out.2.2.2.box HB1.out
  clear HK HX HB1
  go_wp2
  refine bodyPost_ret (results_cell_tmp_row rfl _ _ (w.heap.size + 1 + 1) 24 #[.float .f64 x, .float .f64 y] (0, 0) _ rfl (HR.out.set _ _) Tryz.underlying24 rfl iv_info) rfl ?_
  exact ⟨rfl, below_store2 HB.out (by omega) _ _⟩
set_option maxHeartbeats 4000000 in
set_option maxRecDepth 200000 in
theorem ssub_1 (a b c d u2 v2 x y : Nat) (v : Bool) (w : World)
    (k0 : ∀ W g T, W.heap[g]? = some (.cells #[.float .f64 a, .float .f64 b, .float .f64 c, .float .f64 d] T (0, 0)) → Calls Tryz.prog 33 #[.slice (some ⟨g, 0, none⟩) 2 2] W fun r w' => r = .returned (.bool v) ∧ Below W.heap.size W w')
    (k1 : v = true → ∀ W, Below w.heap.size w W → Calls Tryz.prog 65 #[.agg #[.float .f64 c, .float .f64 d]] W fun r w' => r = .returned (.agg #[.float .f64 u2, .float .f64 v2]) ∧ Below W.heap.size W w')
    (k2 : v = true → ∀ W, Below w.heap.size w W → Calls Tryz.prog 61 #[.agg #[.float .f64 a, .float .f64 b], .agg #[.float .f64 u2, .float .f64 v2]] W fun r w' => r = .returned (.agg #[.float .f64 x, .float .f64 y]) ∧ Below W.heap.size W w') :
    Calls Tryz.prog 24 #[.agg #[.float .f64 a, .float .f64 b], .agg #[.float .f64 c, .float .f64 d]] w fun r w' => r = .returned (orV v x y (.int .i64 0) (.int .i64 1)) ∧ Below w.heap.size w w' := by
  have H0 : Hid (∀ W g T, W.heap[g]? = some (.cells #[.float .f64 a, .float .f64 b, .float .f64 c, .float .f64 d] T (0, 0)) → Calls Tryz.prog 33 #[.slice (some ⟨g, 0, none⟩) 2 2] W fun r w' => r = .returned (.bool v) ∧ Below W.heap.size W w') := k0
  have H1 : Hid (v = true → ∀ W, Below w.heap.size w W → Calls Tryz.prog 65 #[.agg #[.float .f64 c, .float .f64 d]] W fun r w' => r = .returned (.agg #[.float .f64 u2, .float .f64 v2]) ∧ Below W.heap.size W w') := k1
  have H2 : Hid (v = true → ∀ W, Below w.heap.size w W → Calls Tryz.prog 61 #[.agg #[.float .f64 a, .float .f64 b], .agg #[.float .f64 u2, .float .f64 v2]] W fun r w' => r = .returned (.agg #[.float .f64 x, .float .f64 y]) ∧ Below W.heap.size W w') := k2
  obtain ⟨W, hW⟩ : ∃ W, W = (((w.alloc (.cells #[.float .f64 a, .float .f64 b] 24)).alloc (.cells #[.float .f64 c, .float .f64 d] 24)).alloc (.cells #[.float .f64 0, .float .f64 0] 24)) := ⟨_, rfl⟩
  have HX : Hid (Below w.heap.size w W ∧ IvB W (w.heap.size) a b ∧ IvB W (w.heap.size + 1) c d ∧ IvB W (w.heap.size + 1 + 1) 0 0) := by
    rw [hW]
    exact ⟨bxs3_0 w a b c d 0 0, bxs3_1 w a b c d 0 0, bxs3_2 w a b c d 0 0, bxs3_3 w a b c d 0 0⟩
  have HK : Hid (∀ w', Below W.heap.size W w' → IvF w' (w.heap.size) a b ∧ IvF w' (w.heap.size + 1) c d ∧ IvF w' (w.heap.size + 1 + 1) 0 0) := fun w' hb => ⟨(HX.out.2.1).later hb, (HX.out.2.2.1).later hb, (HX.out.2.2.2).later hb⟩
  obtain ⟨⟨c0, c1, z0, z1⟩, ⟨c2, c3, z2, z3⟩, ⟨c4, c5, z4, z5⟩⟩ := HK.out W (Below.refl _ _)
  have kk := H0.out (W.alloc (.cells #[.float .f64 a, .float .f64 b, .float .f64 c, .float .f64 d] 24)) W.heap.size _ (heap_alloc_new _ _)
  clear k0 k1 k2 H0
  go_enter Tryz.func24, Tryz.ntmps24
  go_upto_region 1 with fail
  rw [← hW]
  clear hW
  go_wp2_with fail
  refine kk.mono ?_
  rintro r w0 ⟨rfl, hb1⟩
  clear kk
  have hb2 : Below W.heap.size W w0 := ((Below.refl _ _).alloc (Nat.le_refl _) _).trans (hb1.mono (by simp))
  clear c0 c1 c2 c3 c4 c5 z0 z1 z2 z3 z4 z5
  obtain ⟨⟨c0, c1, z0, z1⟩, ⟨c2, c3, z2, z3⟩, ⟨c4, c5, z4, z5⟩⟩ := HK.out w0 hb2
  cases v
  · have HB : Hid (Below w.heap.size w w0) := HX.out.1.trans (hb2.mono HX.out.1.size)
    have HR : Hid (IvB w0 (w.heap.size + 1 + 1) 0 0) := HX.out.2.2.2.box hb2
    clear hb1 hb2 HK HX H1 H2
    go_wp2
    refine bodyPost_ret (results_cell_tmp_row rfl _ _ (w.heap.size + 1 + 1) 24 #[.float .f64 0, .float .f64 0] (0, 0) _ rfl (HR.out.set _ _) Tryz.underlying24 rfl iv_info) rfl ?_
    exact ⟨rfl, below_store2 HB.out (by omega) _ _⟩
  have HKK : Hid (∀ w', Below W.heap.size W w' → (w'.cell? ⟨w.heap.size, 0, none⟩ = some (.float .f64 a) ∧ w'.cell? ⟨w.heap.size, 1, none⟩ = some (.float .f64 b)) ∧ (w'.cell? ⟨w.heap.size + 1, 0, none⟩ = some (.float .f64 c) ∧ w'.cell? ⟨w.heap.size + 1, 1, none⟩ = some (.float .f64 d))) := fun w' hb => ⟨⟨(HK.out w' hb).1.1, (HK.out w' hb).1.2.1⟩, (HK.out w' hb).2.1.1, (HK.out w' hb).2.1.2.1⟩
  have hR : Below W.heap.size W w0.drew := hb2.drew
  have q1 : ∀ W', Below W.heap.size W W' → Calls Tryz.prog 65 #[.agg #[.float .f64 c, .float .f64 d]] W' fun r w' => r = .returned (.agg #[.float .f64 u2, .float .f64 v2]) ∧ Below W.heap.size W w' := fun W' h => (H1.out (by simp) W' (HX.out.1.trans (h.mono HX.out.1.size))).mono fun r w' ⟨e1, e2⟩ => ⟨e1, h.trans (e2.mono h.size)⟩
  have q2 : ∀ W', Below W.heap.size W W' → Calls Tryz.prog 61 #[.agg #[.float .f64 a, .float .f64 b], .agg #[.float .f64 u2, .float .f64 v2]] W' fun r w' => r = .returned (.agg #[.float .f64 x, .float .f64 y]) ∧ Below W.heap.size W w' ∧ (w'.cell? ⟨w.heap.size + 1 + 1, 0, none⟩ = some (.float .f64 0) ∧ w'.cell? ⟨w.heap.size + 1 + 1, 1, none⟩ = some (.float .f64 0) ∧ w'.frozen? ⟨w.heap.size + 1 + 1, 0, none⟩ = false ∧ w'.frozen? ⟨w.heap.size + 1 + 1, 1, none⟩ = false) := fun W' h => (H2.out (by simp) W' (HX.out.1.trans (h.mono HX.out.1.size))).mono fun r w' ⟨e1, e2⟩ => ⟨e1, h.trans (e2.mono h.size), (HK.out w' (h.trans (e2.mono h.size))).2.2⟩
  clear H1 H2
  go_upto_region 3 with fail
  go_region_held3 (fun w' => (w'.cell? ⟨w.heap.size, 0, none⟩ = some (.float .f64 a) ∧ w'.cell? ⟨w.heap.size, 1, none⟩ = some (.float .f64 b)) ∧ (w'.cell? ⟨w.heap.size + 1, 0, none⟩ = some (.float .f64 c) ∧ w'.cell? ⟨w.heap.size + 1, 1, none⟩ = some (.float .f64 d))) (first | (with_reducible assumption) | (with_reducible exact HKK.out _ hR) | (with_reducible exact HKK.out _ hb2) | (with_reducible refine HKK.out _ ?_; with_reducible assumption) | (refine ⟨⟨?_, ?_⟩, ?_, ?_⟩ <;> (change World.cell? (World.setCell (World.setCell _ _ _) _ _) _ = _; rw [World.cell?_setCell_other _ _ _ _ (by first | (simp; done) | (simp; omega)), World.cell?_setCell_other _ _ _ _ (by first | (simp; done) | (simp; omega))]; first | exact (HKK.out _ hb7).1.1 | exact (HKK.out _ hb7).1.2 | exact (HKK.out _ hb7).2.1 | exact (HKK.out _ hb7).2.2)) | go_keep)
    (first | (go_at_call 65; with_reducible refine (q1 _ (by first | (with_reducible assumption) | exact hR)).mono ?_; rintro r w6 ⟨rfl, hb6⟩)
           | (go_at_call 61; with_reducible refine (q2 _ (by first | (with_reducible assumption) | exact hR)).mono ?_; rintro r w7 ⟨rfl, hb7, x0, x1, x2, x3⟩))
  have HB : Hid (Below w.heap.size w w7) := HX.out.1.trans (hb7.mono HX.out.1.size)
  have HR : Hid (IvB w7 (w.heap.size + 1 + 1) 0 0) := HX.out.2.2.2.box hb7
  clear q1 q2 HKK HK HX hR hb7 x0 x1 x2 x3 c0 c1 c2 c3
  go_wp2_with fail
  refine bodyPost_ret (results_cell_tmp_row rfl _ _ (w.heap.size + 1 + 1) 24 #[.float .f64 x, .float .f64 y] (0, 0) _ rfl (HR.out.set _ _) Tryz.underlying24 rfl iv_info) rfl ?_
  first | exact ⟨rfl, below_store2 HB.out (by omega) _ _⟩ | exact ⟨rfl, (below_store2 HB.out (by omega) _ _).drew⟩
set_option maxHeartbeats 4000000 in
set_option maxRecDepth 200000 in
theorem sneg_1 (a b x y : Nat) (v : Bool) (w : World)
    (k0 : ∀ W, Calls Tryz.prog 52 #[.agg #[.float .f64 a, .float .f64 b]] W fun r w' => r = .returned (.bool v) ∧ Below W.heap.size W w')
    (k1 : v = true → ∀ W, Below w.heap.size w W → Calls Tryz.prog 65 #[.agg #[.float .f64 a, .float .f64 b]] W fun r w' => r = .returned (.agg #[.float .f64 x, .float .f64 y]) ∧ Below W.heap.size W w') :
    Calls Tryz.prog 29 #[.agg #[.float .f64 a, .float .f64 b]] w fun r w' => r = .returned (orV v x y (.int .i64 0) (.int .i64 1)) ∧ Below w.heap.size w w' := by
  have H0 : Hid (∀ W, Calls Tryz.prog 52 #[.agg #[.float .f64 a, .float .f64 b]] W fun r w' => r = .returned (.bool v) ∧ Below W.heap.size W w') := k0
  have H1 : Hid (v = true → ∀ W, Below w.heap.size w W → Calls Tryz.prog 65 #[.agg #[.float .f64 a, .float .f64 b]] W fun r w' => r = .returned (.agg #[.float .f64 x, .float .f64 y]) ∧ Below W.heap.size W w') := k1
  obtain ⟨W, hW⟩ : ∃ W, W = ((w.alloc (.cells #[.float .f64 a, .float .f64 b] 24)).alloc (.cells #[.float .f64 0, .float .f64 0] 24)) := ⟨_, rfl⟩
  have HX : Hid (Below w.heap.size w W ∧ IvB W (w.heap.size) a b ∧ IvB W (w.heap.size + 1) 0 0) := by
    rw [hW]
    exact ⟨bxs2_0 w a b 0 0, bxs2_1 w a b 0 0, bxs2_2 w a b 0 0⟩
  have HK : Hid (∀ w', Below W.heap.size W w' → IvF w' (w.heap.size) a b ∧ IvF w' (w.heap.size + 1) 0 0) := fun w' hb => ⟨(HX.out.2.1).later hb, (HX.out.2.2).later hb⟩
  obtain ⟨⟨c0, c1, z0, z1⟩, ⟨c2, c3, z2, z3⟩⟩ := HK.out W (Below.refl _ _)
  have kk := H0.out W
  clear k0 k1 H0
  go_enter Tryz.func29, Tryz.ntmps29
  go_upto_region 1 with fail
  rw [← hW]
  clear hW
  go_wp2_with fail
  refine kk.mono ?_
  rintro r w0 ⟨rfl, hb1⟩
  clear kk
  have hb2 : Below W.heap.size W w0 := hb1
  clear c0 z0 c1 z1 c2 z2 c3 z3
  obtain ⟨⟨c0, c1, z0, z1⟩, ⟨c2, c3, z2, z3⟩⟩ := HK.out w0 hb2
  cases v
  · have HB : Hid (Below w.heap.size w w0) := HX.out.1.trans (hb2.mono HX.out.1.size)
    have HR : Hid (IvB w0 (w.heap.size + 1) 0 0) := HX.out.2.2.box hb2
    clear hb1 hb2 HK HX H1
    go_wp2
    refine bodyPost_ret (results_cell_tmp_row rfl _ _ (w.heap.size + 1) 24 #[.float .f64 0, .float .f64 0] (0, 0) _ rfl (HR.out.set _ _) Tryz.underlying24 rfl iv_info) rfl ?_
    exact ⟨rfl, below_store2 HB.out (by omega) _ _⟩
  have HB0 : Hid (Below W.heap.size W w0) := hb2
  clear hb1 hb2
  have kk := H1.out (by simp) w0 (HX.out.1.trans (HB0.out.mono HX.out.1.size))
  clear H1
  go_wp2_with fail
  refine kk.mono ?_
  rintro r w1 ⟨rfl, hb2⟩
  have HB1 : Hid (Below W.heap.size W w1) := HB0.out.trans (hb2.mono HB0.out.size)
  clear hb2 kk HB0
  clear c0 z0 c1 z1 c2 z2 c3 z3
  obtain ⟨⟨c0, c1, z0, z1⟩, ⟨c2, c3, z2, z3⟩⟩ := HK.out w1 HB1.out
  have HB : Hid (Below w.heap.size w w1) := HX.out.1.trans (HB1.out.mono HX.out.1.size)
  have HR : Hid (IvB w1 (w.heap.size + 1) 0 0) := HX.out.2.2.box HB1.out
  clear HK HX HB1
  go_wp2
  refine bodyPost_ret (results_cell_tmp_row rfl _ _ (w.heap.size + 1) 24 #[.float .f64 x, .float .f64 y] (0, 0) _ rfl (HR.out.set _ _) Tryz.underlying24 rfl iv_info) rfl ?_
  exact ⟨rfl, below_store2 HB.out (by omega) _ _⟩
set_option maxHeartbeats 4000000 in
theorem sturned (a b : Nat) (w : World) (ha : a < 18446744073709551616) (hb : b < 18446744073709551616) :
    Calls Tryz.prog 65 #[.agg #[.float .f64 a, .float .f64 b]] w fun r w' => r = .returned (.agg #[.float .f64 (pl (ngt b)), .float .f64 (pl (ngt a))]) ∧ Below w.heap.size w w' := by
  have n1 : ∀ w, (Op.unary UnOp.neg (.float .f64 a)).run Tryz.prog w = .ok (.float .f64 (ngt a)) w := fun w => by rw [← negF a ha]; rfl
  have n2 : ∀ w, (Op.unary UnOp.neg (.float .f64 b)).run Tryz.prog w = .ok (.float .f64 (ngt b)) w := fun w => by rw [← negF b hb]; rfl
  have k := fun W => sbetween (ngt b) (ngt a) W (ngt_lt hb) (ngt_lt ha)
  generalize pl (ngt a) = A at *
  generalize pl (ngt b) = C at *
  obtain ⟨W, hW⟩ : ∃ W, W = ((w.alloc (.cells #[.float .f64 a, .float .f64 b] 24)).alloc (.cells #[.float .f64 0, .float .f64 0] 24)) := ⟨_, rfl⟩
  have HX : Hid (Below w.heap.size w W ∧ IvB W (w.heap.size) a b ∧ IvB W (w.heap.size + 1) 0 0) := by
    rw [hW]
    exact ⟨bxs2_0 w a b 0 0, bxs2_1 w a b 0 0, bxs2_2 w a b 0 0⟩
  have HK : Hid (∀ w', Below W.heap.size W w' → IvF w' (w.heap.size) a b ∧ IvF w' (w.heap.size + 1) 0 0) := fun w' hb => ⟨(HX.out.2.1).later hb, (HX.out.2.2).later hb⟩
  obtain ⟨⟨c0, c1, z0, z1⟩, ⟨c2, c3, z2, z3⟩⟩ := HK.out W (Below.refl _ _)
  have kk := k W
  clear k ha hb
  go_enter Tryz.func65, Tryz.ntmps65
  go_upto_region 1 with fail
  rw [← hW]
  clear hW
  go_wp2_with fail
  refine kk.mono ?_
  rintro r w1 ⟨rfl, hb1⟩
  clear kk c0 c1 c2 c3 z0 z1 z2 z3
  obtain ⟨⟨c0, c1, z0, z1⟩, ⟨c2, c3, z2, z3⟩⟩ := HK.out w1 hb1
  have HB : Hid (Below w.heap.size w w1) := HX.out.1.trans (hb1.mono HX.out.1.size)
  have HR : Hid (IvB w1 (w.heap.size + 1) 0 0) := HX.out.2.2.box hb1
  clear hb1 HK HX n1 n2
  go_wp2
  refine bodyPost_ret (results_cell_row rfl _ _ (w.heap.size + 1) 24 #[.float .f64 C, .float .f64 A] (0, 0) _ rfl (HR.out.set _ _) Tryz.underlying24 rfl iv_info) rfl ?_
  exact ⟨rfl, below_store2 HB.out (by omega) _ _⟩
set_option maxHeartbeats 4000000 in
theorem smag_1 (a b x y m : Nat) (p q : Bool) (w : World) (o1 : (FloatKind.f64.format.order a 0 == some Ordering.gt || FloatKind.f64.format.order a 0 == some Ordering.eq) = p) (o2 : (FloatKind.f64.format.order b 0 == some Ordering.lt || FloatKind.f64.format.order b 0 == some Ordering.eq) = q)
    (n1 : ∀ w, (Op.unary UnOp.neg (.float .f64 a)).run Tryz.prog w = .ok (.float .f64 (ngt a)) w)
    (hm : p = false → q = false → ∀ W ts t, (Builtin.max_ ts t #[.float .f64 (ngt a), .float .f64 b]).run Tryz.prog W = .ok (.float .f64 m) W)
    (k : ∀ W, Calls Tryz.prog 65 #[.agg #[.float .f64 a, .float .f64 b]] W fun r w' => r = .returned (.agg #[.float .f64 x, .float .f64 y]) ∧ Below W.heap.size W w') :
    Calls Tryz.prog 53 #[.agg #[.float .f64 a, .float .f64 b]] w fun r w' => r = .returned (if p then .agg #[.float .f64 a, .float .f64 b] else if q then .agg #[.float .f64 x, .float .f64 y] else .agg #[.float .f64 0, .float .f64 m]) ∧ Below w.heap.size w w' := by
  generalize hR : (if p then .agg #[.float .f64 a, .float .f64 b] else if q then .agg #[.float .f64 x, .float .f64 y] else .agg #[.float .f64 0, .float .f64 m] : Value) = R
  have HRV : Hid ((if p then .agg #[.float .f64 a, .float .f64 b] else if q then .agg #[.float .f64 x, .float .f64 y] else .agg #[.float .f64 0, .float .f64 m] : Value) = R) := hR
  clear hR
  have HM : Hid (p = false → q = false → ∀ W ts t, (Builtin.max_ ts t #[.float .f64 (ngt a), .float .f64 b]).run Tryz.prog W = .ok (.float .f64 m) W) := hm
  obtain ⟨W, hW⟩ : ∃ W, W = ((w.alloc (.cells #[.float .f64 a, .float .f64 b] 24)).alloc (.cells #[.float .f64 0, .float .f64 0] 24)) := ⟨_, rfl⟩
  have HX : Hid (Below w.heap.size w W ∧ IvB W (w.heap.size) a b ∧ IvB W (w.heap.size + 1) 0 0) := by
    rw [hW]
    exact ⟨bxs2_0 w a b 0 0, bxs2_1 w a b 0 0, bxs2_2 w a b 0 0⟩
  have HK : Hid (∀ w', Below W.heap.size W w' → IvF w' (w.heap.size) a b ∧ IvF w' (w.heap.size + 1) 0 0) := fun w' hb => ⟨(HX.out.2.1).later hb, (HX.out.2.2).later hb⟩
  obtain ⟨⟨c0, c1, z0, z1⟩, ⟨c2, c3, z2, z3⟩⟩ := HK.out W (Below.refl _ _)
  have kk := k W
  clear k hm
  go_enter Tryz.func53, Tryz.ntmps53
  go_upto_region 1 with fail
  rw [← hW]
  clear hW
  cases p
  · cases q
    · have hm := HM.out rfl rfl
      have HR : Hid (IvB W (w.heap.size + 1) 0 0) := HX.out.2.2
      go_wp2
      refine bodyPost_ret (results_cell_row rfl _ _ (w.heap.size + 1) 24 #[.float .f64 0, .float .f64 m] (0, 0) _ rfl (HR.out.set _ _) Tryz.underlying24 rfl iv_info) rfl ?_
      exact ⟨congrArg Ending.returned HRV.out, below_store2 HX.out.1 (by omega) _ _⟩
    · clear HM
      go_wp2_with fail
      refine kk.mono ?_
      rintro r w1 ⟨rfl, hb1⟩
      clear kk c0 c1 c2 c3 z0 z1 z2 z3
      obtain ⟨⟨c0, c1, z0, z1⟩, ⟨c2, c3, z2, z3⟩⟩ := HK.out w1 hb1
      have HB : Hid (Below w.heap.size w w1) := HX.out.1.trans (hb1.mono HX.out.1.size)
      have HR : Hid (IvB w1 (w.heap.size + 1) 0 0) := HX.out.2.2.box hb1
      clear hb1 HK HX
      go_wp2
      refine bodyPost_ret (results_cell_row rfl _ _ (w.heap.size + 1) 24 #[.float .f64 x, .float .f64 y] (0, 0) _ rfl (HR.out.set _ _) Tryz.underlying24 rfl iv_info) rfl ?_
      exact ⟨congrArg Ending.returned HRV.out, below_store2 HB.out (by omega) _ _⟩
  · clear HM
    have HR : Hid (IvB W (w.heap.size + 1) 0 0) := HX.out.2.2
    go_wp2
    refine bodyPost_ret (results_cell_row rfl _ _ (w.heap.size + 1) 24 #[.float .f64 a, .float .f64 b] (0, 0) _ rfl (HR.out.set _ _) Tryz.underlying24 rfl iv_info) rfl ?_
    exact ⟨congrArg Ending.returned HRV.out, below_store2 HX.out.1 (by omega) _ _⟩
set_option maxHeartbeats 4000000 in
set_option maxRecDepth 200000 in
theorem sadded_1 (a b c d p q x y : Nat) (w : World)
    (k1 : ∀ W, Below w.heap.size w W → Calls Tryz.prog 110 #[.float .f64 a, .float .f64 c, .int .i64 1] W fun r w' => r = .returned (.float .f64 p) ∧ Below W.heap.size W w')
    (k2 : ∀ W, Below w.heap.size w W → Calls Tryz.prog 110 #[.float .f64 b, .float .f64 d, .int .i64 3] W fun r w' => r = .returned (.float .f64 q) ∧ Below W.heap.size W w')
    (k3 : ∀ W, Below w.heap.size w W → Calls Tryz.prog 54 #[.float .f64 p, .float .f64 q] W fun r w' => r = .returned (.agg #[.float .f64 x, .float .f64 y]) ∧ Below W.heap.size W w') :
    Calls Tryz.prog 61 #[.agg #[.float .f64 a, .float .f64 b], .agg #[.float .f64 c, .float .f64 d]] w fun r w' => r = .returned (.agg #[.float .f64 x, .float .f64 y]) ∧ Below w.heap.size w w' := by
  obtain ⟨W, hW⟩ : ∃ W, W = (((w.alloc (.cells #[.float .f64 a, .float .f64 b] 24)).alloc (.cells #[.float .f64 c, .float .f64 d] 24)).alloc (.cells #[.float .f64 0, .float .f64 0] 24)) := ⟨_, rfl⟩
  have HX : Hid (Below w.heap.size w W ∧ IvB W (w.heap.size) a b ∧ IvB W (w.heap.size + 1) c d ∧ IvB W (w.heap.size + 1 + 1) 0 0) := by
    rw [hW]
    exact ⟨bxs3_0 w a b c d 0 0, bxs3_1 w a b c d 0 0, bxs3_2 w a b c d 0 0, bxs3_3 w a b c d 0 0⟩
  have HK : Hid (∀ w', Below W.heap.size W w' → IvF w' (w.heap.size) a b ∧ IvF w' (w.heap.size + 1) c d ∧ IvF w' (w.heap.size + 1 + 1) 0 0) := fun w' hb => ⟨(HX.out.2.1).later hb, (HX.out.2.2.1).later hb, (HX.out.2.2.2).later hb⟩
  have HKK : Hid (∀ w', Below W.heap.size W w' → (w'.cell? ⟨w.heap.size, 0, none⟩ = some (.float .f64 a) ∧ w'.cell? ⟨w.heap.size, 1, none⟩ = some (.float .f64 b)) ∧ (w'.cell? ⟨w.heap.size + 1, 0, none⟩ = some (.float .f64 c) ∧ w'.cell? ⟨w.heap.size + 1, 1, none⟩ = some (.float .f64 d))) := fun w' hb => ⟨⟨(HK.out w' hb).1.1, (HK.out w' hb).1.2.1⟩, (HK.out w' hb).2.1.1, (HK.out w' hb).2.1.2.1⟩
  have hR : Below W.heap.size W W.drew := (Below.refl _ _).drew
  have q1 : ∀ W', Below W.heap.size W W' → Calls Tryz.prog 110 #[.float .f64 a, .float .f64 c, .int .i64 1] W' fun r w' => r = .returned (.float .f64 p) ∧ Below W.heap.size W w' := fun W' h => (k1 W' (HX.out.1.trans (h.mono HX.out.1.size))).mono fun r w' ⟨e1, e2⟩ => ⟨e1, h.trans (e2.mono h.size)⟩
  have q2 : ∀ W', Below W.heap.size W W' → Calls Tryz.prog 110 #[.float .f64 b, .float .f64 d, .int .i64 3] W' fun r w' => r = .returned (.float .f64 q) ∧ Below W.heap.size W w' := fun W' h => (k2 W' (HX.out.1.trans (h.mono HX.out.1.size))).mono fun r w' ⟨e1, e2⟩ => ⟨e1, h.trans (e2.mono h.size)⟩
  have q3 : ∀ W', Below W.heap.size W W' → Calls Tryz.prog 54 #[.float .f64 p, .float .f64 q] W' fun r w' => r = .returned (.agg #[.float .f64 x, .float .f64 y]) ∧ Below W.heap.size W w' ∧ (w'.cell? ⟨w.heap.size + 1 + 1, 0, none⟩ = some (.float .f64 0) ∧ w'.cell? ⟨w.heap.size + 1 + 1, 1, none⟩ = some (.float .f64 0) ∧ w'.frozen? ⟨w.heap.size + 1 + 1, 0, none⟩ = false ∧ w'.frozen? ⟨w.heap.size + 1 + 1, 1, none⟩ = false) := fun W' h => (k3 W' (HX.out.1.trans (h.mono HX.out.1.size))).mono fun r w' ⟨e1, e2⟩ => ⟨e1, h.trans (e2.mono h.size), (HK.out w' (h.trans (e2.mono h.size))).2.2⟩
  obtain ⟨⟨c0, c1⟩, c2, c3⟩ := HKK.out W (Below.refl _ _)
  clear k1 k2 k3
  go_enter Tryz.func61, Tryz.ntmps61
  go_upto_region 1 with fail
  rw [← hW]
  clear hW
  go_region_held3 (fun w' => (w'.cell? ⟨w.heap.size, 0, none⟩ = some (.float .f64 a) ∧ w'.cell? ⟨w.heap.size, 1, none⟩ = some (.float .f64 b)) ∧ (w'.cell? ⟨w.heap.size + 1, 0, none⟩ = some (.float .f64 c) ∧ w'.cell? ⟨w.heap.size + 1, 1, none⟩ = some (.float .f64 d))) (first | (with_reducible assumption) | exact HKK.out _ hR | (refine HKK.out _ ?_; with_reducible assumption) | (refine ⟨⟨?_, ?_⟩, ?_, ?_⟩ <;> (change World.cell? (World.setCell (World.setCell _ _ _) _ _) _ = _; rw [World.cell?_setCell_other _ _ _ _ (by first | (simp; done) | (simp; omega)), World.cell?_setCell_other _ _ _ _ (by first | (simp; done) | (simp; omega))]; first | exact (HKK.out _ hb7).1.1 | exact (HKK.out _ hb7).1.2 | exact (HKK.out _ hb7).2.1 | exact (HKK.out _ hb7).2.2)) | go_keep)
    (first | (go_at_call 110; with_reducible refine (q1 _ (by first | (with_reducible assumption) | exact hR)).mono ?_; rintro r w5 ⟨rfl, hb5⟩)
           | (go_at_call 110; with_reducible refine (q2 _ (by first | (with_reducible assumption) | exact hR)).mono ?_; rintro r w6 ⟨rfl, hb6⟩)
           | (go_at_call 54; with_reducible refine (q3 _ (by first | (with_reducible assumption) | exact hR)).mono ?_; rintro r w7 ⟨rfl, hb7, x0, x1, x2, x3⟩))
  have HB : Hid (Below w.heap.size w w7) := HX.out.1.trans (hb7.mono HX.out.1.size)
  have HR : Hid (IvB w7 (w.heap.size + 1 + 1) 0 0) := HX.out.2.2.2.box hb7
  clear q1 q2 q3 HKK HK HX hR hb7 x0 x1 x2 x3 c0 c1 c2 c3
  go_wp2_with fail
  refine bodyPost_ret (results_cell_row rfl _ _ (w.heap.size + 1 + 1) 24 #[.float .f64 x, .float .f64 y] (0, 0) _ rfl (HR.out.set _ _) Tryz.underlying24 rfl iv_info) rfl ?_
  first | exact ⟨rfl, below_store2 HB.out (by omega) _ _⟩ | exact ⟨rfl, (below_store2 HB.out (by omega) _ _).drew⟩
end Go.Proofs.YtcoclopllbfjcaaGreatDoor
/- The document's ends. -/
namespace Go.Proofs.YtcoclopllbfjcaaGreatDoor
set_option linter.unusedVariables false
set_option linter.unusedSimpArgs false
open Go.RowKit Go.Fl64
attribute [local go_sem] run_store_flt

/-- a box of an end: its cells, and that they can be written -/
def EnB (W : World) (g : Nat) (a b c d : Value) : Prop := W.heap[g]? = some (.cells #[a, b, c, d] 61 (0, 0))
theorem EnB.facts {W : World} {g : Nat} {a b c d : Value} (h : EnB W g a b c d) : (W.cell? ⟨g, 0, none⟩ = some a ∧ W.cell? ⟨g, 1, none⟩ = some b ∧ W.cell? ⟨g, 2, none⟩ = some c ∧ W.cell? ⟨g, 3, none⟩ = some d) ∧ (W.frozen? ⟨g, 0, none⟩ = false ∧ W.frozen? ⟨g, 1, none⟩ = false ∧ W.frozen? ⟨g, 2, none⟩ = false ∧ W.frozen? ⟨g, 3, none⟩ = false) := by
  unfold EnB at h
  simp [World.cell?, World.frozen?, h]
theorem EnB.lt {W : World} {g : Nat} {a b c d : Value} (h : EnB W g a b c d) : g < W.heap.size := lt_of_box h
theorem EnB.box {W w' : World} {g : Nat} {a b c d : Value} (h : EnB W g a b c d) (hb : Below W.heap.size W w') : EnB w' g a b c d := box_later h hb h.lt
theorem EnB.new (w : World) (a b c d : Value) : EnB (w.alloc (.cells #[a, b, c, d] 61)) w.heap.size a b c d := heap_alloc_new _ _
theorem EnB.alloc {W : World} {g : Nat} {a b c d : Value} (h : EnB W g a b c d) (o : Obj) : EnB (W.alloc o) g a b c d := h.box ((Below.refl _ _).alloc (Nat.le_refl _) _)
theorem EnB.set {W : World} {g : Nat} {a b c d : Value} (h : EnB W g a b c d) (a' b' c' d' : Value) : EnB ((((W.setCell ⟨g, 0, none⟩ a').setCell ⟨g, 1, none⟩ b').setCell ⟨g, 2, none⟩ c').setCell ⟨g, 3, none⟩ d') g a' b' c' d' := by
  unfold EnB at *
  simp [World.setCell, Array.getElem?_modify, h]
theorem below_store4 {B : Nat} {w w' : World} {g : Nat} (h : Below B w w') (hg : B ≤ g) (a b c d : Value) : Below B w ((((w'.setCell ⟨g, 0, none⟩ a).setCell ⟨g, 1, none⟩ b).setCell ⟨g, 2, none⟩ c).setCell ⟨g, 3, none⟩ d) :=
  (((h.setCell hg _).setCell hg _).setCell hg _).setCell hg _
/-- an end in memory: an infinity by its sign, or a number -/
def EN (w : World) (A : Value) (i : Int) (t : Bool × Nat × Int) : Prop := ∃ s ao n cap e, A = .agg #[.int .i64 i, .bool s, .slice ao n cap, .int .i64 e] ∧ DN w (.agg #[.bool s, .slice ao n cap, .int .i64 e]) t
theorem EN.later {w w' : World} {A : Value} {i : Int} {t : Bool × Nat × Int} (h : EN w A i t) (hb : Below w.heap.size w w') : EN w' A i t := by
  obtain ⟨s, ao, n, cap, e, h1, h2⟩ := h
  exact ⟨s, ao, n, cap, e, h1, h2.later hb⟩
/-- which infinity an end is; its number -/
def eI (f : Nat) : Int := if f = 9218868437227405312 then 1 else if f = 18442240474082181120 then -1 else 0
def eT (f : Nat) : Bool × Nat × Int := if eI f = 0 then tF f else (false, 0, 0)
end Go.Proofs.YtcoclopllbfjcaaGreatDoor
/- The program's powers and square roots of intervals, walked. -/
namespace Go.Proofs.YtcoclopllbfjcaaGreatDoor
set_option linter.unusedVariables false
set_option linter.unusedSimpArgs false
open Go.RowKit Go.Fl64
attribute [local go_sem] run_store_flt

theorem iv_other {W : World} {g k a b : Nat} (h : IvB W k a b) (c d : Nat) (hk : k ≠ g) : IvB ((W.setCell ⟨g, 0, none⟩ (.float .f64 c)).setCell ⟨g, 1, none⟩ (.float .f64 d)) k a b := by
  unfold IvB at *
  have h' : ¬ g = k := fun e => hk e.symm
  simp [World.setCell, Array.getElem?_modify, h', h]
set_option maxHeartbeats 4000000 in
set_option maxRecDepth 200000 in
theorem spow_no (a b : Nat) (n : Int) (v : Bool) (w : World) (hr : v = false ∨ n < 0 ∨ 1024 < n)
    (k0 : ∀ W, Calls Tryz.prog 52 #[.agg #[.float .f64 a, .float .f64 b]] W fun r w' => r = .returned (.bool v) ∧ Below W.heap.size W w') :
    Calls Tryz.prog 14 #[.agg #[.float .f64 a, .float .f64 b], .int .i64 n] w fun r w' => r = .returned (.tuple #[.agg #[.float .f64 0, .float .f64 0], .int .i64 1]) ∧ Below w.heap.size w w' := by
  obtain ⟨W, hW⟩ : ∃ W, W = ((w.alloc (.cells #[.float .f64 a, .float .f64 b] 24)).alloc (.cells #[.float .f64 0, .float .f64 0] 24)) := ⟨_, rfl⟩
  have HX : Hid (Below w.heap.size w W ∧ IvB W (w.heap.size) a b ∧ IvB W (w.heap.size + 1) 0 0) := by
    rw [hW]
    exact ⟨bxs2_0 w a b 0 0, bxs2_1 w a b 0 0, bxs2_2 w a b 0 0⟩
  have HK : Hid (∀ w', Below W.heap.size W w' → IvF w' (w.heap.size) a b ∧ IvF w' (w.heap.size + 1) 0 0) := fun w' hb => ⟨(HX.out.2.1).later hb, (HX.out.2.2).later hb⟩
  obtain ⟨⟨c0, c1, z0, z1⟩, ⟨c2, c3, z2, z3⟩⟩ := HK.out W (Below.refl _ _)
  have kk := k0 W
  clear k0
  go_enter Tryz.func14, Tryz.ntmps14
  go_upto_region 1 with fail
  rw [← hW]
  clear hW
  go_wp2_with fail
  refine kk.mono ?_
  rintro r w0 ⟨rfl, hb2⟩
  clear kk c0 z0 c1 z1 c2 z2 c3 z3
  obtain ⟨⟨c0, c1, z0, z1⟩, ⟨c2, c3, z2, z3⟩⟩ := HK.out w0 hb2
  have HB : Hid (Below w.heap.size w w0) := HX.out.1.trans (hb2.mono HX.out.1.size)
  have HR : Hid (IvB w0 (w.heap.size + 1) 0 0) := HX.out.2.2.box hb2
  clear hb2 HK HX
  by_cases hv : v = false
  · subst hv
    go_wp2
    refine bodyPost_ret (results_cell_tmp_row rfl _ _ (w.heap.size + 1) 24 #[.float .f64 0, .float .f64 0] (0, 0) _ rfl (HR.out.set _ _) Tryz.underlying24 rfl iv_info) rfl ?_
    exact ⟨rfl, below_store2 HB.out (by omega) _ _⟩
  · have hv' : v = true := by cases v <;> simp_all
    subst hv'
    by_cases hn : n < 0
    · clear hr
      go_wp2
      refine bodyPost_ret (results_cell_tmp_row rfl _ _ (w.heap.size + 1) 24 #[.float .f64 0, .float .f64 0] (0, 0) _ rfl (HR.out.set _ _) Tryz.underlying24 rfl iv_info) rfl ?_
      exact ⟨rfl, below_store2 HB.out (by omega) _ _⟩
    · have hn2 : 1024 < n := by rcases hr with h | h | h; (exact absurd h hv); omega; exact h
      clear hr
      go_wp2
      refine bodyPost_ret (results_cell_tmp_row rfl _ _ (w.heap.size + 1) 24 #[.float .f64 0, .float .f64 0] (0, 0) _ rfl (HR.out.set _ _) Tryz.underlying24 rfl iv_info) rfl ?_
      exact ⟨rfl, below_store2 HB.out (by omega) _ _⟩
set_option maxHeartbeats 4000000 in
set_option maxRecDepth 200000 in
theorem spow_1 (a b c d n p q x y : Nat) (w : World) (hn : n ≤ 1024)
    (k0 : ∀ W, Calls Tryz.prog 52 #[.agg #[.float .f64 a, .float .f64 b]] W fun r w' => r = .returned (.bool true) ∧ Below W.heap.size W w')
    (km : n % 2 = 0 → ∀ W, Below w.heap.size w W → Calls Tryz.prog 53 #[.agg #[.float .f64 a, .float .f64 b]] W fun r w' => r = .returned (.agg #[.float .f64 c, .float .f64 d]) ∧ Below W.heap.size W w')
    (ko : n % 2 = 1 → c = a ∧ d = b)
    (k1 : ∀ W, Below w.heap.size w W → Calls Tryz.prog 55 #[.float .f64 c, .int .i64 n, .int .i64 1] W fun r w' => r = .returned (.float .f64 p) ∧ Below W.heap.size W w')
    (k2 : ∀ W, Below w.heap.size w W → Calls Tryz.prog 55 #[.float .f64 d, .int .i64 n, .int .i64 3] W fun r w' => r = .returned (.float .f64 q) ∧ Below W.heap.size W w')
    (k3 : ∀ W, Below w.heap.size w W → Calls Tryz.prog 54 #[.float .f64 p, .float .f64 q] W fun r w' => r = .returned (.agg #[.float .f64 x, .float .f64 y]) ∧ Below W.heap.size W w') :
    Calls Tryz.prog 14 #[.agg #[.float .f64 a, .float .f64 b], .int .i64 n] w fun r w' => r = .returned (.tuple #[.agg #[.float .f64 x, .float .f64 y], .int .i64 0]) ∧ Below w.heap.size w w' := by
  have hn0 : ¬ (n : Int) < 0 := by omega
  have hn1 : ¬ 1024 < (n : Int) := by omega
  have htm : (n : Int).tmod 2 = ((n % 2 : Nat) : Int) := by rw [Int.tmod_eq_emod_of_nonneg (by omega)]; rfl
  obtain ⟨W, hW⟩ : ∃ W, W = ((w.alloc (.cells #[.float .f64 a, .float .f64 b] 24)).alloc (.cells #[.float .f64 0, .float .f64 0] 24)) := ⟨_, rfl⟩
  have HX : Hid (Below w.heap.size w W ∧ IvB W (w.heap.size) a b ∧ IvB W (w.heap.size + 1) 0 0) := by
    rw [hW]
    exact ⟨bxs2_0 w a b 0 0, bxs2_1 w a b 0 0, bxs2_2 w a b 0 0⟩
  have HK : Hid (∀ w', Below W.heap.size W w' → IvF w' (w.heap.size) a b ∧ IvF w' (w.heap.size + 1) 0 0) := fun w' hb => ⟨(HX.out.2.1).later hb, (HX.out.2.2).later hb⟩
  obtain ⟨⟨c0, c1, z0, z1⟩, ⟨c2, c3, z2, z3⟩⟩ := HK.out W (Below.refl _ _)
  have kk := k0 W
  clear k0
  go_enter Tryz.func14, Tryz.ntmps14
  go_upto_region 1 with fail
  rw [← hW]
  clear hW
  go_wp2_with fail
  refine kk.mono ?_
  rintro r w0 ⟨rfl, hb2⟩
  clear kk c0 z0 c1 z1 c2 z2 c3 z3
  obtain ⟨⟨c0, c1, z0, z1⟩, ⟨c2, c3, z2, z3⟩⟩ := HK.out w0 hb2
  rcases (show n % 2 = 0 ∨ n % 2 = 1 by omega) with hpar | hpar
  · rw [hpar] at htm
    have km' := km hpar w0 (HX.out.1.trans (hb2.mono HX.out.1.size))
    clear km ko
    go_wp2_with fail
    refine km'.mono ?_
    rintro r w1 ⟨rfl, hb3⟩
    have hb4 : Below W.heap.size W w1 := hb2.trans (hb3.mono hb2.size)
    clear c0 z0 c1 z1 c2 z2 c3 z3 km' hb2 hb3
    obtain ⟨⟨c0, c1, z0, z1⟩, ⟨c2, c3, z2, z3⟩⟩ := HK.out w1 hb4
    obtain ⟨V, hV⟩ : ∃ V, V = (w1.setCell ⟨w.heap.size, 0, none⟩ (.float .f64 c)).setCell ⟨w.heap.size, 1, none⟩ (.float .f64 d) := ⟨_, rfl⟩
    have HV : Hid (Below w.heap.size w V ∧ IvB V (w.heap.size) c d ∧ IvB V (w.heap.size + 1) 0 0) := by
      rw [hV]
      exact ⟨below_store2 (HX.out.1.trans (hb4.mono HX.out.1.size)) (Nat.le_refl _) _ _, (HX.out.2.1.box hb4).set _ _, iv_other (HX.out.2.2.box hb4) _ _ (by omega)⟩
    clear HX HK hb4
    go_upto_region 5 with fail
    rw [← hV]
    clear hV
    have HKK : Hid (∀ w', Below V.heap.size V w' → (w'.cell? ⟨w.heap.size, 0, none⟩ = some (.float .f64 c) ∧ w'.cell? ⟨w.heap.size, 1, none⟩ = some (.float .f64 d))) := fun w' hb => ⟨(HV.out.2.1.later hb).1, (HV.out.2.1.later hb).2.1⟩
    have hR : Below V.heap.size V V.drew := (Below.refl _ _).drew
    have q1 : ∀ W', Below V.heap.size V W' → Calls Tryz.prog 55 #[.float .f64 c, .int .i64 n, .int .i64 1] W' fun r w' => r = .returned (.float .f64 p) ∧ Below V.heap.size V w' := fun W' h => (k1 W' (HV.out.1.trans (h.mono HV.out.1.size))).mono fun r w' ⟨e1, e2⟩ => ⟨e1, h.trans (e2.mono h.size)⟩
    have q2 : ∀ W', Below V.heap.size V W' → Calls Tryz.prog 55 #[.float .f64 d, .int .i64 n, .int .i64 3] W' fun r w' => r = .returned (.float .f64 q) ∧ Below V.heap.size V w' := fun W' h => (k2 W' (HV.out.1.trans (h.mono HV.out.1.size))).mono fun r w' ⟨e1, e2⟩ => ⟨e1, h.trans (e2.mono h.size)⟩
    have q3 : ∀ W', Below V.heap.size V W' → Calls Tryz.prog 54 #[.float .f64 p, .float .f64 q] W' fun r w' => r = .returned (.agg #[.float .f64 x, .float .f64 y]) ∧ Below V.heap.size V w' ∧ (w'.cell? ⟨w.heap.size + 1, 0, none⟩ = some (.float .f64 0) ∧ w'.cell? ⟨w.heap.size + 1, 1, none⟩ = some (.float .f64 0) ∧ w'.frozen? ⟨w.heap.size + 1, 0, none⟩ = false ∧ w'.frozen? ⟨w.heap.size + 1, 1, none⟩ = false) := fun W' h => (k3 W' (HV.out.1.trans (h.mono HV.out.1.size))).mono fun r w' ⟨e1, e2⟩ => ⟨e1, h.trans (e2.mono h.size), HV.out.2.2.later (h.trans (e2.mono h.size))⟩
    clear k1 k2 k3 c0 c1 c2 c3 z0 z1 z2 z3
    obtain ⟨c0, c1⟩ := HKK.out V (Below.refl _ _)
    go_region_held3 (fun w' => (w'.cell? ⟨w.heap.size, 0, none⟩ = some (.float .f64 c) ∧ w'.cell? ⟨w.heap.size, 1, none⟩ = some (.float .f64 d))) (first | (with_reducible assumption) | exact HKK.out _ hR | (refine HKK.out _ ?_; with_reducible assumption) | (refine ⟨?_, ?_⟩ <;> (change World.cell? (World.setCell (World.setCell _ _ _) _ _) _ = _; rw [World.cell?_setCell_other _ _ _ _ (by first | (simp; done) | (simp; omega)), World.cell?_setCell_other _ _ _ _ (by first | (simp; done) | (simp; omega))]; first | exact (HKK.out _ hb7).1 | exact (HKK.out _ hb7).2)))
      (first | (go_at_call 55; with_reducible refine (q1 _ (by first | (with_reducible assumption) | exact hR)).mono ?_; rintro r w5 ⟨rfl, hb5⟩)
             | (go_at_call 55; with_reducible refine (q2 _ (by first | (with_reducible assumption) | exact hR)).mono ?_; rintro r w6 ⟨rfl, hb6⟩)
             | (go_at_call 54; with_reducible refine (q3 _ (by first | (with_reducible assumption) | exact hR)).mono ?_; rintro r w7 ⟨rfl, hb7, x0, x1, x2, x3⟩))
    have HB : Hid (Below w.heap.size w w7) := HV.out.1.trans (hb7.mono HV.out.1.size)
    have HR : Hid (IvB w7 (w.heap.size + 1) 0 0) := HV.out.2.2.box hb7
    clear q1 q2 q3 HKK HV hR hb7 x0 x1 x2 x3 c0 c1
    go_wp2_with fail
    refine bodyPost_ret (results_cell_tmp_row rfl _ _ (w.heap.size + 1) 24 #[.float .f64 x, .float .f64 y] (0, 0) _ rfl (HR.out.set _ _) Tryz.underlying24 rfl iv_info) rfl ?_
    first | exact ⟨rfl, below_store2 HB.out (by omega) _ _⟩ | exact ⟨rfl, (below_store2 HB.out (by omega) _ _).drew⟩
  · rw [hpar] at htm
    obtain ⟨rfl, rfl⟩ := ko hpar
    have HV : Hid (Below w.heap.size w w0 ∧ IvB w0 (w.heap.size) c d ∧ IvB w0 (w.heap.size + 1) 0 0) := ⟨HX.out.1.trans (hb2.mono HX.out.1.size), HX.out.2.1.box hb2, HX.out.2.2.box hb2⟩
    clear HX HK hb2 km ko
    have HKK : Hid (∀ w', Below w0.heap.size w0 w' → (w'.cell? ⟨w.heap.size, 0, none⟩ = some (.float .f64 c) ∧ w'.cell? ⟨w.heap.size, 1, none⟩ = some (.float .f64 d))) := fun w' hb => ⟨(HV.out.2.1.later hb).1, (HV.out.2.1.later hb).2.1⟩
    have hR : Below w0.heap.size w0 w0.drew := (Below.refl _ _).drew
    have q1 : ∀ W', Below w0.heap.size w0 W' → Calls Tryz.prog 55 #[.float .f64 c, .int .i64 n, .int .i64 1] W' fun r w' => r = .returned (.float .f64 p) ∧ Below w0.heap.size w0 w' := fun W' h => (k1 W' (HV.out.1.trans (h.mono HV.out.1.size))).mono fun r w' ⟨e1, e2⟩ => ⟨e1, h.trans (e2.mono h.size)⟩
    have q2 : ∀ W', Below w0.heap.size w0 W' → Calls Tryz.prog 55 #[.float .f64 d, .int .i64 n, .int .i64 3] W' fun r w' => r = .returned (.float .f64 q) ∧ Below w0.heap.size w0 w' := fun W' h => (k2 W' (HV.out.1.trans (h.mono HV.out.1.size))).mono fun r w' ⟨e1, e2⟩ => ⟨e1, h.trans (e2.mono h.size)⟩
    have q3 : ∀ W', Below w0.heap.size w0 W' → Calls Tryz.prog 54 #[.float .f64 p, .float .f64 q] W' fun r w' => r = .returned (.agg #[.float .f64 x, .float .f64 y]) ∧ Below w0.heap.size w0 w' ∧ (w'.cell? ⟨w.heap.size + 1, 0, none⟩ = some (.float .f64 0) ∧ w'.cell? ⟨w.heap.size + 1, 1, none⟩ = some (.float .f64 0) ∧ w'.frozen? ⟨w.heap.size + 1, 0, none⟩ = false ∧ w'.frozen? ⟨w.heap.size + 1, 1, none⟩ = false) := fun W' h => (k3 W' (HV.out.1.trans (h.mono HV.out.1.size))).mono fun r w' ⟨e1, e2⟩ => ⟨e1, h.trans (e2.mono h.size), HV.out.2.2.later (h.trans (e2.mono h.size))⟩
    clear k1 k2 k3 c0 c1 c2 c3 z0 z1 z2 z3
    obtain ⟨c0, c1⟩ := HKK.out w0 (Below.refl _ _)
    go_upto_region 5 with fail
    go_region_held3 (fun w' => (w'.cell? ⟨w.heap.size, 0, none⟩ = some (.float .f64 c) ∧ w'.cell? ⟨w.heap.size, 1, none⟩ = some (.float .f64 d))) (first | (with_reducible assumption) | exact HKK.out _ hR | (refine HKK.out _ ?_; with_reducible assumption) | (refine ⟨?_, ?_⟩ <;> (change World.cell? (World.setCell (World.setCell _ _ _) _ _) _ = _; rw [World.cell?_setCell_other _ _ _ _ (by first | (simp; done) | (simp; omega)), World.cell?_setCell_other _ _ _ _ (by first | (simp; done) | (simp; omega))]; first | exact (HKK.out _ hb7).1 | exact (HKK.out _ hb7).2)))
      (first | (go_at_call 55; with_reducible refine (q1 _ (by first | (with_reducible assumption) | exact hR)).mono ?_; rintro r w5 ⟨rfl, hb5⟩)
             | (go_at_call 55; with_reducible refine (q2 _ (by first | (with_reducible assumption) | exact hR)).mono ?_; rintro r w6 ⟨rfl, hb6⟩)
             | (go_at_call 54; with_reducible refine (q3 _ (by first | (with_reducible assumption) | exact hR)).mono ?_; rintro r w7 ⟨rfl, hb7, x0, x1, x2, x3⟩))
    have HB : Hid (Below w.heap.size w w7) := HV.out.1.trans (hb7.mono HV.out.1.size)
    have HR : Hid (IvB w7 (w.heap.size + 1) 0 0) := HV.out.2.2.box hb7
    clear q1 q2 q3 HKK HV hR hb7 x0 x1 x2 x3 c0 c1
    go_wp2_with fail
    refine bodyPost_ret (results_cell_tmp_row rfl _ _ (w.heap.size + 1) 24 #[.float .f64 x, .float .f64 y] (0, 0) _ rfl (HR.out.set _ _) Tryz.underlying24 rfl iv_info) rfl ?_
    first | exact ⟨rfl, below_store2 HB.out (by omega) _ _⟩ | exact ⟨rfl, (below_store2 HB.out (by omega) _ _).drew⟩
end Go.Proofs.YtcoclopllbfjcaaGreatDoor
/- The document's powers of intervals, walked. -/
namespace Go.Proofs.YtcoclopllbfjcaaGreatDoor
set_option linter.unusedVariables false
set_option linter.unusedSimpArgs false
open Go.RowKit Go.Fl64
attribute [local go_sem] run_store_flt

end Go.Proofs.YtcoclopllbfjcaaGreatDoor
/- The document's square roots of intervals, walked. -/
namespace Go.Proofs.YtcoclopllbfjcaaGreatDoor
set_option linter.unusedVariables false
set_option linter.unusedSimpArgs false
open Go.RowKit Go.Fl64
attribute [local go_sem] run_store_flt

end Go.Proofs.YtcoclopllbfjcaaGreatDoor
/- The document's powers of ends, walked. -/
namespace Go.Proofs.YtcoclopllbfjcaaGreatDoor
set_option linter.unusedVariables false
set_option linter.unusedSimpArgs false
open Go.RowKit Go.Fl64

/-- an end's box -/
def EnI (W : World) (g : Nat) (i : Int) (s : Bool) (ao : Option Addr) (n cap : Nat) (e : Int) : Prop := EnB W g (.int .i64 i) (.bool s) (.slice ao n cap) (.int .i64 e)
theorem at_storeE {W : World} {ao' : Option Addr} {m z g : Nat} {i e : Int} {s : Bool} {ao : Option Addr} {n cap : Nat} (h : At W ao' m z) (hE : EnI W g i s ao n cap e) (a' b' c' d' : Value) : At ((((W.setCell ⟨g, 0, none⟩ a').setCell ⟨g, 1, none⟩ b').setCell ⟨g, 2, none⟩ c').setCell ⟨g, 3, none⟩ d') ao' m z := by
  obtain ⟨bb, o, h1, h2⟩ := h
  refine ⟨bb, o, h1, fun i hi => ?_⟩
  have hc := h2 i hi
  have hne : bb ≠ g := by
    rintro rfl
    unfold EnI EnB at hE
    simp only [World.cell?, hE] at hc
    rcases (show o + i = 0 ∨ o + i = 1 ∨ o + i = 2 ∨ o + i = 3 ∨ 4 ≤ o + i by omega) with e | e | e | e | e
    · rw [e] at hc; simp at hc
    · rw [e] at hc; simp at hc
    · rw [e] at hc; simp at hc
    · rw [e] at hc; simp at hc
    · rw [Array.getElem?_eq_none (by simpa using e)] at hc; cases hc
  rw [World.cell?_setCell_other _ _ _ _ (by first | (simp; done) | (simp; omega)), World.cell?_setCell_other _ _ _ _ (by first | (simp; done) | (simp; omega)), World.cell?_setCell_other _ _ _ _ (by first | (simp; done) | (simp; omega)), World.cell?_setCell_other _ _ _ _ (by first | (simp; done) | (simp; omega))]
  exact hc
theorem en_storeE {W : World} {A : Value} {j : Int} {t : Bool × Nat × Int} {g : Nat} {i e : Int} {s : Bool} {ao : Option Addr} {n cap : Nat} (h : EN W A j t) (hE : EnI W g i s ao n cap e) (a' b' c' d' : Value) : EN ((((W.setCell ⟨g, 0, none⟩ a').setCell ⟨g, 1, none⟩ b').setCell ⟨g, 2, none⟩ c').setCell ⟨g, 3, none⟩ d') A j t := by
  obtain ⟨s', ao', n', cap', e', h1, ao2, cap2, h2, h3⟩ := h
  exact ⟨s', ao', n', cap', e', h1, ao2, cap2, h2, h3.nil, at_storeE h3.at_ hE _ _ _ _, h3.le, h3.small⟩
theorem store4_other {w : World} {g k : Nat} (a b c d : Value) (h : k ≠ g) : ((((w.setCell ⟨g, 0, none⟩ a).setCell ⟨g, 1, none⟩ b).setCell ⟨g, 2, none⟩ c).setCell ⟨g, 3, none⟩ d).heap[k]? = w.heap[k]? := by
  have h' : ¬ g = k := fun e => h e.symm
  simp [World.setCell, Array.getElem?_modify, h']
/-- what holds between two rounds -/
def DRd (w : World) (g : Nat) (p q : Int × Bool × Nat × Int) (z : Prop) (wr : World) (i : Int) (s : Bool) (ao : Option Addr) (m cap : Nat) (e : Int) (i' : Int) (s' : Bool) (ao' : Option Addr) (m' cap' : Nat) (e' : Int) : Prop :=
  EnI wr g i s ao m cap e ∧ EnI wr w.heap.size i' s' ao' m' cap' e' ∧ EnI wr (w.heap.size + 1) 0 false none 0 0 0 ∧ EN wr (.agg #[.int .i64 i, .bool s, .slice ao m cap, .int .i64 e]) p.1 p.2 ∧ (z → EN wr (.agg #[.int .i64 i', .bool s', .slice ao' m' cap', .int .i64 e']) q.1 q.2) ∧ Below w.heap.size w wr ∧ w.heap.size + 1 < g ∧ g < wr.heap.size
theorem DRd.out {w : World} {g : Nat} {p q r : Int × Bool × Nat × Int} {z : Prop} {wr w' : World} {i : Int} {s : Bool} {ao : Option Addr} {m cap : Nat} {e : Int} {i' : Int} {s' : Bool} {ao' : Option Addr} {m' cap' : Nat} {e' : Int} {j : Int} {u : Bool} {bo : Option Addr} {k cp : Nat} {f : Int}
    (h : DRd w g p q z wr i s ao m cap e i' s' ao' m' cap' e') (hb : Below wr.heap.size wr w') (hp : EN w' (.agg #[.int .i64 j, .bool u, .slice bo k cp, .int .i64 f]) r.1 r.2) :
    DRd w g r q z ((((w'.setCell ⟨g, 0, none⟩ (.int .i64 j)).setCell ⟨g, 1, none⟩ (.bool u)).setCell ⟨g, 2, none⟩ (.slice bo k cp)).setCell ⟨g, 3, none⟩ (.int .i64 f)) j u bo k cp f i' s' ao' m' cap' e' := by
  obtain ⟨h1, h2, h3, h4, h5, h6, h7, h8⟩ := h
  have hs := hb.size
  have b1 : EnI w' g i s ao m cap e := h1.box hb
  refine ⟨EnB.set b1 _ _ _ _, ?_, ?_, en_storeE hp b1 _ _ _ _, fun hz => en_storeE ((h5 hz).later hb) b1 _ _ _ _, below_store4 (h6.trans (hb.mono h6.size)) (by omega) _ _ _ _, h7, by simp [World.setCell]; omega⟩
  · show _ = _
    rw [store4_other _ _ _ _ (by omega)]; exact h2.box hb
  · show _ = _
    rw [store4_other _ _ _ _ (by omega)]; exact h3.box hb
theorem DRd.last {w : World} {g : Nat} {p q r : Int × Bool × Nat × Int} {z : Prop} {N : Nat} {wr : World} {i : Int} {s : Bool} {ao : Option Addr} {m cap : Nat} {e : Int} {i' : Int} {s' : Bool} {ao' : Option Addr} {m' cap' : Nat} {e' : Int}
    (h : DRd w g p q z wr i s ao m cap e i' s' ao' m' cap' e') (hN : N = 0) : DRd w g p r (N ≠ 0) wr i s ao m cap e i' s' ao' m' cap' e' := by
  obtain ⟨h1, h2, h3, h4, h5, h6⟩ := h
  exact ⟨h1, h2, h3, h4, fun hz => absurd hN hz, h6⟩
end Go.Proofs.YtcoclopllbfjcaaGreatDoor
/- The document's ends: rounded, signed, turned, added. -/
namespace Go.Proofs.YtcoclopllbfjcaaGreatDoor
set_option linter.unusedVariables false
set_option linter.unusedSimpArgs false
open Go.RowKit Go.Fl64
attribute [local go_sem] run_store_flt

/-- a number turned -/
def tNeg (t : Bool × Nat × Int) : Bool × Nat × Int := if t.2.1 = 0 then (false, 0, 0) else (!t.1, t.2.1, t.2.2)
/-- an end rounded -/
def toD (t : Bool × Nat × Int) (m : Int) : Nat := if t.2.1 = 0 then 0 else tfF t.1 true t.2.1 t.2.2 m
def enF (i : Int) (t : Bool × Nat × Int) (m : Int) : Nat := if i = 0 then pl (toD t m) else if 0 < i then 9218868437227405312 else 18442240474082181120
theorem toD_lt {t : Bool × Nat × Int} {m : Int} (hm : 1 ≤ m ∧ m ≤ 3) : toD t m < 18446744073709551616 := by
  unfold toD
  split
  · omega
  · exact tfF_lt hm
theorem tNeg_ok {t : Bool × Nat × Int} (o : Ok t) : Ok (tNeg t) := by
  unfold tNeg
  by_cases h0 : t.2.1 = 0
  · rw [if_pos h0]; unfold Ok; rw [dlen_zero]; rfl
  · rw [if_neg h0]
    have hd : dlen t.2.1 ≠ 0 := fun e => h0 (dlen_eq_zero.1 e)
    unfold Ok okN at o ⊢
    rw [if_neg hd] at o
    rw [if_neg hd]
    exact o
end Go.Proofs.YtcoclopllbfjcaaGreatDoor
/- The document's ends added; the tightest interval; Neg, Add, Sub. -/
namespace Go.Proofs.YtcoclopllbfjcaaGreatDoor
set_option linter.unusedVariables false
set_option linter.unusedSimpArgs false
open Go.RowKit Go.Fl64
attribute [local go_sem] run_store_flt

/-- two ends added -/
def plT (i j : Int) (t u : Bool × Nat × Int) : Bool × Nat × Int := if i + j = 0 then tS t u else (false, 0, 0)
end Go.Proofs.YtcoclopllbfjcaaGreatDoor
/- Several values made at once and put into boxes, which hold their zero value till then. -/
namespace Go.Proofs.YtcoclopllbfjcaaGreatDoor
set_option linter.unusedVariables false
set_option linter.unusedSimpArgs false
open Go.RowKit

end Go.Proofs.YtcoclopllbfjcaaGreatDoor
/- The ends of several floats at once: x, y := end(a.Lo), end(a.Hi). -/
namespace Go.Proofs.YtcoclopllbfjcaaGreatDoor
set_option linter.unusedVariables false
set_option linter.unusedSimpArgs false
open Go.RowKit Go.Fl64

theorem at_row {W : World} {ao : Option Addr} {n z g : Nat} (h : At W ao n z) (hE : EnB W g (.int .i64 0) (.bool false) (.slice none 0 0) (.int .i64 0)) (cs : Array Value) : At (W.setRow g cs) ao n z := by
  obtain ⟨bb, o, h1, h2⟩ := h
  refine ⟨bb, o, h1, fun i hi => ?_⟩
  have hc := h2 i hi
  have hne : bb ≠ g := by
    rintro rfl
    unfold EnB at hE
    simp only [World.cell?, hE] at hc
    rcases (show o + i = 0 ∨ o + i = 1 ∨ o + i = 2 ∨ o + i = 3 ∨ 4 ≤ o + i by omega) with e | e | e | e | e
    · rw [e] at hc; simp at hc
    · rw [e] at hc; simp at hc
    · rw [e] at hc; simp at hc
    · rw [e] at hc; simp at hc
    · rw [Array.getElem?_eq_none (by simpa using e)] at hc; cases hc
  have hs := setRow_other W g bb cs hne
  unfold World.cell? at hc ⊢
  rw [hs]
  exact hc
theorem EN.row {W : World} {A : Value} {i : Int} {t : Bool × Nat × Int} {g : Nat} (h : EN W A i t) (hE : EnB W g (.int .i64 0) (.bool false) (.slice none 0 0) (.int .i64 0)) (cs : Array Value) : EN (W.setRow g cs) A i t := by
  obtain ⟨s, ao, n, cap, e, h1, ao', cap', h2, h3⟩ := h
  exact ⟨s, ao, n, cap, e, h1, ao', cap', h2, h3.nil, at_row h3.at_ hE cs, h3.le, h3.small⟩
end Go.Proofs.YtcoclopllbfjcaaGreatDoor
/- The document's order of ends, and Abs. -/
namespace Go.Proofs.YtcoclopllbfjcaaGreatDoor
set_option linter.unusedVariables false
set_option linter.unusedSimpArgs false
open Go.RowKit Go.Fl64
attribute [local go_sem] run_store_flt

/-- the sign of an end -/
def sgE (i : Int) (t : Bool × Nat × Int) : Int := if i = 0 then (if t.2.1 = 0 then 0 else if t.1 then -1 else 1) else i
end Go.Proofs.YtcoclopllbfjcaaGreatDoor
/- The document's Neg, Add, Sub. -/
namespace Go.Proofs.YtcoclopllbfjcaaGreatDoor
set_option linter.unusedVariables false
set_option linter.unusedSimpArgs false
open Go.RowKit Go.Fl64
attribute [local go_sem] run_store_flt

end Go.Proofs.YtcoclopllbfjcaaGreatDoor
/- The document's Abs. -/
namespace Go.Proofs.YtcoclopllbfjcaaGreatDoor
set_option linter.unusedVariables false
set_option linter.unusedSimpArgs false
open Go.RowKit Go.Fl64
attribute [local go_sem] run_store_flt

theorem enF_0 (m : Int) : enF 0 (false, 0, 0) m = 0 := by unfold enF toD; rfl
end Go.Proofs.YtcoclopllbfjcaaGreatDoor
/- Ends that are floats: what they round to, their order, their sums. -/
namespace Go.Proofs.YtcoclopllbfjcaaGreatDoor
set_option linter.unusedVariables false
set_option linter.unusedSimpArgs false
open Go.RowKit Go.Fl64

theorem tF_zero8 {a : Nat} (h : mag a = 0) : tF a = (false, 0, 0) := by
  obtain ⟨-, -, -, f4, -⟩ := (tF_ok a).facts
  refine f4 ?_
  unfold tF cn
  have hm : Ie.mant a = 0 := by
    have e := (val_mant a (by omega)).1
    rw [h, val_zero] at e
    have hp := Nat.two_pow_pos (Ie.lp a + 1074).toNat
    rcases Nat.mul_eq_zero.1 e.symm with h | h
    · exact h
    · omega
  rw [if_pos hm]
theorem tF_ngt8 {b : Nat} (hb : b < 18446744073709551616) (h0 : mag b ≠ 0) : tF (ngt b) = (!(tF b).1, (tF b).2.1, (tF b).2.2) := by
  have e1 : Ie.mant (ngt b) = Ie.mant b := by unfold Ie.mant; rw [ngt_mag hb]
  have e2 : Ie.lp (ngt b) = Ie.lp b := by unfold Ie.lp; rw [ngt_mag hb]
  unfold tF cn
  rw [e1, e2, ngt_neg hb, if_neg (Ie.mant_ne h0), if_neg (Ie.mant_ne h0)]
theorem tF_val8 {a : Nat} (hf : mag a < 9218868437227405312) (h0 : mag a ≠ 0) : (tF a).1 = neg a ∧ val (mag a) = (tF a).2.1 * 2 ^ ((tF a).2.2 + 1074).toNat ∧ -1074 ≤ (tF a).2.2 := by
  obtain ⟨e1, e2, e3⟩ := val_mant a hf
  have hm : Ie.mant a ≠ 0 := by
    intro h
    rw [h, Nat.zero_mul] at e1
    exact h0 ((val_eq_zero _).1 e1)
  have hs := tz_spec (Ie.mant a) (Ie.mant a) (Nat.le_refl _) hm
  unfold tF cn
  rw [if_neg hm]
  refine ⟨rfl, ?_, by show -1074 ≤ Ie.lp a + (tz (Ie.mant a) : Int); omega⟩
  show val (mag a) = Ie.mant a / 2 ^ tz (Ie.mant a) * 2 ^ (Ie.lp a + (tz (Ie.mant a) : Int) + 1074).toNat
  rw [e1, show (Ie.lp a + (tz (Ie.mant a) : Int) + 1074).toNat = tz (Ie.mant a) + (Ie.lp a + 1074).toNat by omega, Nat.pow_add, ← Nat.mul_assoc, Nat.mul_comm (Ie.mant a / 2 ^ tz (Ie.mant a)), hs.1]
theorem val_sgn8 {x : Nat} (hx : x < 18446744073709551616) : x = if neg x then mag x + 9223372036854775808 else mag x := by
  unfold neg mag
  split <;> rename_i h <;> simp only [decide_eq_true_eq] at h <;> omega
theorem ngt_ngt8 {a : Nat} (h : a < 18446744073709551616) : ngt (ngt a) = a := by
  unfold ngt neg
  split <;> rename_i h1 <;> simp only [decide_eq_true_eq] at h1 <;> split <;> rename_i h2 <;> simp only [decide_eq_true_eq] at h2 <;> omega
theorem eI_zero_fin {f : Nat} (hf : f < 18446744073709551616) (hn : isNaN f = false) : (eI f = 0 ↔ mag f < 9218868437227405312) := by
  have n' : ¬ 9218868437227405312 < mag f := of_decide_eq_false hn
  have hv := val_sgn8 hf
  unfold eI
  constructor
  · intro h
    by_cases h1 : mag f < 9218868437227405312
    · exact h1
    · exfalso
      have e : mag f = 9218868437227405312 := by omega
      rw [e] at hv
      cases hs : neg f
      · rw [hs] at hv
        rw [if_pos (by simpa using hv)] at h
        omega
      · rw [hs] at hv
        have hv2 : f = 18442240474082181120 := by simpa using hv
        rw [if_neg (by omega), if_pos hv2] at h
        omega
  · intro h
    rw [if_neg ?_, if_neg ?_]
    · rintro rfl; revert h; decide
    · rintro rfl; revert h; decide
theorem eI_ngt {f : Nat} (hf : f < 18446744073709551616) : eI (ngt f) = -eI f := by
  unfold eI
  by_cases h1 : f = 9218868437227405312
  · subst h1; decide
  · by_cases h2 : f = 18442240474082181120
    · subst h2; decide
    · rw [if_neg h1, if_neg h2, if_neg ?_, if_neg ?_]
      · rfl
      · intro h; exact h1 (by rw [← ngt_ngt8 hf, h]; decide)
      · intro h; exact h2 (by rw [← ngt_ngt8 hf, h]; decide)
theorem eT_ngt {f : Nat} (hf : f < 18446744073709551616) : eT (ngt f) = tNeg (eT f) := by
  unfold eT
  rw [eI_ngt hf]
  by_cases h : eI f = 0
  · rw [if_pos h, if_pos (by omega)]
    unfold tNeg
    by_cases h0 : mag f = 0
    · have h0' : mag (ngt f) = 0 := by rw [ngt_mag hf]; exact h0
      rw [tF_zero8 h0, tF_zero8 h0', if_pos rfl]
    · rw [if_neg (tF_ne h0), tF_ngt8 hf h0]
  · rw [if_neg h, if_neg (by omega)]
    rfl
theorem pl_cases (f : Nat) : pl f = f ∨ (f = 9223372036854775808 ∧ pl f = 0) := by
  unfold pl
  by_cases h : f = 9223372036854775808
  · exact .inr ⟨h, if_pos h⟩
  · exact .inl (if_neg h)
theorem eI_pl (f : Nat) : eI (pl f) = eI f := by
  rcases pl_cases f with h | ⟨h1, h2⟩
  · rw [h]
  · rw [h2, h1]; decide
end Go.Proofs.YtcoclopllbfjcaaGreatDoor
/- Ends that are floats: their signs, their order, their sums. -/
namespace Go.Proofs.YtcoclopllbfjcaaGreatDoor
set_option linter.unusedVariables false
set_option linter.unusedSimpArgs false
open Go.RowKit Go.Fl64

theorem inf_or {f : Nat} (hf : f < 18446744073709551616) (hn : isNaN f = false) : (mag f < 9218868437227405312 ∧ eI f = 0 ∧ eT f = tF f) ∨ (f = 9218868437227405312 ∧ eI f = 1) ∨ (f = 18442240474082181120 ∧ eI f = -1) := by
  by_cases h : eI f = 0
  · exact .inl ⟨(eI_zero_fin hf hn).1 h, h, by unfold eT; rw [if_pos h]⟩
  · by_cases h1 : f = 9218868437227405312
    · exact .inr (.inl ⟨h1, by rw [h1]; decide⟩)
    · by_cases h2 : f = 18442240474082181120
      · exact .inr (.inr ⟨h2, by rw [h2]; decide⟩)
      · exfalso
        apply h
        unfold eI
        rw [if_neg h1, if_neg h2]
/-- sums -/
theorem enF_plus {a c : Nat} (ha : a < 18446744073709551616) (hc : c < 18446744073709551616) (na : isNaN a = false) (nc : isNaN c = false) (hx : ¬ (eI a = 1 ∧ eI c = -1)) (hy : ¬ (eI a = -1 ∧ eI c = 1)) {m : Int} (hm : 1 ≤ m ∧ m ≤ 3) :
    enF (eI a + eI c) (plT (eI a) (eI c) (eT a) (eT c)) m = pl (fAdM a c m) := by
  have fI : fin 9218868437227405312 = false := by decide
  have fN : fin 18442240474082181120 = false := by decide
  unfold enF plT fAdM
  rcases inf_or ha na with ⟨fa, ia, ta⟩ | ⟨rfl, ia⟩ | ⟨rfl, ia⟩ <;> rcases inf_or hc nc with ⟨fb, ib, tb⟩ | ⟨rfl, ib⟩ | ⟨rfl, ib⟩
  · have f1 : fin a = true := decide_eq_true fa
    have f2 : fin c = true := decide_eq_true fb
    rw [ia, ib, if_pos (by omega), if_pos (by omega), ta, tb, if_neg (by rw [f1, f2]; simp)]
    unfold toD
    by_cases h0 : (tS (tF a) (tF c)).2.1 = 0
    · rw [if_pos h0, if_pos h0]
      cases z0 (neg a) (neg c) m <;> rfl
    · rw [if_neg h0, if_neg h0]
  · rw [ia, ib, if_neg (by omega), if_pos (by omega), if_pos (.inr fI)]
    unfold addX
    rw [na, nc, if_neg (by simp), if_neg (by omega)]
    rfl
  · rw [ia, ib, if_neg (by omega), if_neg (by omega), if_pos (.inr fN)]
    unfold addX
    rw [na, nc, if_neg (by simp), if_neg (by omega)]
    rfl
  · rw [ia, ib, if_neg (by omega), if_pos (by omega), if_pos (.inl fI)]
    unfold addX
    rw [na, nc, if_neg (by simp), if_pos (by decide), if_neg (by omega)]
    rfl
  · rw [ia, if_neg (by omega), if_pos (by omega), if_pos (.inl fI)]; decide
  · exact absurd ⟨ia, ib⟩ hx
  · rw [ia, ib, if_neg (by omega), if_neg (by omega), if_pos (.inl fN)]
    unfold addX
    rw [na, nc, if_neg (by simp), if_pos (by decide), if_neg (by omega)]
    rfl
  · exact absurd ⟨ia, ib⟩ hy
  · rw [ia, if_neg (by omega), if_neg (by omega), if_pos (.inl fN)]; decide
end Go.Proofs.YtcoclopllbfjcaaGreatDoor
/- SpanSums. -/
namespace Go.Proofs.YtcoclopllbfjcaaGreatDoor
set_option linter.unusedVariables false
set_option linter.unusedSimpArgs false
open Go.RowKit Go.Fl64
attribute [local go_sem] run_store_flt

theorem toD_nn (t : Bool × Nat × Int) {m : Int} (hm : 1 ≤ m ∧ m ≤ 3) : isNaN (toD t m) = false := by
  unfold toD
  split
  · decide
  · rw [tf_bdy hm]
    have h := bdy_le t.2.1 t.2.2 (wyN t.1 m)
    unfold isNaN
    rw [(mag_sig h).1]
    exact decide_eq_false (by omega)
theorem enF_nn (i : Int) (t : Bool × Nat × Int) {m : Int} (hm : 1 ≤ m ∧ m ≤ 3) : isNaN (enF i t m) = false := by
  unfold enF
  split
  · rw [pl_nan]; exact toD_nn t hm
  · split <;> decide
theorem fAdM_nn {a c : Nat} (ha : a < 18446744073709551616) (hc : c < 18446744073709551616) (na : isNaN a = false) (nc : isNaN c = false) (hx : ¬ (eI a = 1 ∧ eI c = -1)) (hy : ¬ (eI a = -1 ∧ eI c = 1)) {m : Int} (hm : 1 ≤ m ∧ m ≤ 3) : isNaN (fAdM a c m) = false := by
  rw [← pl_nan, ← enF_plus ha hc na nc hx hy hm]
  exact enF_nn _ _ hm
theorem fAdM_lt {a c : Nat} (ha : a < 18446744073709551616) (hc : c < 18446744073709551616) {m : Int} (hm : 1 ≤ m ∧ m ≤ 3) : fAdM a c m < 18446744073709551616 := (faddM_p a c m hm ha hc).1
/-- the lower end is never +Inf, the upper one never -Inf -/
theorem vI_ends {a b : Nat} (h : vI a b = true) : eI a ≠ 1 ∧ eI b ≠ -1 := by
  unfold vI at h
  simp only [Bool.and_eq_true] at h
  constructor
  · intro e
    have : a = 9218868437227405312 := by
      unfold eI at e
      by_cases h1 : a = 9218868437227405312
      · exact h1
      · rw [if_neg h1] at e
        split at e <;> omega
    have h2 := h.1.1.1.2
    rw [this] at h2
    revert h2
    decide
  · intro e
    have : b = 18442240474082181120 := by
      unfold eI at e
      by_cases h1 : b = 9218868437227405312
      · rw [if_pos h1] at e; omega
      · rw [if_neg h1] at e
        by_cases h2 : b = 18442240474082181120
        · exact h2
        · rw [if_neg h2] at e; omega
    have h2 := h.1.1.2
    rw [this] at h2
    revert h2
    decide
theorem tNeg_fits {t : Bool × Nat × Int} {lo hi : Int} (h : Fits lo hi t.2.1 t.2.2) : Fits lo hi (tNeg t).2.1 (tNeg t).2.2 := by
  unfold tNeg
  split
  · exact .inl rfl
  · exact h
theorem sadded (a b c d : Nat) (w : World) (ha : a < 18446744073709551616) (hb : b < 18446744073709551616) (hc : c < 18446744073709551616) (hd : d < 18446744073709551616) (hT : Tab32 w) (hJ : Ie.Tab w) (n1 : isNaN (fAdM a c 1) = false) (n2 : isNaN (fAdM b d 3) = false) :
    Calls Tryz.prog 61 #[.agg #[.float .f64 a, .float .f64 b], .agg #[.float .f64 c, .float .f64 d]] w fun r w' => r = .returned (.agg #[.float .f64 (pl (fAdM a c 1)), .float .f64 (pl (fAdM b d 3))]) ∧ Below w.heap.size w w' := by
  refine sadded_1 a b c d (fAdM a c 1) (fAdM b d 3) _ _ w (fun W h => ?_) (fun W h => ?_) (fun W h => sbetween _ _ W (fAdM_lt ha hc (by omega)) (fAdM_lt hb hd (by omega)))
  · refine (faddM a c 1 (by omega) ha hc W (hT.later h) (Tab.later hJ h)).mono ?_
    rintro r w' ⟨n, rfl, hl, hb'⟩
    rw [hl.eq n1]
    exact ⟨rfl, hb'⟩
  · refine (faddM b d 3 (by omega) hb hd W (hT.later h) (Tab.later hJ h)).mono ?_
    rintro r w' ⟨n, rfl, hl, hb'⟩
    rw [hl.eq n2]
    exact ⟨rfl, hb'⟩
theorem sadd (a b c d : Nat) (w : World) (ha : a < 18446744073709551616) (hb : b < 18446744073709551616) (hc : c < 18446744073709551616) (hd : d < 18446744073709551616) (hT : Tab32 w) (hJ : Ie.Tab w) :
    Calls Tryz.prog 20 #[.agg #[.float .f64 a, .float .f64 b], .agg #[.float .f64 c, .float .f64 d]] w fun r w' => r = .returned (orV (vI a b && vI c d) (pl (fAdM a c 1)) (pl (fAdM b d 3)) (.int .i64 0) (.int .i64 1)) ∧ Below w.heap.size w w' := by
  refine sadd_1 a b c d _ _ _ w (fun W g T h => smaybe h ha hb hc hd) (fun hv W h => ?_)
  rw [Bool.and_eq_true] at hv
  obtain ⟨x1, x2⟩ := vI_ends hv.1
  obtain ⟨y1, y2⟩ := vI_ends hv.2
  exact sadded a b c d W ha hb hc hd (hT.later h) (Tab.later hJ h) (fAdM_nn ha hc (vI_nn hv.1).1 (vI_nn hv.2).1 (fun e => x1 e.1) (fun e => y1 e.2) (by omega)) (fAdM_nn hb hd (vI_nn hv.1).2 (vI_nn hv.2).2 (fun e => y2 e.2) (fun e => x2 e.1) (by omega))
theorem ssub (a b c d : Nat) (w : World) (ha : a < 18446744073709551616) (hb : b < 18446744073709551616) (hc : c < 18446744073709551616) (hd : d < 18446744073709551616) (hT : Tab32 w) (hJ : Ie.Tab w) :
    Calls Tryz.prog 24 #[.agg #[.float .f64 a, .float .f64 b], .agg #[.float .f64 c, .float .f64 d]] w fun r w' => r = .returned (orV (vI a b && vI c d) (pl (fAdM a (pl (ngt d)) 1)) (pl (fAdM b (pl (ngt c)) 3)) (.int .i64 0) (.int .i64 1)) ∧ Below w.heap.size w w' := by
  refine ssub_1 a b c d (pl (ngt d)) (pl (ngt c)) _ _ _ w (fun W g T h => smaybe h ha hb hc hd) (fun _ W h => sturned c d W hc hd) (fun hv W h => ?_)
  rw [Bool.and_eq_true] at hv
  obtain ⟨x1, x2⟩ := vI_ends hv.1
  obtain ⟨y1, y2⟩ := vI_ends hv.2
  have e1 : eI (pl (ngt d)) = -eI d := by rw [eI_pl, eI_ngt hd]
  have e2 : eI (pl (ngt c)) = -eI c := by rw [eI_pl, eI_ngt hc]
  exact sadded a b (pl (ngt d)) (pl (ngt c)) W ha hb (pl_lt (ngt_lt hd)) (pl_lt (ngt_lt hc)) (hT.later h) (Tab.later hJ h) (fAdM_nn ha (pl_lt (ngt_lt hd)) (vI_nn hv.1).1 (by rw [pl_nan, ngt_nan8 hd]; exact (vI_nn hv.2).2) (fun e => x1 e.1) (fun e => by rw [e1] at e; exact y2 (by omega)) (by omega)) (fAdM_nn hb (pl_lt (ngt_lt hc)) (vI_nn hv.1).2 (by rw [pl_nan, ngt_nan8 hc]; exact (vI_nn hv.2).1) (fun e => by rw [e2] at e; exact y1 (by omega)) (fun e => x2 e.1) (by omega))
/-- the magnitudes -/
def mgX (a b : Nat) : Nat := if le 0 a then a else if le b 0 then pl (ngt b) else 0
def mgY (a b : Nat) : Nat := if le 0 a then b else if le b 0 then pl (ngt a) else fMax (ngt a) b
theorem smag (a b : Nat) (w : World) (ha : a < 18446744073709551616) (hb : b < 18446744073709551616) (na : isNaN a = false) (nb : isNaN b = false) :
    Calls Tryz.prog 53 #[.agg #[.float .f64 a, .float .f64 b]] w fun r w' => r = .returned (.agg #[.float .f64 (mgX a b), .float .f64 (mgY a b)]) ∧ Below w.heap.size w w' := by
  have k := smag_1 a b (pl (ngt b)) (pl (ngt a)) (fMax (ngt a) b) (le 0 a) (le b 0) w (ord_ge a 0 ha (by omega)) (ord_le b 0 hb (by omega)) (fun w => by rw [← negF a ha]; rfl) (fun _ _ W ts t => run_fmax W ts t _ _ (ngt_lt ha) hb (by rw [ngt_nan8 ha]; exact na) nb) (fun W => sturned a b W ha hb)
  unfold mgX mgY
  cases h1 : le 0 a
  · cases h2 : le b 0
    · rw [h1, h2] at k; exact k
    · rw [h1, h2] at k; exact k
  · rw [h1] at k; exact k
end Go.Proofs.YtcoclopllbfjcaaGreatDoor
/- The document's Mid. -/
namespace Go.Proofs.YtcoclopllbfjcaaGreatDoor
set_option linter.unusedVariables false
set_option linter.unusedSimpArgs false
open Go.RowKit Go.Fl64
attribute [local go_sem] run_store_flt

end Go.Proofs.YtcoclopllbfjcaaGreatDoor
/- The document's Half, its second region. -/
namespace Go.Proofs.YtcoclopllbfjcaaGreatDoor
set_option linter.unusedVariables false
set_option linter.unusedSimpArgs false
open Go.RowKit Go.Fl64
attribute [local go_sem] run_store_flt

def tD8 (t1 t2 : Bool × Nat × Int) : Bool × Nat × Int := cn (sumN t1.1 t1.2.1 t1.2.2 (!t2.1 && decide (0 < dlen t2.2.1)) t2.2.1 t2.2.2).1 (sumN t1.1 t1.2.1 t1.2.2 (!t2.1 && decide (0 < dlen t2.2.1)) t2.2.1 t2.2.2).2.1 (sumN t1.1 t1.2.1 t1.2.2 (!t2.1 && decide (0 < dlen t2.2.1)) t2.2.1 t2.2.2).2.2
theorem arg_noughtD8 (w : World) : Arg w none (dlen 0) 0 0 := by rw [dlen_zero]; exact ⟨fun _ => .inr ⟨rfl, rfl⟩, ⟨0, 0, fun h => absurd h (by omega), fun i hi => absurd hi (by omega)⟩, Nat.le_refl _, by omega⟩
theorem less8_dn {t1 t2 : Bool × Nat × Int} {X Y : Value} {w : World} (o1 : Ok t1) (o2 : Ok t2) (h1 : DN w X t1) (h2 : DN w Y t2) : Calls Tryz.prog 27 #[X, Y] w fun r w' => ∃ A, r = .returned A ∧ DN w' A (tD8 t1 t2) ∧ Below w.heap.size w w' := by
  obtain ⟨ao, cap, rfl, a1⟩ := h1
  obtain ⟨ao', cap', rfl, a2⟩ := h2
  obtain ⟨f1, f2, f3, -, -⟩ := o1.facts
  obtain ⟨g1, g2, g3, g4, -⟩ := o2.facts
  unfold tD8
  by_cases h0 : t2.2.1 = 0
  · have e2 := g4 h0
    have e3 : t2.1 = false := by rw [e2]
    have e4 : t2.2.2 = 0 := by rw [e2]
    rw [h0, e3, e4, dlen_zero]
    refine (rlessN_1 t1.1 false ao ao' (dlen t1.2.1) cap 0 cap' t1.2.2 0 false none 0 0 0 _ _ _ w (fun W => rminus_0 false ao' cap' 0 W) (fun W hW => ?_)).mono fun r w' ⟨A, e, h, hb⟩ => ⟨A, e, h.dn, hb⟩
    have k := rplusG (nb := false) (y := 0) (eb := 0) (a1.later hW) (arg_noughtD8 W) (cn_ok o1) rfl (by omega) (by omega) (by omega) (by omega) (by omega) (by rw [dlen_zero]; omega)
    rw [dlen_zero] at k
    exact k
  · have hl : 0 < dlen t2.2.1 := by have := dlen_pos h0; omega
    rw [decide_eq_true hl, Bool.and_true]
    have ho : cn (!t2.1) t2.2.1 t2.2.2 = (!t2.1, t2.2.1, t2.2.2) := by
      have := cn_ok o2
      unfold cn at this ⊢
      rw [if_neg h0] at this ⊢
      rw [Prod.ext_iff] at this
      exact Prod.ext rfl this.2
    exact (rlessN_1 t1.1 t2.1 ao ao' (dlen t1.2.1) cap (dlen t2.2.1) cap' t1.2.2 t2.2.2 (!t2.1) ao' (dlen t2.2.1) cap' t2.2.2 _ _ _ w (fun W => rminus_1 t2.1 ao' (dlen t2.2.1) cap' t2.2.2 W (by omega) (by rw [beq_eq_false_iff_ne]; omega)) (fun W hW => rplusG (a1.later hW) (a2.later hW) (cn_ok o1) ho (by omega) (by omega) (by omega) (by omega) (by omega) (by omega))).mono fun r w' ⟨A, e, h, hb⟩ => ⟨A, e, h.dn, hb⟩
theorem tD8_eq {t u : Bool × Nat × Int} (o : Ok u) : tD8 t u = tS t (tNeg u) := by
  obtain ⟨-, -, -, g4, -⟩ := o.facts
  unfold tD8 tS tNeg
  by_cases h0 : u.2.1 = 0
  · rw [if_pos h0, g4 h0, dlen_zero]
    rfl
  · have hl : 0 < dlen u.2.1 := by have := dlen_pos h0; omega
    rw [if_neg h0, decide_eq_true hl, Bool.and_true]

end Go.Proofs.YtcoclopllbfjcaaGreatDoor
/- The document's Half. -/
namespace Go.Proofs.YtcoclopllbfjcaaGreatDoor
set_option linter.unusedVariables false
set_option linter.unusedSimpArgs false
open Go.RowKit Go.Fl64
attribute [local go_sem] run_store_flt

end Go.Proofs.YtcoclopllbfjcaaGreatDoor
/- The document's Rad. -/
namespace Go.Proofs.YtcoclopllbfjcaaGreatDoor
set_option linter.unusedVariables false
set_option linter.unusedSimpArgs false
open Go.RowKit Go.Fl64
attribute [local go_sem] run_store_flt

end Go.Proofs.YtcoclopllbfjcaaGreatDoor
/- Middles in numbers. -/
namespace Go.Proofs.YtcoclopllbfjcaaGreatDoor
set_option linter.unusedVariables false
set_option linter.unusedSimpArgs false
open Go.RowKit Go.Fl64
attribute [local go_sem] run_store_flt

/-- the value of a number -/
def V8 (t : Bool × Nat × Int) : Int := vz 5000000 t.1 t.2.1 t.2.2
def E8 (t : Bool × Nat × Int) : Prop := Fits (-1074) 1025 t.2.1 t.2.2 ∧ 0 ≤ t.2.2 + (5000000 : Nat) ∧ Ok t
theorem Ok.e8 {t : Bool × Nat × Int} (h : Ok t) : 0 ≤ t.2.2 + (5000000 : Nat) := by
  have := h.facts
  omega
theorem toD_tf {t : Bool × Nat × Int} (h : Ok t) {m : Int} (hm : 1 ≤ m ∧ m ≤ 3) : toD t m = tfF t.1 true t.2.1 t.2.2 m := by
  unfold toD
  by_cases h0 : t.2.1 = 0
  · rw [if_pos h0, h.facts.2.2.2.1 h0]
    rcases (show m = 1 ∨ m = 2 ∨ m = 3 by omega) with rfl | rfl | rfl <;> decide +kernel
  · rw [if_neg h0]
end Go.Proofs.YtcoclopllbfjcaaGreatDoor
/- Middles joined. -/
namespace Go.Proofs.YtcoclopllbfjcaaGreatDoor
set_option linter.unusedVariables false
set_option linter.unusedSimpArgs false
open Go.RowKit Go.Fl64
attribute [local go_sem] run_store_flt

end Go.Proofs.YtcoclopllbfjcaaGreatDoor
/- SpanMiddles. -/
namespace Go.Proofs.YtcoclopllbfjcaaGreatDoor
set_option linter.unusedVariables false
set_option linter.unusedSimpArgs false
open Go.RowKit Go.Fl64
attribute [local go_sem] run_store_flt

end Go.Proofs.YtcoclopllbfjcaaGreatDoor
/- The document's ends multiplied. -/
namespace Go.Proofs.YtcoclopllbfjcaaGreatDoor
set_option linter.unusedVariables false
set_option linter.unusedSimpArgs false
open Go.RowKit Go.Fl64
attribute [local go_sem] run_store_flt

/-- two ends multiplied -/
def tmI (i j : Int) (t u : Bool × Nat × Int) : Int := if sgE i t = 0 ∨ sgE j u = 0 then 0 else if i ≠ 0 ∨ j ≠ 0 then sgE i t * sgE j u else 0
def tmT (i j : Int) (t u : Bool × Nat × Int) : Bool × Nat × Int := if sgE i t = 0 ∨ sgE j u = 0 then (false, 0, 0) else if i ≠ 0 ∨ j ≠ 0 then (false, 0, 0) else tM t u
end Go.Proofs.YtcoclopllbfjcaaGreatDoor
