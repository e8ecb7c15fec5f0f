/- Own work: contracts of the program's functions, part 16: SS5 SS6. -/
import Derived.Test.YtcoclopllbfjcaaGreatDoorA14
import Derived.Test.YtcoclopllbfjcaaGreatDoorA15

/- SpanLaws, walked. -/
namespace Go.Proofs.YtcoclopllbfjcaaGreatDoor
set_option linter.unusedVariables false
set_option linter.unusedSimpArgs false
open Go.RowKit Go.Fl64
attribute [local go_sem] run_store_flt

set_option maxHeartbeats 16000000 in
set_option maxRecDepth 200000 in
theorem laws_no (a b c d x1 y1 x2 y2 x3 y3 x4 y4 x5 y5 x6 y6 x7 y7 : Nat) (f2 f3 f4 f5 f6 : Int) (w : World)
    (k1 : ∀ W, Below w.heap.size w W → Calls Tryz.prog 20 #[.agg #[.float .f64 a, .float .f64 b], .agg #[.float .f64 c, .float .f64 d]] W fun r w' => r = .returned (.tuple #[.agg #[.float .f64 x1, .float .f64 y1], .int .i64 1]) ∧ Below W.heap.size W w')
    (k2 : ∀ W, Below w.heap.size w W → Calls Tryz.prog 20 #[.agg #[.float .f64 c, .float .f64 d], .agg #[.float .f64 a, .float .f64 b]] W fun r w' => r = .returned (.tuple #[.agg #[.float .f64 x1, .float .f64 y1], .int .i64 1]) ∧ Below W.heap.size W w')
    (k3 : ∀ W, Below w.heap.size w W → Calls Tryz.prog 8 #[.agg #[.float .f64 a, .float .f64 b], .agg #[.float .f64 c, .float .f64 d]] W fun r w' => r = .returned (.tuple #[.agg #[.float .f64 x2, .float .f64 y2], .int .i64 1]) ∧ Below W.heap.size W w')
    (k4 : ∀ W, Below w.heap.size w W → Calls Tryz.prog 8 #[.agg #[.float .f64 c, .float .f64 d], .agg #[.float .f64 a, .float .f64 b]] W fun r w' => r = .returned (.tuple #[.agg #[.float .f64 x2, .float .f64 y2], .int .i64 1]) ∧ Below W.heap.size W w')
    (k5 : ∀ W, Below w.heap.size w W → Calls Tryz.prog 29 #[.agg #[.float .f64 c, .float .f64 d]] W fun r w' => r = .returned (.tuple #[.agg #[.float .f64 x3, .float .f64 y3], .int .i64 f2]) ∧ Below W.heap.size W w')
    (k6 : ∀ W, Below w.heap.size w W → Calls Tryz.prog 20 #[.agg #[.float .f64 a, .float .f64 b], .agg #[.float .f64 x3, .float .f64 y3]] W fun r w' => r = .returned (.tuple #[.agg #[.float .f64 x4, .float .f64 y4], .int .i64 f3]) ∧ Below W.heap.size W w')
    (k7 : ∀ W, Below w.heap.size w W → Calls Tryz.prog 24 #[.agg #[.float .f64 a, .float .f64 b], .agg #[.float .f64 c, .float .f64 d]] W fun r w' => r = .returned (.tuple #[.agg #[.float .f64 x7, .float .f64 y7], .int .i64 f4]) ∧ Below W.heap.size W w')
    (k8 : ∀ W, Below w.heap.size w W → Calls Tryz.prog 14 #[.agg #[.float .f64 a, .float .f64 b], .int .i64 2] W fun r w' => r = .returned (.tuple #[.agg #[.float .f64 x5, .float .f64 y5], .int .i64 f5]) ∧ Below W.heap.size W w')
    (k9 : ∀ W, Below w.heap.size w W → Calls Tryz.prog 8 #[.agg #[.float .f64 a, .float .f64 b], .agg #[.float .f64 a, .float .f64 b]] W fun r w' => r = .returned (.tuple #[.agg #[.float .f64 x6, .float .f64 y6], .int .i64 f6]) ∧ Below W.heap.size W w')
    (s1 : ∀ W, Below w.heap.size w W → Calls Tryz.prog 12 #[.agg #[.float .f64 x1, .float .f64 y1], .agg #[.float .f64 x1, .float .f64 y1]] W fun r w' => r = .returned (.bool true) ∧ Below W.heap.size W w')
    (s2 : ∀ W, Below w.heap.size w W → Calls Tryz.prog 12 #[.agg #[.float .f64 x2, .float .f64 y2], .agg #[.float .f64 x2, .float .f64 y2]] W fun r w' => r = .returned (.bool true) ∧ Below W.heap.size W w')
    (kw : ∀ W, Below w.heap.size w W → Calls Tryz.prog 13 #[] W fun r w' => r = .returned (.bool true) ∧ Below W.heap.size W w') :
    Calls Tryz.prog 7 #[.agg #[.float .f64 a, .float .f64 b], .agg #[.float .f64 c, .float .f64 d]] w fun r w' => r = .returned (.bool true) ∧ Below w.heap.size w w' := by
  have Hk1 : Hid (∀ W, Below w.heap.size w W → Calls Tryz.prog 20 #[.agg #[.float .f64 a, .float .f64 b], .agg #[.float .f64 c, .float .f64 d]] W fun r w' => r = .returned (.tuple #[.agg #[.float .f64 x1, .float .f64 y1], .int .i64 1]) ∧ Below W.heap.size W w') := k1
  have Hk2 : Hid (∀ W, Below w.heap.size w W → Calls Tryz.prog 20 #[.agg #[.float .f64 c, .float .f64 d], .agg #[.float .f64 a, .float .f64 b]] W fun r w' => r = .returned (.tuple #[.agg #[.float .f64 x1, .float .f64 y1], .int .i64 1]) ∧ Below W.heap.size W w') := k2
  have Hk3 : Hid (∀ W, Below w.heap.size w W → Calls Tryz.prog 8 #[.agg #[.float .f64 a, .float .f64 b], .agg #[.float .f64 c, .float .f64 d]] W fun r w' => r = .returned (.tuple #[.agg #[.float .f64 x2, .float .f64 y2], .int .i64 1]) ∧ Below W.heap.size W w') := k3
  have Hk4 : Hid (∀ W, Below w.heap.size w W → Calls Tryz.prog 8 #[.agg #[.float .f64 c, .float .f64 d], .agg #[.float .f64 a, .float .f64 b]] W fun r w' => r = .returned (.tuple #[.agg #[.float .f64 x2, .float .f64 y2], .int .i64 1]) ∧ Below W.heap.size W w') := k4
  have Hk5 : Hid (∀ W, Below w.heap.size w W → Calls Tryz.prog 29 #[.agg #[.float .f64 c, .float .f64 d]] W fun r w' => r = .returned (.tuple #[.agg #[.float .f64 x3, .float .f64 y3], .int .i64 f2]) ∧ Below W.heap.size W w') := k5
  have Hk6 : Hid (∀ W, Below w.heap.size w W → Calls Tryz.prog 20 #[.agg #[.float .f64 a, .float .f64 b], .agg #[.float .f64 x3, .float .f64 y3]] W fun r w' => r = .returned (.tuple #[.agg #[.float .f64 x4, .float .f64 y4], .int .i64 f3]) ∧ Below W.heap.size W w') := k6
  have Hk7 : Hid (∀ W, Below w.heap.size w W → Calls Tryz.prog 24 #[.agg #[.float .f64 a, .float .f64 b], .agg #[.float .f64 c, .float .f64 d]] W fun r w' => r = .returned (.tuple #[.agg #[.float .f64 x7, .float .f64 y7], .int .i64 f4]) ∧ Below W.heap.size W w') := k7
  have Hk8 : Hid (∀ W, Below w.heap.size w W → Calls Tryz.prog 14 #[.agg #[.float .f64 a, .float .f64 b], .int .i64 2] W fun r w' => r = .returned (.tuple #[.agg #[.float .f64 x5, .float .f64 y5], .int .i64 f5]) ∧ Below W.heap.size W w') := k8
  have Hk9 : Hid (∀ W, Below w.heap.size w W → Calls Tryz.prog 8 #[.agg #[.float .f64 a, .float .f64 b], .agg #[.float .f64 a, .float .f64 b]] W fun r w' => r = .returned (.tuple #[.agg #[.float .f64 x6, .float .f64 y6], .int .i64 f6]) ∧ Below W.heap.size W w') := k9
  have Hs1 : Hid (∀ W, Below w.heap.size w W → Calls Tryz.prog 12 #[.agg #[.float .f64 x1, .float .f64 y1], .agg #[.float .f64 x1, .float .f64 y1]] W fun r w' => r = .returned (.bool true) ∧ Below W.heap.size W w') := s1
  have Hs2 : Hid (∀ W, Below w.heap.size w W → Calls Tryz.prog 12 #[.agg #[.float .f64 x2, .float .f64 y2], .agg #[.float .f64 x2, .float .f64 y2]] W fun r w' => r = .returned (.bool true) ∧ Below W.heap.size W w') := s2
  have Hkw : Hid (∀ W, Below w.heap.size w W → Calls Tryz.prog 13 #[] W fun r w' => r = .returned (.bool true) ∧ Below W.heap.size W w') := kw
  clear k1 k2 k3 k4 k5 k6 k7 k8 k9 s1 s2 kw
  obtain ⟨W, hW⟩ : ∃ W, W = ((w.alloc (.cells #[.float .f64 a, .float .f64 b] 24)).alloc (.cells #[.float .f64 c, .float .f64 d] 24)) := ⟨_, rfl⟩
  have A0 : Hid (Below w.heap.size w W) := by rw [hW]; exact bxs2_0 w a b c d
  have IA : Hid (IvB W (w.heap.size) a b) := by rw [hW]; exact bxs2_1 w a b c d
  have IC : Hid (IvB W (w.heap.size + 1) c d) := by rw [hW]; exact bxs2_2 w a b c d
  go_enter Tryz.func7, Tryz.ntmps7
  go_upto_region 1 with fail
  rw [← hW]
  clear hW
  obtain ⟨ia0, ia1, -, -⟩ := IvB.facts IA.out
  obtain ⟨ic0, ic1, -, -⟩ := IvB.facts IC.out
  have kk := Hk1.out W A0.out
  clear Hk1
  go_wp2_with fail
  clear ia0 ia1 ic0 ic1
  refine kk.mono ?_
  rintro r u1 ⟨rfl, hb⟩
  clear kk
  have A1 : Hid (Below w.heap.size w u1) := A0.out.trans (hb.mono A0.out.size)
  replace IA : Hid (IvB u1 (w.heap.size) a b) := IA.out.box hb
  replace IC : Hid (IvB u1 (w.heap.size + 1) c d) := IC.out.box hb
  clear hb A0
  obtain ⟨V1, hV⟩ : ∃ V, V = u1.alloc (.cells #[.float .f64 x1, .float .f64 y1] 24) := ⟨_, rfl⟩
  obtain ⟨g1, hg⟩ : ∃ g, g = u1.heap.size := ⟨_, rfl⟩
  have hc : Below u1.heap.size u1 V1 := by rw [hV]; exact (Below.refl _ _).alloc (Nat.le_refl _) _
  have I1 : Hid (IvB V1 g1 x1 y1) := by rw [hV, hg]; exact IvB.new _ _ _
  have A2 : Hid (Below w.heap.size w V1) := A1.out.trans (hc.mono A1.out.size)
  replace IA : Hid (IvB V1 (w.heap.size) a b) := IA.out.box hc
  replace IC : Hid (IvB V1 (w.heap.size + 1) c d) := IC.out.box hc
  clear hc A1
  obtain ⟨ia0, ia1, -, -⟩ := IvB.facts IA.out
  obtain ⟨ic0, ic1, -, -⟩ := IvB.facts IC.out
  have kk := Hk2.out V1 A2.out
  clear Hk2
  rw [hV] at ia0 ia1 ic0 ic1
  go_wp2_with fail
  rw [← hV, ← hg]
  clear hV hg
  clear ia0 ia1 ic0 ic1
  refine kk.mono ?_
  rintro r u2 ⟨rfl, hb⟩
  clear kk
  have A3 : Hid (Below w.heap.size w u2) := A2.out.trans (hb.mono A2.out.size)
  replace IA : Hid (IvB u2 (w.heap.size) a b) := IA.out.box hb
  replace IC : Hid (IvB u2 (w.heap.size + 1) c d) := IC.out.box hb
  replace I1 : Hid (IvB u2 g1 x1 y1) := I1.out.box hb
  clear hb A2
  obtain ⟨V2, hV⟩ : ∃ V, V = u2.alloc (.cells #[.float .f64 x1, .float .f64 y1] 24) := ⟨_, rfl⟩
  obtain ⟨g2, hg⟩ : ∃ g, g = u2.heap.size := ⟨_, rfl⟩
  have hc : Below u2.heap.size u2 V2 := by rw [hV]; exact (Below.refl _ _).alloc (Nat.le_refl _) _
  have I2 : Hid (IvB V2 g2 x1 y1) := by rw [hV, hg]; exact IvB.new _ _ _
  have A4 : Hid (Below w.heap.size w V2) := A3.out.trans (hc.mono A3.out.size)
  replace IA : Hid (IvB V2 (w.heap.size) a b) := IA.out.box hc
  replace IC : Hid (IvB V2 (w.heap.size + 1) c d) := IC.out.box hc
  replace I1 : Hid (IvB V2 g1 x1 y1) := I1.out.box hc
  clear hc A3
  obtain ⟨ia0, ia1, -, -⟩ := IvB.facts IA.out
  obtain ⟨ic0, ic1, -, -⟩ := IvB.facts IC.out
  have kk := Hk3.out V2 A4.out
  clear Hk3
  rw [hV] at ia0 ia1 ic0 ic1
  go_wp2_with fail
  rw [← hV, ← hg]
  clear hV hg
  clear ia0 ia1 ic0 ic1
  refine kk.mono ?_
  rintro r u3 ⟨rfl, hb⟩
  clear kk
  have A5 : Hid (Below w.heap.size w u3) := A4.out.trans (hb.mono A4.out.size)
  replace IA : Hid (IvB u3 (w.heap.size) a b) := IA.out.box hb
  replace IC : Hid (IvB u3 (w.heap.size + 1) c d) := IC.out.box hb
  replace I1 : Hid (IvB u3 g1 x1 y1) := I1.out.box hb
  replace I2 : Hid (IvB u3 g2 x1 y1) := I2.out.box hb
  clear hb A4
  obtain ⟨V3, hV⟩ : ∃ V, V = u3.alloc (.cells #[.float .f64 x2, .float .f64 y2] 24) := ⟨_, rfl⟩
  obtain ⟨g3, hg⟩ : ∃ g, g = u3.heap.size := ⟨_, rfl⟩
  have hc : Below u3.heap.size u3 V3 := by rw [hV]; exact (Below.refl _ _).alloc (Nat.le_refl _) _
  have I3 : Hid (IvB V3 g3 x2 y2) := by rw [hV, hg]; exact IvB.new _ _ _
  have A6 : Hid (Below w.heap.size w V3) := A5.out.trans (hc.mono A5.out.size)
  replace IA : Hid (IvB V3 (w.heap.size) a b) := IA.out.box hc
  replace IC : Hid (IvB V3 (w.heap.size + 1) c d) := IC.out.box hc
  replace I1 : Hid (IvB V3 g1 x1 y1) := I1.out.box hc
  replace I2 : Hid (IvB V3 g2 x1 y1) := I2.out.box hc
  clear hc A5
  obtain ⟨ia0, ia1, -, -⟩ := IvB.facts IA.out
  obtain ⟨ic0, ic1, -, -⟩ := IvB.facts IC.out
  have kk := Hk4.out V3 A6.out
  clear Hk4
  rw [hV] at ia0 ia1 ic0 ic1
  go_wp2_with fail
  rw [← hV, ← hg]
  clear hV hg
  clear ia0 ia1 ic0 ic1
  refine kk.mono ?_
  rintro r u4 ⟨rfl, hb⟩
  clear kk
  have A7 : Hid (Below w.heap.size w u4) := A6.out.trans (hb.mono A6.out.size)
  replace IA : Hid (IvB u4 (w.heap.size) a b) := IA.out.box hb
  replace IC : Hid (IvB u4 (w.heap.size + 1) c d) := IC.out.box hb
  replace I1 : Hid (IvB u4 g1 x1 y1) := I1.out.box hb
  replace I2 : Hid (IvB u4 g2 x1 y1) := I2.out.box hb
  replace I3 : Hid (IvB u4 g3 x2 y2) := I3.out.box hb
  clear hb A6
  obtain ⟨V4, hV⟩ : ∃ V, V = u4.alloc (.cells #[.float .f64 x2, .float .f64 y2] 24) := ⟨_, rfl⟩
  obtain ⟨g4, hg⟩ : ∃ g, g = u4.heap.size := ⟨_, rfl⟩
  have hc : Below u4.heap.size u4 V4 := by rw [hV]; exact (Below.refl _ _).alloc (Nat.le_refl _) _
  have I4 : Hid (IvB V4 g4 x2 y2) := by rw [hV, hg]; exact IvB.new _ _ _
  have A8 : Hid (Below w.heap.size w V4) := A7.out.trans (hc.mono A7.out.size)
  replace IA : Hid (IvB V4 (w.heap.size) a b) := IA.out.box hc
  replace IC : Hid (IvB V4 (w.heap.size + 1) c d) := IC.out.box hc
  replace I1 : Hid (IvB V4 g1 x1 y1) := I1.out.box hc
  replace I2 : Hid (IvB V4 g2 x1 y1) := I2.out.box hc
  replace I3 : Hid (IvB V4 g3 x2 y2) := I3.out.box hc
  clear hc A7
  obtain ⟨ic0, ic1, -, -⟩ := IvB.facts IC.out
  have kk := Hk5.out V4 A8.out
  clear Hk5
  rw [hV] at ic0 ic1
  go_wp2_with fail
  rw [← hV, ← hg]
  clear hV hg
  clear ic0 ic1
  refine kk.mono ?_
  rintro r u5 ⟨rfl, hb⟩
  clear kk
  have A9 : Hid (Below w.heap.size w u5) := A8.out.trans (hb.mono A8.out.size)
  replace IA : Hid (IvB u5 (w.heap.size) a b) := IA.out.box hb
  replace IC : Hid (IvB u5 (w.heap.size + 1) c d) := IC.out.box hb
  replace I1 : Hid (IvB u5 g1 x1 y1) := I1.out.box hb
  replace I2 : Hid (IvB u5 g2 x1 y1) := I2.out.box hb
  replace I3 : Hid (IvB u5 g3 x2 y2) := I3.out.box hb
  replace I4 : Hid (IvB u5 g4 x2 y2) := I4.out.box hb
  clear hb A8
  obtain ⟨V5, hV⟩ : ∃ V, V = u5.alloc (.cells #[.float .f64 x3, .float .f64 y3] 24) := ⟨_, rfl⟩
  obtain ⟨g5, hg⟩ : ∃ g, g = u5.heap.size := ⟨_, rfl⟩
  have hc : Below u5.heap.size u5 V5 := by rw [hV]; exact (Below.refl _ _).alloc (Nat.le_refl _) _
  have I5 : Hid (IvB V5 g5 x3 y3) := by rw [hV, hg]; exact IvB.new _ _ _
  have A10 : Hid (Below w.heap.size w V5) := A9.out.trans (hc.mono A9.out.size)
  replace IA : Hid (IvB V5 (w.heap.size) a b) := IA.out.box hc
  replace IC : Hid (IvB V5 (w.heap.size + 1) c d) := IC.out.box hc
  replace I1 : Hid (IvB V5 g1 x1 y1) := I1.out.box hc
  replace I2 : Hid (IvB V5 g2 x1 y1) := I2.out.box hc
  replace I3 : Hid (IvB V5 g3 x2 y2) := I3.out.box hc
  replace I4 : Hid (IvB V5 g4 x2 y2) := I4.out.box hc
  clear hc A9
  obtain ⟨ia0, ia1, -, -⟩ := IvB.facts IA.out
  obtain ⟨i50, i51, -, -⟩ := IvB.facts I5.out
  have kk := Hk6.out V5 A10.out
  clear Hk6
  rw [hV] at ia0 ia1 i50 i51
  go_wp2_with fail
  rw [← hV, ← hg]
  clear hV hg
  clear ia0 ia1 i50 i51
  refine kk.mono ?_
  rintro r u6 ⟨rfl, hb⟩
  clear kk
  have A11 : Hid (Below w.heap.size w u6) := A10.out.trans (hb.mono A10.out.size)
  replace IA : Hid (IvB u6 (w.heap.size) a b) := IA.out.box hb
  replace IC : Hid (IvB u6 (w.heap.size + 1) c d) := IC.out.box hb
  replace I1 : Hid (IvB u6 g1 x1 y1) := I1.out.box hb
  replace I2 : Hid (IvB u6 g2 x1 y1) := I2.out.box hb
  replace I3 : Hid (IvB u6 g3 x2 y2) := I3.out.box hb
  replace I4 : Hid (IvB u6 g4 x2 y2) := I4.out.box hb
  replace I5 : Hid (IvB u6 g5 x3 y3) := I5.out.box hb
  clear hb A10
  obtain ⟨V6, hV⟩ : ∃ V, V = u6.alloc (.cells #[.float .f64 x4, .float .f64 y4] 24) := ⟨_, rfl⟩
  obtain ⟨g6, hg⟩ : ∃ g, g = u6.heap.size := ⟨_, rfl⟩
  have hc : Below u6.heap.size u6 V6 := by rw [hV]; exact (Below.refl _ _).alloc (Nat.le_refl _) _
  have I6 : Hid (IvB V6 g6 x4 y4) := by rw [hV, hg]; exact IvB.new _ _ _
  have A12 : Hid (Below w.heap.size w V6) := A11.out.trans (hc.mono A11.out.size)
  replace IA : Hid (IvB V6 (w.heap.size) a b) := IA.out.box hc
  replace IC : Hid (IvB V6 (w.heap.size + 1) c d) := IC.out.box hc
  replace I1 : Hid (IvB V6 g1 x1 y1) := I1.out.box hc
  replace I2 : Hid (IvB V6 g2 x1 y1) := I2.out.box hc
  replace I3 : Hid (IvB V6 g3 x2 y2) := I3.out.box hc
  replace I4 : Hid (IvB V6 g4 x2 y2) := I4.out.box hc
  replace I5 : Hid (IvB V6 g5 x3 y3) := I5.out.box hc
  clear hc A11
  obtain ⟨ia0, ia1, -, -⟩ := IvB.facts IA.out
  obtain ⟨ic0, ic1, -, -⟩ := IvB.facts IC.out
  have kk := Hk7.out V6 A12.out
  clear Hk7
  rw [hV] at ia0 ia1 ic0 ic1
  go_wp2_with fail
  rw [← hV, ← hg]
  clear hV hg
  clear ia0 ia1 ic0 ic1
  refine kk.mono ?_
  rintro r u7 ⟨rfl, hb⟩
  clear kk
  have A13 : Hid (Below w.heap.size w u7) := A12.out.trans (hb.mono A12.out.size)
  replace IA : Hid (IvB u7 (w.heap.size) a b) := IA.out.box hb
  replace IC : Hid (IvB u7 (w.heap.size + 1) c d) := IC.out.box hb
  replace I1 : Hid (IvB u7 g1 x1 y1) := I1.out.box hb
  replace I2 : Hid (IvB u7 g2 x1 y1) := I2.out.box hb
  replace I3 : Hid (IvB u7 g3 x2 y2) := I3.out.box hb
  replace I4 : Hid (IvB u7 g4 x2 y2) := I4.out.box hb
  replace I5 : Hid (IvB u7 g5 x3 y3) := I5.out.box hb
  replace I6 : Hid (IvB u7 g6 x4 y4) := I6.out.box hb
  clear hb A12
  obtain ⟨V7, hV⟩ : ∃ V, V = u7.alloc (.cells #[.float .f64 x7, .float .f64 y7] 24) := ⟨_, rfl⟩
  obtain ⟨g7, hg⟩ : ∃ g, g = u7.heap.size := ⟨_, rfl⟩
  have hc : Below u7.heap.size u7 V7 := by rw [hV]; exact (Below.refl _ _).alloc (Nat.le_refl _) _
  have I7 : Hid (IvB V7 g7 x7 y7) := by rw [hV, hg]; exact IvB.new _ _ _
  have A14 : Hid (Below w.heap.size w V7) := A13.out.trans (hc.mono A13.out.size)
  replace IA : Hid (IvB V7 (w.heap.size) a b) := IA.out.box hc
  replace IC : Hid (IvB V7 (w.heap.size + 1) c d) := IC.out.box hc
  replace I1 : Hid (IvB V7 g1 x1 y1) := I1.out.box hc
  replace I2 : Hid (IvB V7 g2 x1 y1) := I2.out.box hc
  replace I3 : Hid (IvB V7 g3 x2 y2) := I3.out.box hc
  replace I4 : Hid (IvB V7 g4 x2 y2) := I4.out.box hc
  replace I5 : Hid (IvB V7 g5 x3 y3) := I5.out.box hc
  replace I6 : Hid (IvB V7 g6 x4 y4) := I6.out.box hc
  clear hc A13
  obtain ⟨ia0, ia1, -, -⟩ := IvB.facts IA.out
  have kk := Hk8.out V7 A14.out
  clear Hk8
  rw [hV] at ia0 ia1
  go_wp2_with fail
  rw [← hV, ← hg]
  clear hV hg
  clear ia0 ia1
  refine kk.mono ?_
  rintro r u8 ⟨rfl, hb⟩
  clear kk
  have A15 : Hid (Below w.heap.size w u8) := A14.out.trans (hb.mono A14.out.size)
  replace IA : Hid (IvB u8 (w.heap.size) a b) := IA.out.box hb
  replace IC : Hid (IvB u8 (w.heap.size + 1) c d) := IC.out.box hb
  replace I1 : Hid (IvB u8 g1 x1 y1) := I1.out.box hb
  replace I2 : Hid (IvB u8 g2 x1 y1) := I2.out.box hb
  replace I3 : Hid (IvB u8 g3 x2 y2) := I3.out.box hb
  replace I4 : Hid (IvB u8 g4 x2 y2) := I4.out.box hb
  replace I5 : Hid (IvB u8 g5 x3 y3) := I5.out.box hb
  replace I6 : Hid (IvB u8 g6 x4 y4) := I6.out.box hb
  replace I7 : Hid (IvB u8 g7 x7 y7) := I7.out.box hb
  clear hb A14
  obtain ⟨V8, hV⟩ : ∃ V, V = u8.alloc (.cells #[.float .f64 x5, .float .f64 y5] 24) := ⟨_, rfl⟩
  obtain ⟨g8, hg⟩ : ∃ g, g = u8.heap.size := ⟨_, rfl⟩
  have hc : Below u8.heap.size u8 V8 := by rw [hV]; exact (Below.refl _ _).alloc (Nat.le_refl _) _
  have I8 : Hid (IvB V8 g8 x5 y5) := by rw [hV, hg]; exact IvB.new _ _ _
  have A16 : Hid (Below w.heap.size w V8) := A15.out.trans (hc.mono A15.out.size)
  replace IA : Hid (IvB V8 (w.heap.size) a b) := IA.out.box hc
  replace IC : Hid (IvB V8 (w.heap.size + 1) c d) := IC.out.box hc
  replace I1 : Hid (IvB V8 g1 x1 y1) := I1.out.box hc
  replace I2 : Hid (IvB V8 g2 x1 y1) := I2.out.box hc
  replace I3 : Hid (IvB V8 g3 x2 y2) := I3.out.box hc
  replace I4 : Hid (IvB V8 g4 x2 y2) := I4.out.box hc
  replace I5 : Hid (IvB V8 g5 x3 y3) := I5.out.box hc
  replace I6 : Hid (IvB V8 g6 x4 y4) := I6.out.box hc
  replace I7 : Hid (IvB V8 g7 x7 y7) := I7.out.box hc
  clear hc A15
  obtain ⟨ia0, ia1, -, -⟩ := IvB.facts IA.out
  have kk := Hk9.out V8 A16.out
  clear Hk9
  rw [hV] at ia0 ia1
  go_wp2_with fail
  rw [← hV, ← hg]
  clear hV hg
  clear ia0 ia1
  refine kk.mono ?_
  rintro r u9 ⟨rfl, hb⟩
  clear kk
  have A17 : Hid (Below w.heap.size w u9) := A16.out.trans (hb.mono A16.out.size)
  replace IA : Hid (IvB u9 (w.heap.size) a b) := IA.out.box hb
  replace IC : Hid (IvB u9 (w.heap.size + 1) c d) := IC.out.box hb
  replace I1 : Hid (IvB u9 g1 x1 y1) := I1.out.box hb
  replace I2 : Hid (IvB u9 g2 x1 y1) := I2.out.box hb
  replace I3 : Hid (IvB u9 g3 x2 y2) := I3.out.box hb
  replace I4 : Hid (IvB u9 g4 x2 y2) := I4.out.box hb
  replace I5 : Hid (IvB u9 g5 x3 y3) := I5.out.box hb
  replace I6 : Hid (IvB u9 g6 x4 y4) := I6.out.box hb
  replace I7 : Hid (IvB u9 g7 x7 y7) := I7.out.box hb
  replace I8 : Hid (IvB u9 g8 x5 y5) := I8.out.box hb
  clear hb A16
  obtain ⟨V9, hV⟩ : ∃ V, V = u9.alloc (.cells #[.float .f64 x6, .float .f64 y6] 24) := ⟨_, rfl⟩
  obtain ⟨g9, hg⟩ : ∃ g, g = u9.heap.size := ⟨_, rfl⟩
  have hc : Below u9.heap.size u9 V9 := by rw [hV]; exact (Below.refl _ _).alloc (Nat.le_refl _) _
  have I9 : Hid (IvB V9 g9 x6 y6) := by rw [hV, hg]; exact IvB.new _ _ _
  have A18 : Hid (Below w.heap.size w V9) := A17.out.trans (hc.mono A17.out.size)
  replace IA : Hid (IvB V9 (w.heap.size) a b) := IA.out.box hc
  replace IC : Hid (IvB V9 (w.heap.size + 1) c d) := IC.out.box hc
  replace I1 : Hid (IvB V9 g1 x1 y1) := I1.out.box hc
  replace I2 : Hid (IvB V9 g2 x1 y1) := I2.out.box hc
  replace I3 : Hid (IvB V9 g3 x2 y2) := I3.out.box hc
  replace I4 : Hid (IvB V9 g4 x2 y2) := I4.out.box hc
  replace I5 : Hid (IvB V9 g5 x3 y3) := I5.out.box hc
  replace I6 : Hid (IvB V9 g6 x4 y4) := I6.out.box hc
  replace I7 : Hid (IvB V9 g7 x7 y7) := I7.out.box hc
  replace I8 : Hid (IvB V9 g8 x5 y5) := I8.out.box hc
  clear hc A17
  obtain ⟨i10, i11, -, -⟩ := IvB.facts I1.out
  obtain ⟨i20, i21, -, -⟩ := IvB.facts I2.out
  have kk := Hs1.out V9 A18.out
  clear Hs1
  rw [hV] at i10 i11 i20 i21
  go_wp2_with fail
  rw [← hV, ← hg]
  clear hV hg
  clear i10 i11 i20 i21
  refine kk.mono ?_
  rintro r u10 ⟨rfl, hb⟩
  clear kk
  have A19 : Hid (Below w.heap.size w u10) := A18.out.trans (hb.mono A18.out.size)
  replace IA : Hid (IvB u10 (w.heap.size) a b) := IA.out.box hb
  replace IC : Hid (IvB u10 (w.heap.size + 1) c d) := IC.out.box hb
  replace I1 : Hid (IvB u10 g1 x1 y1) := I1.out.box hb
  replace I2 : Hid (IvB u10 g2 x1 y1) := I2.out.box hb
  replace I3 : Hid (IvB u10 g3 x2 y2) := I3.out.box hb
  replace I4 : Hid (IvB u10 g4 x2 y2) := I4.out.box hb
  replace I5 : Hid (IvB u10 g5 x3 y3) := I5.out.box hb
  replace I6 : Hid (IvB u10 g6 x4 y4) := I6.out.box hb
  replace I7 : Hid (IvB u10 g7 x7 y7) := I7.out.box hb
  replace I8 : Hid (IvB u10 g8 x5 y5) := I8.out.box hb
  replace I9 : Hid (IvB u10 g9 x6 y6) := I9.out.box hb
  clear hb A18
  obtain ⟨i30, i31, -, -⟩ := IvB.facts I3.out
  obtain ⟨i40, i41, -, -⟩ := IvB.facts I4.out
  have kk := Hs2.out u10 A19.out
  clear Hs2
  go_wp2_with fail
  clear i30 i31 i40 i41
  refine kk.mono ?_
  rintro r u11 ⟨rfl, hb⟩
  clear kk
  have A20 : Hid (Below w.heap.size w u11) := A19.out.trans (hb.mono A19.out.size)
  replace IA : Hid (IvB u11 (w.heap.size) a b) := IA.out.box hb
  replace IC : Hid (IvB u11 (w.heap.size + 1) c d) := IC.out.box hb
  replace I1 : Hid (IvB u11 g1 x1 y1) := I1.out.box hb
  replace I2 : Hid (IvB u11 g2 x1 y1) := I2.out.box hb
  replace I3 : Hid (IvB u11 g3 x2 y2) := I3.out.box hb
  replace I4 : Hid (IvB u11 g4 x2 y2) := I4.out.box hb
  replace I5 : Hid (IvB u11 g5 x3 y3) := I5.out.box hb
  replace I6 : Hid (IvB u11 g6 x4 y4) := I6.out.box hb
  replace I7 : Hid (IvB u11 g7 x7 y7) := I7.out.box hb
  replace I8 : Hid (IvB u11 g8 x5 y5) := I8.out.box hb
  replace I9 : Hid (IvB u11 g9 x6 y6) := I9.out.box hb
  clear hb A19
  have kk := Hkw.out u11 A20.out
  clear Hkw
  go_wp2_with fail
  refine kk.mono ?_
  rintro r u12 ⟨rfl, hb⟩
  clear kk
  have A21 : Hid (Below w.heap.size w u12) := A20.out.trans (hb.mono A20.out.size)
  replace IA : Hid (IvB u12 (w.heap.size) a b) := IA.out.box hb
  replace IC : Hid (IvB u12 (w.heap.size + 1) c d) := IC.out.box hb
  replace I1 : Hid (IvB u12 g1 x1 y1) := I1.out.box hb
  replace I2 : Hid (IvB u12 g2 x1 y1) := I2.out.box hb
  replace I3 : Hid (IvB u12 g3 x2 y2) := I3.out.box hb
  replace I4 : Hid (IvB u12 g4 x2 y2) := I4.out.box hb
  replace I5 : Hid (IvB u12 g5 x3 y3) := I5.out.box hb
  replace I6 : Hid (IvB u12 g6 x4 y4) := I6.out.box hb
  replace I7 : Hid (IvB u12 g7 x7 y7) := I7.out.box hb
  replace I8 : Hid (IvB u12 g8 x5 y5) := I8.out.box hb
  replace I9 : Hid (IvB u12 g9 x6 y6) := I9.out.box hb
  clear hb A20
  go_wp2_with fail
  go_ret
  exact ⟨rfl, A21.out⟩
set_option maxHeartbeats 16000000 in
set_option maxRecDepth 200000 in
theorem laws_1 (a b c d x1 y1 x2 y2 x3 y3 x4 y4 x5 y5 x6 y6 m q : Nat) (f3 f4 f5 f6 : Int) (bb : Bool) (t1 t2 : Bool × Nat × Int) (w : World) (o1 : (FloatKind.f64.format.order q 9218868437227405311 == some Ordering.lt || FloatKind.f64.format.order q 9218868437227405311 == some Ordering.eq) = bb)
    (k1 : ∀ W, Below w.heap.size w W → Calls Tryz.prog 20 #[.agg #[.float .f64 a, .float .f64 b], .agg #[.float .f64 c, .float .f64 d]] W fun r w' => r = .returned (.tuple #[.agg #[.float .f64 x1, .float .f64 y1], .int .i64 0]) ∧ Below W.heap.size W w')
    (k2 : ∀ W, Below w.heap.size w W → Calls Tryz.prog 20 #[.agg #[.float .f64 c, .float .f64 d], .agg #[.float .f64 a, .float .f64 b]] W fun r w' => r = .returned (.tuple #[.agg #[.float .f64 x1, .float .f64 y1], .int .i64 0]) ∧ Below W.heap.size W w')
    (k3 : ∀ W, Below w.heap.size w W → Calls Tryz.prog 8 #[.agg #[.float .f64 a, .float .f64 b], .agg #[.float .f64 c, .float .f64 d]] W fun r w' => r = .returned (.tuple #[.agg #[.float .f64 x2, .float .f64 y2], .int .i64 0]) ∧ Below W.heap.size W w')
    (k4 : ∀ W, Below w.heap.size w W → Calls Tryz.prog 8 #[.agg #[.float .f64 c, .float .f64 d], .agg #[.float .f64 a, .float .f64 b]] W fun r w' => r = .returned (.tuple #[.agg #[.float .f64 x2, .float .f64 y2], .int .i64 0]) ∧ Below W.heap.size W w')
    (k5 : ∀ W, Below w.heap.size w W → Calls Tryz.prog 29 #[.agg #[.float .f64 c, .float .f64 d]] W fun r w' => r = .returned (.tuple #[.agg #[.float .f64 x3, .float .f64 y3], .int .i64 0]) ∧ Below W.heap.size W w')
    (k6 : ∀ W, Below w.heap.size w W → Calls Tryz.prog 20 #[.agg #[.float .f64 a, .float .f64 b], .agg #[.float .f64 x3, .float .f64 y3]] W fun r w' => r = .returned (.tuple #[.agg #[.float .f64 x4, .float .f64 y4], .int .i64 f3]) ∧ Below W.heap.size W w')
    (k7 : ∀ W, Below w.heap.size w W → Calls Tryz.prog 24 #[.agg #[.float .f64 a, .float .f64 b], .agg #[.float .f64 c, .float .f64 d]] W fun r w' => r = .returned (.tuple #[.agg #[.float .f64 x4, .float .f64 y4], .int .i64 f4]) ∧ Below W.heap.size W w')
    (k8 : ∀ W, Below w.heap.size w W → Calls Tryz.prog 14 #[.agg #[.float .f64 a, .float .f64 b], .int .i64 2] W fun r w' => r = .returned (.tuple #[.agg #[.float .f64 x5, .float .f64 y5], .int .i64 f5]) ∧ Below W.heap.size W w')
    (k9 : ∀ W, Below w.heap.size w W → Calls Tryz.prog 8 #[.agg #[.float .f64 a, .float .f64 b], .agg #[.float .f64 a, .float .f64 b]] W fun r w' => r = .returned (.tuple #[.agg #[.float .f64 x6, .float .f64 y6], .int .i64 f6]) ∧ Below W.heap.size W w')
    (s1 : ∀ W, Below w.heap.size w W → Calls Tryz.prog 12 #[.agg #[.float .f64 x1, .float .f64 y1], .agg #[.float .f64 x1, .float .f64 y1]] W fun r w' => r = .returned (.bool true) ∧ Below W.heap.size W w')
    (s2 : ∀ W, Below w.heap.size w W → Calls Tryz.prog 12 #[.agg #[.float .f64 x2, .float .f64 y2], .agg #[.float .f64 x2, .float .f64 y2]] W fun r w' => r = .returned (.bool true) ∧ Below W.heap.size W w')
    (kw : ∀ W, Below w.heap.size w W → Calls Tryz.prog 13 #[] W fun r w' => r = .returned (.bool true) ∧ Below W.heap.size W w')
    (s3 : ∀ W, Below w.heap.size w W → Calls Tryz.prog 12 #[.agg #[.float .f64 x4, .float .f64 y4], .agg #[.float .f64 x4, .float .f64 y4]] W fun r w' => r = .returned (.bool true) ∧ Below W.heap.size W w')
    (kn : ∀ W, Below w.heap.size w W → Calls Tryz.prog 18 #[.agg #[.float .f64 x5, .float .f64 y5], .agg #[.float .f64 x6, .float .f64 y6]] W fun r w' => r = .returned (.bool true) ∧ Below W.heap.size W w')
    (km : ∀ W, Below w.heap.size w W → Calls Tryz.prog 30 #[.agg #[.float .f64 a, .float .f64 b]] W fun r w' => r = .returned (.tuple #[.float .f64 m, .int .i64 0]) ∧ Below W.heap.size W w')
    (kr : ∀ W, Below w.heap.size w W → Calls Tryz.prog 31 #[.agg #[.float .f64 a, .float .f64 b]] W fun r w' => r = .returned (.tuple #[.float .f64 q, .int .i64 0]) ∧ Below W.heap.size W w')
    (kF : bb = true → ∀ W z, (z = m ∨ z = q ∨ z = a ∨ z = b) → Calls Tryz.prog 23 #[.float .f64 z] W fun r w' => ∃ s ao n cap e, r = .returned (.agg #[.bool s, .slice ao n cap, .int .i64 e]) ∧ DN w' (.agg #[.bool s, .slice ao n cap, .int .i64 e]) (tF z) ∧ Below W.heap.size W w')
    (kL : bb = true → ∀ W X Y, DN W X (tF m) → DN W Y (tF q) → Calls Tryz.prog 27 #[X, Y] W fun r w' => ∃ A, r = .returned A ∧ DN w' A t1 ∧ Below W.heap.size W w')
    (kP : bb = true → ∀ W X Y, DN W X (tF m) → DN W Y (tF q) → Calls Tryz.prog 26 #[X, Y] W fun r w' => ∃ A, r = .returned A ∧ DN w' A t2 ∧ Below W.heap.size W w')
    (kO : bb = true → ∀ W X Y, DN W X t1 → DN W Y (tF a) → Calls Tryz.prog 32 #[X, Y] W fun r w' => ∃ o : Int, r = .returned (.int .i64 o) ∧ o ≤ 0 ∧ Below W.heap.size W w')
    (kQ : bb = true → ∀ W X Y, DN W X t2 → DN W Y (tF b) → Calls Tryz.prog 32 #[X, Y] W fun r w' => ∃ o : Int, r = .returned (.int .i64 o) ∧ 0 ≤ o ∧ Below W.heap.size W w') :
    Calls Tryz.prog 7 #[.agg #[.float .f64 a, .float .f64 b], .agg #[.float .f64 c, .float .f64 d]] w fun r w' => r = .returned (.bool true) ∧ Below w.heap.size w w' := by
  have Hk1 : Hid (∀ W, Below w.heap.size w W → Calls Tryz.prog 20 #[.agg #[.float .f64 a, .float .f64 b], .agg #[.float .f64 c, .float .f64 d]] W fun r w' => r = .returned (.tuple #[.agg #[.float .f64 x1, .float .f64 y1], .int .i64 0]) ∧ Below W.heap.size W w') := k1
  have Hk2 : Hid (∀ W, Below w.heap.size w W → Calls Tryz.prog 20 #[.agg #[.float .f64 c, .float .f64 d], .agg #[.float .f64 a, .float .f64 b]] W fun r w' => r = .returned (.tuple #[.agg #[.float .f64 x1, .float .f64 y1], .int .i64 0]) ∧ Below W.heap.size W w') := k2
  have Hk3 : Hid (∀ W, Below w.heap.size w W → Calls Tryz.prog 8 #[.agg #[.float .f64 a, .float .f64 b], .agg #[.float .f64 c, .float .f64 d]] W fun r w' => r = .returned (.tuple #[.agg #[.float .f64 x2, .float .f64 y2], .int .i64 0]) ∧ Below W.heap.size W w') := k3
  have Hk4 : Hid (∀ W, Below w.heap.size w W → Calls Tryz.prog 8 #[.agg #[.float .f64 c, .float .f64 d], .agg #[.float .f64 a, .float .f64 b]] W fun r w' => r = .returned (.tuple #[.agg #[.float .f64 x2, .float .f64 y2], .int .i64 0]) ∧ Below W.heap.size W w') := k4
  have Hk5 : Hid (∀ W, Below w.heap.size w W → Calls Tryz.prog 29 #[.agg #[.float .f64 c, .float .f64 d]] W fun r w' => r = .returned (.tuple #[.agg #[.float .f64 x3, .float .f64 y3], .int .i64 0]) ∧ Below W.heap.size W w') := k5
  have Hk6 : Hid (∀ W, Below w.heap.size w W → Calls Tryz.prog 20 #[.agg #[.float .f64 a, .float .f64 b], .agg #[.float .f64 x3, .float .f64 y3]] W fun r w' => r = .returned (.tuple #[.agg #[.float .f64 x4, .float .f64 y4], .int .i64 f3]) ∧ Below W.heap.size W w') := k6
  have Hk7 : Hid (∀ W, Below w.heap.size w W → Calls Tryz.prog 24 #[.agg #[.float .f64 a, .float .f64 b], .agg #[.float .f64 c, .float .f64 d]] W fun r w' => r = .returned (.tuple #[.agg #[.float .f64 x4, .float .f64 y4], .int .i64 f4]) ∧ Below W.heap.size W w') := k7
  have Hk8 : Hid (∀ W, Below w.heap.size w W → Calls Tryz.prog 14 #[.agg #[.float .f64 a, .float .f64 b], .int .i64 2] W fun r w' => r = .returned (.tuple #[.agg #[.float .f64 x5, .float .f64 y5], .int .i64 f5]) ∧ Below W.heap.size W w') := k8
  have Hk9 : Hid (∀ W, Below w.heap.size w W → Calls Tryz.prog 8 #[.agg #[.float .f64 a, .float .f64 b], .agg #[.float .f64 a, .float .f64 b]] W fun r w' => r = .returned (.tuple #[.agg #[.float .f64 x6, .float .f64 y6], .int .i64 f6]) ∧ Below W.heap.size W w') := k9
  have Hs1 : Hid (∀ W, Below w.heap.size w W → Calls Tryz.prog 12 #[.agg #[.float .f64 x1, .float .f64 y1], .agg #[.float .f64 x1, .float .f64 y1]] W fun r w' => r = .returned (.bool true) ∧ Below W.heap.size W w') := s1
  have Hs2 : Hid (∀ W, Below w.heap.size w W → Calls Tryz.prog 12 #[.agg #[.float .f64 x2, .float .f64 y2], .agg #[.float .f64 x2, .float .f64 y2]] W fun r w' => r = .returned (.bool true) ∧ Below W.heap.size W w') := s2
  have Hkw : Hid (∀ W, Below w.heap.size w W → Calls Tryz.prog 13 #[] W fun r w' => r = .returned (.bool true) ∧ Below W.heap.size W w') := kw
  have Hs3 : Hid (∀ W, Below w.heap.size w W → Calls Tryz.prog 12 #[.agg #[.float .f64 x4, .float .f64 y4], .agg #[.float .f64 x4, .float .f64 y4]] W fun r w' => r = .returned (.bool true) ∧ Below W.heap.size W w') := s3
  have Hkn : Hid (∀ W, Below w.heap.size w W → Calls Tryz.prog 18 #[.agg #[.float .f64 x5, .float .f64 y5], .agg #[.float .f64 x6, .float .f64 y6]] W fun r w' => r = .returned (.bool true) ∧ Below W.heap.size W w') := kn
  have Hkm : Hid (∀ W, Below w.heap.size w W → Calls Tryz.prog 30 #[.agg #[.float .f64 a, .float .f64 b]] W fun r w' => r = .returned (.tuple #[.float .f64 m, .int .i64 0]) ∧ Below W.heap.size W w') := km
  have Hkr : Hid (∀ W, Below w.heap.size w W → Calls Tryz.prog 31 #[.agg #[.float .f64 a, .float .f64 b]] W fun r w' => r = .returned (.tuple #[.float .f64 q, .int .i64 0]) ∧ Below W.heap.size W w') := kr
  have HkF : Hid (bb = true → ∀ W z, (z = m ∨ z = q ∨ z = a ∨ z = b) → Calls Tryz.prog 23 #[.float .f64 z] W fun r w' => ∃ s ao n cap e, r = .returned (.agg #[.bool s, .slice ao n cap, .int .i64 e]) ∧ DN w' (.agg #[.bool s, .slice ao n cap, .int .i64 e]) (tF z) ∧ Below W.heap.size W w') := kF
  have HkL : Hid (bb = true → ∀ W X Y, DN W X (tF m) → DN W Y (tF q) → Calls Tryz.prog 27 #[X, Y] W fun r w' => ∃ A, r = .returned A ∧ DN w' A t1 ∧ Below W.heap.size W w') := kL
  have HkP : Hid (bb = true → ∀ W X Y, DN W X (tF m) → DN W Y (tF q) → Calls Tryz.prog 26 #[X, Y] W fun r w' => ∃ A, r = .returned A ∧ DN w' A t2 ∧ Below W.heap.size W w') := kP
  have HkO : Hid (bb = true → ∀ W X Y, DN W X t1 → DN W Y (tF a) → Calls Tryz.prog 32 #[X, Y] W fun r w' => ∃ o : Int, r = .returned (.int .i64 o) ∧ o ≤ 0 ∧ Below W.heap.size W w') := kO
  have HkQ : Hid (bb = true → ∀ W X Y, DN W X t2 → DN W Y (tF b) → Calls Tryz.prog 32 #[X, Y] W fun r w' => ∃ o : Int, r = .returned (.int .i64 o) ∧ 0 ≤ o ∧ Below W.heap.size W w') := kQ
  clear k1 k2 k3 k4 k5 k6 k7 k8 k9 s1 s2 kw s3 kn km kr kF kL kP kO kQ
  obtain ⟨W, hW⟩ : ∃ W, W = ((w.alloc (.cells #[.float .f64 a, .float .f64 b] 24)).alloc (.cells #[.float .f64 c, .float .f64 d] 24)) := ⟨_, rfl⟩
  have A0 : Hid (Below w.heap.size w W) := by rw [hW]; exact bxs2_0 w a b c d
  have IA : Hid (IvB W (w.heap.size) a b) := by rw [hW]; exact bxs2_1 w a b c d
  have IC : Hid (IvB W (w.heap.size + 1) c d) := by rw [hW]; exact bxs2_2 w a b c d
  go_enter Tryz.func7, Tryz.ntmps7
  go_upto_region 1 with fail
  rw [← hW]
  clear hW
  obtain ⟨ia0, ia1, -, -⟩ := IvB.facts IA.out
  obtain ⟨ic0, ic1, -, -⟩ := IvB.facts IC.out
  have kk := Hk1.out W A0.out
  clear Hk1
  go_wp2_with fail
  clear ia0 ia1 ic0 ic1
  refine kk.mono ?_
  rintro r u1 ⟨rfl, hb⟩
  clear kk
  have A1 : Hid (Below w.heap.size w u1) := A0.out.trans (hb.mono A0.out.size)
  replace IA : Hid (IvB u1 (w.heap.size) a b) := IA.out.box hb
  replace IC : Hid (IvB u1 (w.heap.size + 1) c d) := IC.out.box hb
  clear hb A0
  obtain ⟨V1, hV⟩ : ∃ V, V = u1.alloc (.cells #[.float .f64 x1, .float .f64 y1] 24) := ⟨_, rfl⟩
  obtain ⟨g1, hg⟩ : ∃ g, g = u1.heap.size := ⟨_, rfl⟩
  have hc : Below u1.heap.size u1 V1 := by rw [hV]; exact (Below.refl _ _).alloc (Nat.le_refl _) _
  have I1 : Hid (IvB V1 g1 x1 y1) := by rw [hV, hg]; exact IvB.new _ _ _
  have A2 : Hid (Below w.heap.size w V1) := A1.out.trans (hc.mono A1.out.size)
  replace IA : Hid (IvB V1 (w.heap.size) a b) := IA.out.box hc
  replace IC : Hid (IvB V1 (w.heap.size + 1) c d) := IC.out.box hc
  clear hc A1
  obtain ⟨ia0, ia1, -, -⟩ := IvB.facts IA.out
  obtain ⟨ic0, ic1, -, -⟩ := IvB.facts IC.out
  have kk := Hk2.out V1 A2.out
  clear Hk2
  rw [hV] at ia0 ia1 ic0 ic1
  go_wp2_with fail
  rw [← hV, ← hg]
  clear hV hg
  clear ia0 ia1 ic0 ic1
  refine kk.mono ?_
  rintro r u2 ⟨rfl, hb⟩
  clear kk
  have A3 : Hid (Below w.heap.size w u2) := A2.out.trans (hb.mono A2.out.size)
  replace IA : Hid (IvB u2 (w.heap.size) a b) := IA.out.box hb
  replace IC : Hid (IvB u2 (w.heap.size + 1) c d) := IC.out.box hb
  replace I1 : Hid (IvB u2 g1 x1 y1) := I1.out.box hb
  clear hb A2
  obtain ⟨V2, hV⟩ : ∃ V, V = u2.alloc (.cells #[.float .f64 x1, .float .f64 y1] 24) := ⟨_, rfl⟩
  obtain ⟨g2, hg⟩ : ∃ g, g = u2.heap.size := ⟨_, rfl⟩
  have hc : Below u2.heap.size u2 V2 := by rw [hV]; exact (Below.refl _ _).alloc (Nat.le_refl _) _
  have I2 : Hid (IvB V2 g2 x1 y1) := by rw [hV, hg]; exact IvB.new _ _ _
  have A4 : Hid (Below w.heap.size w V2) := A3.out.trans (hc.mono A3.out.size)
  replace IA : Hid (IvB V2 (w.heap.size) a b) := IA.out.box hc
  replace IC : Hid (IvB V2 (w.heap.size + 1) c d) := IC.out.box hc
  replace I1 : Hid (IvB V2 g1 x1 y1) := I1.out.box hc
  clear hc A3
  obtain ⟨ia0, ia1, -, -⟩ := IvB.facts IA.out
  obtain ⟨ic0, ic1, -, -⟩ := IvB.facts IC.out
  have kk := Hk3.out V2 A4.out
  clear Hk3
  rw [hV] at ia0 ia1 ic0 ic1
  go_wp2_with fail
  rw [← hV, ← hg]
  clear hV hg
  clear ia0 ia1 ic0 ic1
  refine kk.mono ?_
  rintro r u3 ⟨rfl, hb⟩
  clear kk
  have A5 : Hid (Below w.heap.size w u3) := A4.out.trans (hb.mono A4.out.size)
  replace IA : Hid (IvB u3 (w.heap.size) a b) := IA.out.box hb
  replace IC : Hid (IvB u3 (w.heap.size + 1) c d) := IC.out.box hb
  replace I1 : Hid (IvB u3 g1 x1 y1) := I1.out.box hb
  replace I2 : Hid (IvB u3 g2 x1 y1) := I2.out.box hb
  clear hb A4
  obtain ⟨V3, hV⟩ : ∃ V, V = u3.alloc (.cells #[.float .f64 x2, .float .f64 y2] 24) := ⟨_, rfl⟩
  obtain ⟨g3, hg⟩ : ∃ g, g = u3.heap.size := ⟨_, rfl⟩
  have hc : Below u3.heap.size u3 V3 := by rw [hV]; exact (Below.refl _ _).alloc (Nat.le_refl _) _
  have I3 : Hid (IvB V3 g3 x2 y2) := by rw [hV, hg]; exact IvB.new _ _ _
  have A6 : Hid (Below w.heap.size w V3) := A5.out.trans (hc.mono A5.out.size)
  replace IA : Hid (IvB V3 (w.heap.size) a b) := IA.out.box hc
  replace IC : Hid (IvB V3 (w.heap.size + 1) c d) := IC.out.box hc
  replace I1 : Hid (IvB V3 g1 x1 y1) := I1.out.box hc
  replace I2 : Hid (IvB V3 g2 x1 y1) := I2.out.box hc
  clear hc A5
  obtain ⟨ia0, ia1, -, -⟩ := IvB.facts IA.out
  obtain ⟨ic0, ic1, -, -⟩ := IvB.facts IC.out
  have kk := Hk4.out V3 A6.out
  clear Hk4
  rw [hV] at ia0 ia1 ic0 ic1
  go_wp2_with fail
  rw [← hV, ← hg]
  clear hV hg
  clear ia0 ia1 ic0 ic1
  refine kk.mono ?_
  rintro r u4 ⟨rfl, hb⟩
  clear kk
  have A7 : Hid (Below w.heap.size w u4) := A6.out.trans (hb.mono A6.out.size)
  replace IA : Hid (IvB u4 (w.heap.size) a b) := IA.out.box hb
  replace IC : Hid (IvB u4 (w.heap.size + 1) c d) := IC.out.box hb
  replace I1 : Hid (IvB u4 g1 x1 y1) := I1.out.box hb
  replace I2 : Hid (IvB u4 g2 x1 y1) := I2.out.box hb
  replace I3 : Hid (IvB u4 g3 x2 y2) := I3.out.box hb
  clear hb A6
  obtain ⟨V4, hV⟩ : ∃ V, V = u4.alloc (.cells #[.float .f64 x2, .float .f64 y2] 24) := ⟨_, rfl⟩
  obtain ⟨g4, hg⟩ : ∃ g, g = u4.heap.size := ⟨_, rfl⟩
  have hc : Below u4.heap.size u4 V4 := by rw [hV]; exact (Below.refl _ _).alloc (Nat.le_refl _) _
  have I4 : Hid (IvB V4 g4 x2 y2) := by rw [hV, hg]; exact IvB.new _ _ _
  have A8 : Hid (Below w.heap.size w V4) := A7.out.trans (hc.mono A7.out.size)
  replace IA : Hid (IvB V4 (w.heap.size) a b) := IA.out.box hc
  replace IC : Hid (IvB V4 (w.heap.size + 1) c d) := IC.out.box hc
  replace I1 : Hid (IvB V4 g1 x1 y1) := I1.out.box hc
  replace I2 : Hid (IvB V4 g2 x1 y1) := I2.out.box hc
  replace I3 : Hid (IvB V4 g3 x2 y2) := I3.out.box hc
  clear hc A7
  obtain ⟨ic0, ic1, -, -⟩ := IvB.facts IC.out
  have kk := Hk5.out V4 A8.out
  clear Hk5
  rw [hV] at ic0 ic1
  go_wp2_with fail
  rw [← hV, ← hg]
  clear hV hg
  clear ic0 ic1
  refine kk.mono ?_
  rintro r u5 ⟨rfl, hb⟩
  clear kk
  have A9 : Hid (Below w.heap.size w u5) := A8.out.trans (hb.mono A8.out.size)
  replace IA : Hid (IvB u5 (w.heap.size) a b) := IA.out.box hb
  replace IC : Hid (IvB u5 (w.heap.size + 1) c d) := IC.out.box hb
  replace I1 : Hid (IvB u5 g1 x1 y1) := I1.out.box hb
  replace I2 : Hid (IvB u5 g2 x1 y1) := I2.out.box hb
  replace I3 : Hid (IvB u5 g3 x2 y2) := I3.out.box hb
  replace I4 : Hid (IvB u5 g4 x2 y2) := I4.out.box hb
  clear hb A8
  obtain ⟨V5, hV⟩ : ∃ V, V = u5.alloc (.cells #[.float .f64 x3, .float .f64 y3] 24) := ⟨_, rfl⟩
  obtain ⟨g5, hg⟩ : ∃ g, g = u5.heap.size := ⟨_, rfl⟩
  have hc : Below u5.heap.size u5 V5 := by rw [hV]; exact (Below.refl _ _).alloc (Nat.le_refl _) _
  have I5 : Hid (IvB V5 g5 x3 y3) := by rw [hV, hg]; exact IvB.new _ _ _
  have A10 : Hid (Below w.heap.size w V5) := A9.out.trans (hc.mono A9.out.size)
  replace IA : Hid (IvB V5 (w.heap.size) a b) := IA.out.box hc
  replace IC : Hid (IvB V5 (w.heap.size + 1) c d) := IC.out.box hc
  replace I1 : Hid (IvB V5 g1 x1 y1) := I1.out.box hc
  replace I2 : Hid (IvB V5 g2 x1 y1) := I2.out.box hc
  replace I3 : Hid (IvB V5 g3 x2 y2) := I3.out.box hc
  replace I4 : Hid (IvB V5 g4 x2 y2) := I4.out.box hc
  clear hc A9
  obtain ⟨ia0, ia1, -, -⟩ := IvB.facts IA.out
  obtain ⟨i50, i51, -, -⟩ := IvB.facts I5.out
  have kk := Hk6.out V5 A10.out
  clear Hk6
  rw [hV] at ia0 ia1 i50 i51
  go_wp2_with fail
  rw [← hV, ← hg]
  clear hV hg
  clear ia0 ia1 i50 i51
  refine kk.mono ?_
  rintro r u6 ⟨rfl, hb⟩
  clear kk
  have A11 : Hid (Below w.heap.size w u6) := A10.out.trans (hb.mono A10.out.size)
  replace IA : Hid (IvB u6 (w.heap.size) a b) := IA.out.box hb
  replace IC : Hid (IvB u6 (w.heap.size + 1) c d) := IC.out.box hb
  replace I1 : Hid (IvB u6 g1 x1 y1) := I1.out.box hb
  replace I2 : Hid (IvB u6 g2 x1 y1) := I2.out.box hb
  replace I3 : Hid (IvB u6 g3 x2 y2) := I3.out.box hb
  replace I4 : Hid (IvB u6 g4 x2 y2) := I4.out.box hb
  replace I5 : Hid (IvB u6 g5 x3 y3) := I5.out.box hb
  clear hb A10
  obtain ⟨V6, hV⟩ : ∃ V, V = u6.alloc (.cells #[.float .f64 x4, .float .f64 y4] 24) := ⟨_, rfl⟩
  obtain ⟨g6, hg⟩ : ∃ g, g = u6.heap.size := ⟨_, rfl⟩
  have hc : Below u6.heap.size u6 V6 := by rw [hV]; exact (Below.refl _ _).alloc (Nat.le_refl _) _
  have I6 : Hid (IvB V6 g6 x4 y4) := by rw [hV, hg]; exact IvB.new _ _ _
  have A12 : Hid (Below w.heap.size w V6) := A11.out.trans (hc.mono A11.out.size)
  replace IA : Hid (IvB V6 (w.heap.size) a b) := IA.out.box hc
  replace IC : Hid (IvB V6 (w.heap.size + 1) c d) := IC.out.box hc
  replace I1 : Hid (IvB V6 g1 x1 y1) := I1.out.box hc
  replace I2 : Hid (IvB V6 g2 x1 y1) := I2.out.box hc
  replace I3 : Hid (IvB V6 g3 x2 y2) := I3.out.box hc
  replace I4 : Hid (IvB V6 g4 x2 y2) := I4.out.box hc
  replace I5 : Hid (IvB V6 g5 x3 y3) := I5.out.box hc
  clear hc A11
  obtain ⟨ia0, ia1, -, -⟩ := IvB.facts IA.out
  obtain ⟨ic0, ic1, -, -⟩ := IvB.facts IC.out
  have kk := Hk7.out V6 A12.out
  clear Hk7
  rw [hV] at ia0 ia1 ic0 ic1
  go_wp2_with fail
  rw [← hV, ← hg]
  clear hV hg
  clear ia0 ia1 ic0 ic1
  refine kk.mono ?_
  rintro r u7 ⟨rfl, hb⟩
  clear kk
  have A13 : Hid (Below w.heap.size w u7) := A12.out.trans (hb.mono A12.out.size)
  replace IA : Hid (IvB u7 (w.heap.size) a b) := IA.out.box hb
  replace IC : Hid (IvB u7 (w.heap.size + 1) c d) := IC.out.box hb
  replace I1 : Hid (IvB u7 g1 x1 y1) := I1.out.box hb
  replace I2 : Hid (IvB u7 g2 x1 y1) := I2.out.box hb
  replace I3 : Hid (IvB u7 g3 x2 y2) := I3.out.box hb
  replace I4 : Hid (IvB u7 g4 x2 y2) := I4.out.box hb
  replace I5 : Hid (IvB u7 g5 x3 y3) := I5.out.box hb
  replace I6 : Hid (IvB u7 g6 x4 y4) := I6.out.box hb
  clear hb A12
  obtain ⟨V7, hV⟩ : ∃ V, V = u7.alloc (.cells #[.float .f64 x4, .float .f64 y4] 24) := ⟨_, rfl⟩
  obtain ⟨g7, hg⟩ : ∃ g, g = u7.heap.size := ⟨_, rfl⟩
  have hc : Below u7.heap.size u7 V7 := by rw [hV]; exact (Below.refl _ _).alloc (Nat.le_refl _) _
  have I7 : Hid (IvB V7 g7 x4 y4) := by rw [hV, hg]; exact IvB.new _ _ _
  have A14 : Hid (Below w.heap.size w V7) := A13.out.trans (hc.mono A13.out.size)
  replace IA : Hid (IvB V7 (w.heap.size) a b) := IA.out.box hc
  replace IC : Hid (IvB V7 (w.heap.size + 1) c d) := IC.out.box hc
  replace I1 : Hid (IvB V7 g1 x1 y1) := I1.out.box hc
  replace I2 : Hid (IvB V7 g2 x1 y1) := I2.out.box hc
  replace I3 : Hid (IvB V7 g3 x2 y2) := I3.out.box hc
  replace I4 : Hid (IvB V7 g4 x2 y2) := I4.out.box hc
  replace I5 : Hid (IvB V7 g5 x3 y3) := I5.out.box hc
  replace I6 : Hid (IvB V7 g6 x4 y4) := I6.out.box hc
  clear hc A13
  obtain ⟨ia0, ia1, -, -⟩ := IvB.facts IA.out
  have kk := Hk8.out V7 A14.out
  clear Hk8
  rw [hV] at ia0 ia1
  go_wp2_with fail
  rw [← hV, ← hg]
  clear hV hg
  clear ia0 ia1
  refine kk.mono ?_
  rintro r u8 ⟨rfl, hb⟩
  clear kk
  have A15 : Hid (Below w.heap.size w u8) := A14.out.trans (hb.mono A14.out.size)
  replace IA : Hid (IvB u8 (w.heap.size) a b) := IA.out.box hb
  replace IC : Hid (IvB u8 (w.heap.size + 1) c d) := IC.out.box hb
  replace I1 : Hid (IvB u8 g1 x1 y1) := I1.out.box hb
  replace I2 : Hid (IvB u8 g2 x1 y1) := I2.out.box hb
  replace I3 : Hid (IvB u8 g3 x2 y2) := I3.out.box hb
  replace I4 : Hid (IvB u8 g4 x2 y2) := I4.out.box hb
  replace I5 : Hid (IvB u8 g5 x3 y3) := I5.out.box hb
  replace I6 : Hid (IvB u8 g6 x4 y4) := I6.out.box hb
  replace I7 : Hid (IvB u8 g7 x4 y4) := I7.out.box hb
  clear hb A14
  obtain ⟨V8, hV⟩ : ∃ V, V = u8.alloc (.cells #[.float .f64 x5, .float .f64 y5] 24) := ⟨_, rfl⟩
  obtain ⟨g8, hg⟩ : ∃ g, g = u8.heap.size := ⟨_, rfl⟩
  have hc : Below u8.heap.size u8 V8 := by rw [hV]; exact (Below.refl _ _).alloc (Nat.le_refl _) _
  have I8 : Hid (IvB V8 g8 x5 y5) := by rw [hV, hg]; exact IvB.new _ _ _
  have A16 : Hid (Below w.heap.size w V8) := A15.out.trans (hc.mono A15.out.size)
  replace IA : Hid (IvB V8 (w.heap.size) a b) := IA.out.box hc
  replace IC : Hid (IvB V8 (w.heap.size + 1) c d) := IC.out.box hc
  replace I1 : Hid (IvB V8 g1 x1 y1) := I1.out.box hc
  replace I2 : Hid (IvB V8 g2 x1 y1) := I2.out.box hc
  replace I3 : Hid (IvB V8 g3 x2 y2) := I3.out.box hc
  replace I4 : Hid (IvB V8 g4 x2 y2) := I4.out.box hc
  replace I5 : Hid (IvB V8 g5 x3 y3) := I5.out.box hc
  replace I6 : Hid (IvB V8 g6 x4 y4) := I6.out.box hc
  replace I7 : Hid (IvB V8 g7 x4 y4) := I7.out.box hc
  clear hc A15
  obtain ⟨ia0, ia1, -, -⟩ := IvB.facts IA.out
  have kk := Hk9.out V8 A16.out
  clear Hk9
  rw [hV] at ia0 ia1
  go_wp2_with fail
  rw [← hV, ← hg]
  clear hV hg
  clear ia0 ia1
  refine kk.mono ?_
  rintro r u9 ⟨rfl, hb⟩
  clear kk
  have A17 : Hid (Below w.heap.size w u9) := A16.out.trans (hb.mono A16.out.size)
  replace IA : Hid (IvB u9 (w.heap.size) a b) := IA.out.box hb
  replace IC : Hid (IvB u9 (w.heap.size + 1) c d) := IC.out.box hb
  replace I1 : Hid (IvB u9 g1 x1 y1) := I1.out.box hb
  replace I2 : Hid (IvB u9 g2 x1 y1) := I2.out.box hb
  replace I3 : Hid (IvB u9 g3 x2 y2) := I3.out.box hb
  replace I4 : Hid (IvB u9 g4 x2 y2) := I4.out.box hb
  replace I5 : Hid (IvB u9 g5 x3 y3) := I5.out.box hb
  replace I6 : Hid (IvB u9 g6 x4 y4) := I6.out.box hb
  replace I7 : Hid (IvB u9 g7 x4 y4) := I7.out.box hb
  replace I8 : Hid (IvB u9 g8 x5 y5) := I8.out.box hb
  clear hb A16
  obtain ⟨V9, hV⟩ : ∃ V, V = u9.alloc (.cells #[.float .f64 x6, .float .f64 y6] 24) := ⟨_, rfl⟩
  obtain ⟨g9, hg⟩ : ∃ g, g = u9.heap.size := ⟨_, rfl⟩
  have hc : Below u9.heap.size u9 V9 := by rw [hV]; exact (Below.refl _ _).alloc (Nat.le_refl _) _
  have I9 : Hid (IvB V9 g9 x6 y6) := by rw [hV, hg]; exact IvB.new _ _ _
  have A18 : Hid (Below w.heap.size w V9) := A17.out.trans (hc.mono A17.out.size)
  replace IA : Hid (IvB V9 (w.heap.size) a b) := IA.out.box hc
  replace IC : Hid (IvB V9 (w.heap.size + 1) c d) := IC.out.box hc
  replace I1 : Hid (IvB V9 g1 x1 y1) := I1.out.box hc
  replace I2 : Hid (IvB V9 g2 x1 y1) := I2.out.box hc
  replace I3 : Hid (IvB V9 g3 x2 y2) := I3.out.box hc
  replace I4 : Hid (IvB V9 g4 x2 y2) := I4.out.box hc
  replace I5 : Hid (IvB V9 g5 x3 y3) := I5.out.box hc
  replace I6 : Hid (IvB V9 g6 x4 y4) := I6.out.box hc
  replace I7 : Hid (IvB V9 g7 x4 y4) := I7.out.box hc
  replace I8 : Hid (IvB V9 g8 x5 y5) := I8.out.box hc
  clear hc A17
  obtain ⟨i10, i11, -, -⟩ := IvB.facts I1.out
  obtain ⟨i20, i21, -, -⟩ := IvB.facts I2.out
  have kk := Hs1.out V9 A18.out
  clear Hs1
  rw [hV] at i10 i11 i20 i21
  go_wp2_with fail
  rw [← hV, ← hg]
  clear hV hg
  clear i10 i11 i20 i21
  refine kk.mono ?_
  rintro r u10 ⟨rfl, hb⟩
  clear kk
  have A19 : Hid (Below w.heap.size w u10) := A18.out.trans (hb.mono A18.out.size)
  replace IA : Hid (IvB u10 (w.heap.size) a b) := IA.out.box hb
  replace IC : Hid (IvB u10 (w.heap.size + 1) c d) := IC.out.box hb
  replace I1 : Hid (IvB u10 g1 x1 y1) := I1.out.box hb
  replace I2 : Hid (IvB u10 g2 x1 y1) := I2.out.box hb
  replace I3 : Hid (IvB u10 g3 x2 y2) := I3.out.box hb
  replace I4 : Hid (IvB u10 g4 x2 y2) := I4.out.box hb
  replace I5 : Hid (IvB u10 g5 x3 y3) := I5.out.box hb
  replace I6 : Hid (IvB u10 g6 x4 y4) := I6.out.box hb
  replace I7 : Hid (IvB u10 g7 x4 y4) := I7.out.box hb
  replace I8 : Hid (IvB u10 g8 x5 y5) := I8.out.box hb
  replace I9 : Hid (IvB u10 g9 x6 y6) := I9.out.box hb
  clear hb A18
  obtain ⟨i30, i31, -, -⟩ := IvB.facts I3.out
  obtain ⟨i40, i41, -, -⟩ := IvB.facts I4.out
  have kk := Hs2.out u10 A19.out
  clear Hs2
  go_wp2_with fail
  clear i30 i31 i40 i41
  refine kk.mono ?_
  rintro r u11 ⟨rfl, hb⟩
  clear kk
  have A20 : Hid (Below w.heap.size w u11) := A19.out.trans (hb.mono A19.out.size)
  replace IA : Hid (IvB u11 (w.heap.size) a b) := IA.out.box hb
  replace IC : Hid (IvB u11 (w.heap.size + 1) c d) := IC.out.box hb
  replace I1 : Hid (IvB u11 g1 x1 y1) := I1.out.box hb
  replace I2 : Hid (IvB u11 g2 x1 y1) := I2.out.box hb
  replace I3 : Hid (IvB u11 g3 x2 y2) := I3.out.box hb
  replace I4 : Hid (IvB u11 g4 x2 y2) := I4.out.box hb
  replace I5 : Hid (IvB u11 g5 x3 y3) := I5.out.box hb
  replace I6 : Hid (IvB u11 g6 x4 y4) := I6.out.box hb
  replace I7 : Hid (IvB u11 g7 x4 y4) := I7.out.box hb
  replace I8 : Hid (IvB u11 g8 x5 y5) := I8.out.box hb
  replace I9 : Hid (IvB u11 g9 x6 y6) := I9.out.box hb
  clear hb A19
  obtain ⟨ia0, ia1, -, -⟩ := IvB.facts IA.out
  have kk := Hkm.out u11 A20.out
  clear Hkm
  go_wp2_with fail
  clear ia0 ia1
  refine kk.mono ?_
  rintro r u12 ⟨rfl, hb⟩
  clear kk
  have A21 : Hid (Below w.heap.size w u12) := A20.out.trans (hb.mono A20.out.size)
  replace IA : Hid (IvB u12 (w.heap.size) a b) := IA.out.box hb
  replace IC : Hid (IvB u12 (w.heap.size + 1) c d) := IC.out.box hb
  replace I1 : Hid (IvB u12 g1 x1 y1) := I1.out.box hb
  replace I2 : Hid (IvB u12 g2 x1 y1) := I2.out.box hb
  replace I3 : Hid (IvB u12 g3 x2 y2) := I3.out.box hb
  replace I4 : Hid (IvB u12 g4 x2 y2) := I4.out.box hb
  replace I5 : Hid (IvB u12 g5 x3 y3) := I5.out.box hb
  replace I6 : Hid (IvB u12 g6 x4 y4) := I6.out.box hb
  replace I7 : Hid (IvB u12 g7 x4 y4) := I7.out.box hb
  replace I8 : Hid (IvB u12 g8 x5 y5) := I8.out.box hb
  replace I9 : Hid (IvB u12 g9 x6 y6) := I9.out.box hb
  clear hb A20
  obtain ⟨ia0, ia1, -, -⟩ := IvB.facts IA.out
  have kk := Hkr.out u12 A21.out
  clear Hkr
  go_wp2_with fail
  clear ia0 ia1
  refine kk.mono ?_
  rintro r u13 ⟨rfl, hb⟩
  clear kk
  have A22 : Hid (Below w.heap.size w u13) := A21.out.trans (hb.mono A21.out.size)
  replace IA : Hid (IvB u13 (w.heap.size) a b) := IA.out.box hb
  replace IC : Hid (IvB u13 (w.heap.size + 1) c d) := IC.out.box hb
  replace I1 : Hid (IvB u13 g1 x1 y1) := I1.out.box hb
  replace I2 : Hid (IvB u13 g2 x1 y1) := I2.out.box hb
  replace I3 : Hid (IvB u13 g3 x2 y2) := I3.out.box hb
  replace I4 : Hid (IvB u13 g4 x2 y2) := I4.out.box hb
  replace I5 : Hid (IvB u13 g5 x3 y3) := I5.out.box hb
  replace I6 : Hid (IvB u13 g6 x4 y4) := I6.out.box hb
  replace I7 : Hid (IvB u13 g7 x4 y4) := I7.out.box hb
  replace I8 : Hid (IvB u13 g8 x5 y5) := I8.out.box hb
  replace I9 : Hid (IvB u13 g9 x6 y6) := I9.out.box hb
  clear hb A21
  cases bb
  · clear HkF HkL HkP HkO HkQ
    obtain ⟨i60, i61, -, -⟩ := IvB.facts I6.out
    obtain ⟨i70, i71, -, -⟩ := IvB.facts I7.out
    have kk := Hs3.out u13 A22.out
    clear Hs3
    go_wp2_with fail
    clear i60 i61 i70 i71
    refine kk.mono ?_
    rintro r u30 ⟨rfl, hb⟩
    clear kk
    have A23 : Hid (Below w.heap.size w u30) := A22.out.trans (hb.mono A22.out.size)
    replace IA : Hid (IvB u30 (w.heap.size) a b) := IA.out.box hb
    replace IC : Hid (IvB u30 (w.heap.size + 1) c d) := IC.out.box hb
    replace I1 : Hid (IvB u30 g1 x1 y1) := I1.out.box hb
    replace I2 : Hid (IvB u30 g2 x1 y1) := I2.out.box hb
    replace I3 : Hid (IvB u30 g3 x2 y2) := I3.out.box hb
    replace I4 : Hid (IvB u30 g4 x2 y2) := I4.out.box hb
    replace I5 : Hid (IvB u30 g5 x3 y3) := I5.out.box hb
    replace I6 : Hid (IvB u30 g6 x4 y4) := I6.out.box hb
    replace I7 : Hid (IvB u30 g7 x4 y4) := I7.out.box hb
    replace I8 : Hid (IvB u30 g8 x5 y5) := I8.out.box hb
    replace I9 : Hid (IvB u30 g9 x6 y6) := I9.out.box hb
    clear hb A22
    obtain ⟨i80, i81, -, -⟩ := IvB.facts I8.out
    obtain ⟨i90, i91, -, -⟩ := IvB.facts I9.out
    have kk := Hkn.out u30 A23.out
    clear Hkn
    go_wp2_with fail
    clear i80 i81 i90 i91
    refine kk.mono ?_
    rintro r u31 ⟨rfl, hb⟩
    clear kk
    have A24 : Hid (Below w.heap.size w u31) := A23.out.trans (hb.mono A23.out.size)
    replace IA : Hid (IvB u31 (w.heap.size) a b) := IA.out.box hb
    replace IC : Hid (IvB u31 (w.heap.size + 1) c d) := IC.out.box hb
    replace I1 : Hid (IvB u31 g1 x1 y1) := I1.out.box hb
    replace I2 : Hid (IvB u31 g2 x1 y1) := I2.out.box hb
    replace I3 : Hid (IvB u31 g3 x2 y2) := I3.out.box hb
    replace I4 : Hid (IvB u31 g4 x2 y2) := I4.out.box hb
    replace I5 : Hid (IvB u31 g5 x3 y3) := I5.out.box hb
    replace I6 : Hid (IvB u31 g6 x4 y4) := I6.out.box hb
    replace I7 : Hid (IvB u31 g7 x4 y4) := I7.out.box hb
    replace I8 : Hid (IvB u31 g8 x5 y5) := I8.out.box hb
    replace I9 : Hid (IvB u31 g9 x6 y6) := I9.out.box hb
    clear hb A23
    have kk := Hkw.out u31 A24.out
    clear Hkw
    go_wp2_with fail
    refine kk.mono ?_
    rintro r u32 ⟨rfl, hb⟩
    clear kk
    have A25 : Hid (Below w.heap.size w u32) := A24.out.trans (hb.mono A24.out.size)
    replace IA : Hid (IvB u32 (w.heap.size) a b) := IA.out.box hb
    replace IC : Hid (IvB u32 (w.heap.size + 1) c d) := IC.out.box hb
    replace I1 : Hid (IvB u32 g1 x1 y1) := I1.out.box hb
    replace I2 : Hid (IvB u32 g2 x1 y1) := I2.out.box hb
    replace I3 : Hid (IvB u32 g3 x2 y2) := I3.out.box hb
    replace I4 : Hid (IvB u32 g4 x2 y2) := I4.out.box hb
    replace I5 : Hid (IvB u32 g5 x3 y3) := I5.out.box hb
    replace I6 : Hid (IvB u32 g6 x4 y4) := I6.out.box hb
    replace I7 : Hid (IvB u32 g7 x4 y4) := I7.out.box hb
    replace I8 : Hid (IvB u32 g8 x5 y5) := I8.out.box hb
    replace I9 : Hid (IvB u32 g9 x6 y6) := I9.out.box hb
    clear hb A24
    go_wp2_with fail
    go_ret
    exact ⟨rfl, A25.out⟩
  · have hF := HkF.out rfl
    have hL := HkL.out rfl
    have hP := HkP.out rfl
    have hO := HkO.out rfl
    have hQ := HkQ.out rfl
    clear HkF HkL HkP HkO HkQ
    have HF : Hid (∀ W z, (z = m ∨ z = q ∨ z = a ∨ z = b) → Calls Tryz.prog 23 #[.float .f64 z] W fun r w' => ∃ s ao n cap e, r = .returned (.agg #[.bool s, .slice ao n cap, .int .i64 e]) ∧ DN w' (.agg #[.bool s, .slice ao n cap, .int .i64 e]) (tF z) ∧ Below W.heap.size W w') := hF
    have HL : Hid (∀ W X Y, DN W X (tF m) → DN W Y (tF q) → Calls Tryz.prog 27 #[X, Y] W fun r w' => ∃ A, r = .returned A ∧ DN w' A t1 ∧ Below W.heap.size W w') := hL
    have HP : Hid (∀ W X Y, DN W X (tF m) → DN W Y (tF q) → Calls Tryz.prog 26 #[X, Y] W fun r w' => ∃ A, r = .returned A ∧ DN w' A t2 ∧ Below W.heap.size W w') := hP
    have HO : Hid (∀ W X Y, DN W X t1 → DN W Y (tF a) → Calls Tryz.prog 32 #[X, Y] W fun r w' => ∃ o : Int, r = .returned (.int .i64 o) ∧ o ≤ 0 ∧ Below W.heap.size W w') := hO
    have HQ : Hid (∀ W X Y, DN W X t2 → DN W Y (tF b) → Calls Tryz.prog 32 #[X, Y] W fun r w' => ∃ o : Int, r = .returned (.int .i64 o) ∧ 0 ≤ o ∧ Below W.heap.size W w') := hQ
    clear hF hL hP hO hQ
    have kk := HF.out u13 m (.inl rfl)
    go_wp2_with fail
    refine kk.mono ?_
    rintro r u14 ⟨s14, ao14, n14, cp14, e14, rfl, hd, hb⟩
    clear kk
    have A23 : Hid (Below w.heap.size w u14) := A22.out.trans (hb.mono A22.out.size)
    replace IA : Hid (IvB u14 (w.heap.size) a b) := IA.out.box hb
    replace IC : Hid (IvB u14 (w.heap.size + 1) c d) := IC.out.box hb
    replace I1 : Hid (IvB u14 g1 x1 y1) := I1.out.box hb
    replace I2 : Hid (IvB u14 g2 x1 y1) := I2.out.box hb
    replace I3 : Hid (IvB u14 g3 x2 y2) := I3.out.box hb
    replace I4 : Hid (IvB u14 g4 x2 y2) := I4.out.box hb
    replace I5 : Hid (IvB u14 g5 x3 y3) := I5.out.box hb
    replace I6 : Hid (IvB u14 g6 x4 y4) := I6.out.box hb
    replace I7 : Hid (IvB u14 g7 x4 y4) := I7.out.box hb
    replace I8 : Hid (IvB u14 g8 x5 y5) := I8.out.box hb
    replace I9 : Hid (IvB u14 g9 x6 y6) := I9.out.box hb
    clear hb A22
    have D14 : Hid (DN u14 (.agg #[.bool s14, .slice ao14 n14 cp14, .int .i64 e14]) (tF m)) := hd
    clear hd
    have kk := HF.out u14 q (.inr (.inl rfl))
    go_wp2_with fail
    refine kk.mono ?_
    rintro r u15 ⟨s15, ao15, n15, cp15, e15, rfl, hd, hb⟩
    clear kk
    have A24 : Hid (Below w.heap.size w u15) := A23.out.trans (hb.mono A23.out.size)
    replace IA : Hid (IvB u15 (w.heap.size) a b) := IA.out.box hb
    replace IC : Hid (IvB u15 (w.heap.size + 1) c d) := IC.out.box hb
    replace I1 : Hid (IvB u15 g1 x1 y1) := I1.out.box hb
    replace I2 : Hid (IvB u15 g2 x1 y1) := I2.out.box hb
    replace I3 : Hid (IvB u15 g3 x2 y2) := I3.out.box hb
    replace I4 : Hid (IvB u15 g4 x2 y2) := I4.out.box hb
    replace I5 : Hid (IvB u15 g5 x3 y3) := I5.out.box hb
    replace I6 : Hid (IvB u15 g6 x4 y4) := I6.out.box hb
    replace I7 : Hid (IvB u15 g7 x4 y4) := I7.out.box hb
    replace I8 : Hid (IvB u15 g8 x5 y5) := I8.out.box hb
    replace I9 : Hid (IvB u15 g9 x6 y6) := I9.out.box hb
    replace D14 : Hid (DN u15 (.agg #[.bool s14, .slice ao14 n14 cp14, .int .i64 e14]) (tF m)) := D14.out.later hb
    clear hb A23
    have D15 : Hid (DN u15 (.agg #[.bool s15, .slice ao15 n15 cp15, .int .i64 e15]) (tF q)) := hd
    clear hd
    obtain ⟨V16, hV⟩ : ∃ V, V = (u15.alloc (.cells #[.bool s14, .slice ao14 n14 cp14, .int .i64 e14] 45)).alloc (.cells #[.bool s15, .slice ao15 n15 cp15, .int .i64 e15] 45) := ⟨_, rfl⟩
    obtain ⟨g16, hg⟩ : ∃ g, g = u15.heap.size := ⟨_, rfl⟩
    have hc : Below u15.heap.size u15 V16 := by rw [hV]; exact ((Below.refl _ _).alloc (Nat.le_refl _) _).alloc (by simp) _
    have N14 : Hid (V16.heap[g16]? = some (.cells #[.bool s14, .slice ao14 n14 cp14, .int .i64 e14] 45 (0, 0))) := by
      rw [hV, hg]; exact box_later (heap_alloc_new _ _) ((Below.refl _ _).alloc (Nat.le_refl _) _) (by simp)
    have N15 : Hid (V16.heap[g16 + 1]? = some (.cells #[.bool s15, .slice ao15 n15 cp15, .int .i64 e15] 45 (0, 0))) := by
      have h := heap_alloc_new (u15.alloc (.cells #[.bool s14, .slice ao14 n14 cp14, .int .i64 e14] 45)) (.cells #[.bool s15, .slice ao15 n15 cp15, .int .i64 e15] 45)
      rw [show (u15.alloc (.cells #[.bool s14, .slice ao14 n14 cp14, .int .i64 e14] 45)).heap.size = u15.heap.size + 1 by simp] at h
      rw [hV, hg]; exact h
    have A25 : Hid (Below w.heap.size w V16) := A24.out.trans (hc.mono A24.out.size)
    replace IA : Hid (IvB V16 (w.heap.size) a b) := IA.out.box hc
    replace IC : Hid (IvB V16 (w.heap.size + 1) c d) := IC.out.box hc
    replace I1 : Hid (IvB V16 g1 x1 y1) := I1.out.box hc
    replace I2 : Hid (IvB V16 g2 x1 y1) := I2.out.box hc
    replace I3 : Hid (IvB V16 g3 x2 y2) := I3.out.box hc
    replace I4 : Hid (IvB V16 g4 x2 y2) := I4.out.box hc
    replace I5 : Hid (IvB V16 g5 x3 y3) := I5.out.box hc
    replace I6 : Hid (IvB V16 g6 x4 y4) := I6.out.box hc
    replace I7 : Hid (IvB V16 g7 x4 y4) := I7.out.box hc
    replace I8 : Hid (IvB V16 g8 x5 y5) := I8.out.box hc
    replace I9 : Hid (IvB V16 g9 x6 y6) := I9.out.box hc
    replace D14 : Hid (DN V16 (.agg #[.bool s14, .slice ao14 n14 cp14, .int .i64 e14]) (tF m)) := D14.out.later hc
    replace D15 : Hid (DN V16 (.agg #[.bool s15, .slice ao15 n15 cp15, .int .i64 e15]) (tF q)) := D15.out.later hc
    clear hc A24
    go_upto_region 19 with fail
    rw [← hV, ← hg]
    clear hV hg
    have HK : Hid (∀ w', Below V16.heap.size V16 w' → (w'.cell? ⟨w.heap.size, 0, none⟩ = some (.float .f64 a) ∧ w'.cell? ⟨w.heap.size, 1, none⟩ = some (.float .f64 b)) ∧ (w'.cell? ⟨g16, 0, none⟩ = some (.bool s14) ∧ w'.cell? ⟨g16, 1, none⟩ = some (.slice ao14 n14 cp14) ∧ w'.cell? ⟨g16, 2, none⟩ = some (.int .i64 e14)) ∧ (w'.cell? ⟨g16 + 1, 0, none⟩ = some (.bool s15) ∧ w'.cell? ⟨g16 + 1, 1, none⟩ = some (.slice ao15 n15 cp15) ∧ w'.cell? ⟨g16 + 1, 2, none⟩ = some (.int .i64 e15))) := fun w' hb => ⟨⟨(IA.out.later hb).1, (IA.out.later hb).2.1⟩, (box_cells29 (box_later N14.out hb (lt_of_box N14.out))).1, (box_cells29 (box_later N15.out hb (lt_of_box N15.out))).1⟩
    have hR : Below V16.heap.size V16 V16.drew := (Below.refl _ _).drew
    obtain ⟨⟨cx0, cx1⟩, ⟨cx2, cx3, cx4⟩, cx5, cx6, cx7⟩ := HK.out V16 (Below.refl _ _)
    have q1 : ∀ W', Below V16.heap.size V16 W' → Calls Tryz.prog 27 #[.agg #[.bool s14, .slice ao14 n14 cp14, .int .i64 e14], .agg #[.bool s15, .slice ao15 n15 cp15, .int .i64 e15]] W' fun r w' => ∃ A, r = .returned A ∧ Hid (DN w' A t1) ∧ Below V16.heap.size V16 w' := fun W' h => (HL.out W' _ _ (D14.out.later h) (D15.out.later h)).mono fun r w' ⟨A, h1, h2, h3⟩ => ⟨A, h1, h2, h.trans (h3.mono h.size)⟩
    have q2 : ∀ W' X, Below V16.heap.size V16 W' → DN W' X t1 → Calls Tryz.prog 23 #[.float .f64 a] W' fun r w' => ∃ A, r = .returned A ∧ Hid (DN w' A (tF a)) ∧ Hid (DN w' X t1) ∧ Below V16.heap.size V16 w' := fun W' X h hx => (HF.out W' a (.inr (.inr (.inl rfl)))).mono fun r w' ⟨s, ao, n, cap, e, h1, h2, h3⟩ => ⟨_, h1, h2, hx.later h3, h.trans (h3.mono h.size)⟩
    have q3 : ∀ W' X Y, Below V16.heap.size V16 W' → DN W' X t1 → DN W' Y (tF a) → Calls Tryz.prog 32 #[X, Y] W' fun r w' => ∃ o : Int, r = .returned (.int .i64 o) ∧ o ≤ 0 ∧ Below V16.heap.size V16 w' := fun W' X Y h hx hy => (HO.out W' X Y hx hy).mono fun r w' ⟨i, h1, h2, h3⟩ => ⟨i, h1, h2, h.trans (h3.mono h.size)⟩
    have q4 : ∀ W', Below V16.heap.size V16 W' → Calls Tryz.prog 26 #[.agg #[.bool s14, .slice ao14 n14 cp14, .int .i64 e14], .agg #[.bool s15, .slice ao15 n15 cp15, .int .i64 e15]] W' fun r w' => ∃ A, r = .returned A ∧ Hid (DN w' A t2) ∧ Below V16.heap.size V16 w' := fun W' h => (HP.out W' _ _ (D14.out.later h) (D15.out.later h)).mono fun r w' ⟨A, h1, h2, h3⟩ => ⟨A, h1, h2, h.trans (h3.mono h.size)⟩
    have q5 : ∀ W' X, Below V16.heap.size V16 W' → DN W' X t2 → Calls Tryz.prog 23 #[.float .f64 b] W' fun r w' => ∃ A, r = .returned A ∧ Hid (DN w' A (tF b)) ∧ Hid (DN w' X t2) ∧ Below V16.heap.size V16 w' := fun W' X h hx => (HF.out W' b (.inr (.inr (.inr rfl)))).mono fun r w' ⟨s, ao, n, cap, e, h1, h2, h3⟩ => ⟨_, h1, h2, hx.later h3, h.trans (h3.mono h.size)⟩
    have q6 : ∀ W' X Y, Below V16.heap.size V16 W' → DN W' X t2 → DN W' Y (tF b) → Calls Tryz.prog 32 #[X, Y] W' fun r w' => ∃ o : Int, r = .returned (.int .i64 o) ∧ 0 ≤ o ∧ Below V16.heap.size V16 w' := fun W' X Y h hx hy => (HQ.out W' X Y hx hy).mono fun r w' ⟨i, h1, h2, h3⟩ => ⟨i, h1, h2, h.trans (h3.mono h.size)⟩
    clear HF HL HP HO HQ D14 D15 N14 N15
    go_region_held3 (fun w' => (w'.cell? ⟨w.heap.size, 0, none⟩ = some (.float .f64 a) ∧ w'.cell? ⟨w.heap.size, 1, none⟩ = some (.float .f64 b)) ∧ (w'.cell? ⟨g16, 0, none⟩ = some (.bool s14) ∧ w'.cell? ⟨g16, 1, none⟩ = some (.slice ao14 n14 cp14) ∧ w'.cell? ⟨g16, 2, none⟩ = some (.int .i64 e14)) ∧ (w'.cell? ⟨g16 + 1, 0, none⟩ = some (.bool s15) ∧ w'.cell? ⟨g16 + 1, 1, none⟩ = some (.slice ao15 n15 cp15) ∧ w'.cell? ⟨g16 + 1, 2, none⟩ = some (.int .i64 e15))) (first | (with_reducible assumption) | exact HK.out _ hR | (refine HK.out _ ?_; with_reducible assumption))
      (first | (go_at_call 27; with_reducible refine (q1 _ hR).mono ?_; rintro r b1 ⟨B1, rfl, E1, hb1⟩)
             | (go_at_call 23; with_reducible refine (q2 _ _ hb1 E1.out).mono ?_; rintro r b2 ⟨B2, rfl, E2, E1', hb2⟩)
             | (go_at_call 32; with_reducible refine (q3 _ _ _ hb2 E1'.out E2.out).mono ?_; rintro r b3 ⟨i3, rfl, hi3, hb3⟩)
             | (go_at_call 26; with_reducible refine (q4 _ hb3).mono ?_; rintro r b4 ⟨B4, rfl, E4, hb4⟩)
             | (go_at_call 23; with_reducible refine (q5 _ _ hb4 E4.out).mono ?_; rintro r b5 ⟨B5, rfl, E5, E4', hb5⟩)
             | (go_at_call 32; with_reducible refine (q6 _ _ _ hb5 E4'.out E5.out).mono ?_; rintro r b6 ⟨i6, rfl, hi6, hb6⟩))
    have A26 : Hid (Below w.heap.size w b6) := A25.out.trans (hb6.mono A25.out.size)
    replace IA : Hid (IvB b6 (w.heap.size) a b) := IA.out.box hb6
    replace IC : Hid (IvB b6 (w.heap.size + 1) c d) := IC.out.box hb6
    replace I1 : Hid (IvB b6 g1 x1 y1) := I1.out.box hb6
    replace I2 : Hid (IvB b6 g2 x1 y1) := I2.out.box hb6
    replace I3 : Hid (IvB b6 g3 x2 y2) := I3.out.box hb6
    replace I4 : Hid (IvB b6 g4 x2 y2) := I4.out.box hb6
    replace I5 : Hid (IvB b6 g5 x3 y3) := I5.out.box hb6
    replace I6 : Hid (IvB b6 g6 x4 y4) := I6.out.box hb6
    replace I7 : Hid (IvB b6 g7 x4 y4) := I7.out.box hb6
    replace I8 : Hid (IvB b6 g8 x5 y5) := I8.out.box hb6
    replace I9 : Hid (IvB b6 g9 x6 y6) := I9.out.box hb6
    clear q1 q2 q3 q4 q5 q6 hR HK cx0 cx1 cx2 cx3 cx4 cx5 cx6 cx7 E1 E2 E1' E4 E5 E4' hb1 hb2 hb3 hb4 hb5 hb6 A25
    obtain ⟨i60, i61, -, -⟩ := IvB.facts I6.out
    obtain ⟨i70, i71, -, -⟩ := IvB.facts I7.out
    have kk := Hs3.out b6 A26.out
    clear Hs3
    go_wp2_with fail
    clear i60 i61 i70 i71
    refine kk.mono ?_
    rintro r u30 ⟨rfl, hb⟩
    clear kk
    have A27 : Hid (Below w.heap.size w u30) := A26.out.trans (hb.mono A26.out.size)
    replace IA : Hid (IvB u30 (w.heap.size) a b) := IA.out.box hb
    replace IC : Hid (IvB u30 (w.heap.size + 1) c d) := IC.out.box hb
    replace I1 : Hid (IvB u30 g1 x1 y1) := I1.out.box hb
    replace I2 : Hid (IvB u30 g2 x1 y1) := I2.out.box hb
    replace I3 : Hid (IvB u30 g3 x2 y2) := I3.out.box hb
    replace I4 : Hid (IvB u30 g4 x2 y2) := I4.out.box hb
    replace I5 : Hid (IvB u30 g5 x3 y3) := I5.out.box hb
    replace I6 : Hid (IvB u30 g6 x4 y4) := I6.out.box hb
    replace I7 : Hid (IvB u30 g7 x4 y4) := I7.out.box hb
    replace I8 : Hid (IvB u30 g8 x5 y5) := I8.out.box hb
    replace I9 : Hid (IvB u30 g9 x6 y6) := I9.out.box hb
    clear hb A26
    obtain ⟨i80, i81, -, -⟩ := IvB.facts I8.out
    obtain ⟨i90, i91, -, -⟩ := IvB.facts I9.out
    have kk := Hkn.out u30 A27.out
    clear Hkn
    go_wp2_with fail
    clear i80 i81 i90 i91
    refine kk.mono ?_
    rintro r u31 ⟨rfl, hb⟩
    clear kk
    have A28 : Hid (Below w.heap.size w u31) := A27.out.trans (hb.mono A27.out.size)
    replace IA : Hid (IvB u31 (w.heap.size) a b) := IA.out.box hb
    replace IC : Hid (IvB u31 (w.heap.size + 1) c d) := IC.out.box hb
    replace I1 : Hid (IvB u31 g1 x1 y1) := I1.out.box hb
    replace I2 : Hid (IvB u31 g2 x1 y1) := I2.out.box hb
    replace I3 : Hid (IvB u31 g3 x2 y2) := I3.out.box hb
    replace I4 : Hid (IvB u31 g4 x2 y2) := I4.out.box hb
    replace I5 : Hid (IvB u31 g5 x3 y3) := I5.out.box hb
    replace I6 : Hid (IvB u31 g6 x4 y4) := I6.out.box hb
    replace I7 : Hid (IvB u31 g7 x4 y4) := I7.out.box hb
    replace I8 : Hid (IvB u31 g8 x5 y5) := I8.out.box hb
    replace I9 : Hid (IvB u31 g9 x6 y6) := I9.out.box hb
    clear hb A27
    have kk := Hkw.out u31 A28.out
    clear Hkw
    go_wp2_with fail
    refine kk.mono ?_
    rintro r u32 ⟨rfl, hb⟩
    clear kk
    have A29 : Hid (Below w.heap.size w u32) := A28.out.trans (hb.mono A28.out.size)
    replace IA : Hid (IvB u32 (w.heap.size) a b) := IA.out.box hb
    replace IC : Hid (IvB u32 (w.heap.size + 1) c d) := IC.out.box hb
    replace I1 : Hid (IvB u32 g1 x1 y1) := I1.out.box hb
    replace I2 : Hid (IvB u32 g2 x1 y1) := I2.out.box hb
    replace I3 : Hid (IvB u32 g3 x2 y2) := I3.out.box hb
    replace I4 : Hid (IvB u32 g4 x2 y2) := I4.out.box hb
    replace I5 : Hid (IvB u32 g5 x3 y3) := I5.out.box hb
    replace I6 : Hid (IvB u32 g6 x4 y4) := I6.out.box hb
    replace I7 : Hid (IvB u32 g7 x4 y4) := I7.out.box hb
    replace I8 : Hid (IvB u32 g8 x5 y5) := I8.out.box hb
    replace I9 : Hid (IvB u32 g9 x6 y6) := I9.out.box hb
    clear hb A28
    go_wp2_with fail
    go_ret
    exact ⟨rfl, A29.out⟩
end Go.Proofs.YtcoclopllbfjcaaGreatDoor
/- SpanLaws. -/
namespace Go.Proofs.YtcoclopllbfjcaaGreatDoor
set_option linter.unusedVariables false
set_option linter.unusedSimpArgs false
open Go.RowKit Go.Fl64

theorem ends_e {a b : Nat} (ha : a < 18446744073709551616) (hb : b < 18446744073709551616) (hv : vI a b = true) : eI a ≠ 1 ∧ eI b ≠ -1 := by
  obtain ⟨na, nb, hs, h1, h2, -, -⟩ := vI_facts hv
  constructor
  · intro h
    unfold eI at h
    split at h
    · rename_i h'; rw [h'] at h1; exact absurd h1 (by decide)
    · split at h <;> omega
  · intro h
    unfold eI at h
    split at h
    · omega
    · split at h
      · rename_i h'; rw [h'] at h2; exact absurd h2 (by decide)
      · omega
theorem neg_vI {c d : Nat} (hc : c < 18446744073709551616) (hd : d < 18446744073709551616) (hv : vI c d = true) : vI (pl (ngt d)) (pl (ngt c)) = true := by
  obtain ⟨nc, nd, hs, h1, h2, -, -⟩ := vI_facts hv
  have pln : ∀ x, isNaN x = false → isNaN (pl x) = false := fun x hx => by unfold pl; split; decide; exact hx
  refine mkvI (pln _ (by rw [ngt_nan8 hd]; exact nd)) (pln _ (by rw [ngt_nan8 hc]; exact nc)) (pl_nZ _) (pl_nZ _) ?_ ?_ ?_ <;> rw [pl_stp] <;> (try rw [pl_stp]) <;> rw [ngt_stp (by assumption)] <;> (try rw [ngt_stp (by assumption)]) <;> omega
theorem ord_V8 {t u : Bool × Nat × Int} (o1 : Ok t) (o2 : Ok u) : ordN t.1 t.2.1 t.2.2 u.1 u.2.1 u.2.2 = cmpI (V8 t) (V8 u) := ordN_vz o1.e8 o2.e8
theorem cmpI_ge8 {x y : Int} (h : y ≤ x) : 0 ≤ cmpI x y := by unfold cmpI; split; omega; split <;> omega
theorem cmpI_le8 {x y : Int} (h : x ≤ y) : cmpI x y ≤ 0 := by unfold cmpI; split; omega; split <;> omega
theorem pw_lt8L {a b : Nat} {n : Int} (ha : a < 18446744073709551616) (hb : b < 18446744073709551616) : (if pOk a b n then pwX a b n.toNat else 0) < 18446744073709551616 ∧ (if pOk a b n then pwY a b n.toNat else 0) < 18446744073709551616 := by
  cases h : pOk a b n
  · exact ⟨by rw [if_neg (by decide)]; omega, by rw [if_neg (by decide)]; omega⟩
  · have hv : vI a b = true := by
      unfold pOk at h
      simp only [Bool.and_eq_true] at h
      exact h.1.1
    obtain ⟨f1, f2, -⟩ := pc_facts (n := n.toNat) ha hb hv
    exact ⟨pl_lt (pwF_lt f1 (by omega)), pl_lt (pwF_lt f2 (by omega))⟩
theorem same8 (x y : Nat) (hx : x < 18446744073709551616) (hy : y < 18446744073709551616) (W : World) : Calls Tryz.prog 12 #[.agg #[.float .f64 x, .float .f64 y], .agg #[.float .f64 x, .float .f64 y]] W fun r w' => r = .returned (.bool true) ∧ Below W.heap.size W w' := isame x y hx hy W
set_option maxHeartbeats 1000000 in
/-- SpanLaws answers true -/
theorem spanLaws_ok (a b c d : Nat) (w : World) (ha : a < 18446744073709551616) (hb : b < 18446744073709551616) (hc : c < 18446744073709551616) (hd : d < 18446744073709551616) (hT : Tab32 w) (hJ : Ie.Tab w) :
    Calls Tryz.prog 7 #[.agg #[.float .f64 a, .float .f64 b], .agg #[.float .f64 c, .float .f64 d]] w fun r w' => r = .returned (.bool true) ∧ Below w.heap.size w w' := by
  have hw : ∀ W, Below w.heap.size w W → Calls Tryz.prog 13 #[] W fun r w' => r = .returned (.bool true) ∧ Below W.heap.size W w' := fun W h => works8 W (hT.later h) (Tab.later hJ h)
  by_cases hv : (vI a b && vI c d) = true
  · have hv' := hv
    rw [Bool.and_eq_true] at hv'
    obtain ⟨va, vc⟩ := hv'
    have hv2 : (vI c d && vI a b) = true := by rw [va, vc]; rfl
    obtain ⟨na, nb, -, -, -, -, -⟩ := vI_facts va
    obtain ⟨nc, nd, -, -, -, -, -⟩ := vI_facts vc
    obtain ⟨ea, eb⟩ := ends_e ha hb va
    obtain ⟨ec, ed⟩ := ends_e hc hd vc
    have vn := neg_vI hc hd vc
    have s1 := add_swap ha hc na nc (by omega) (by omega) (m := 1) (by omega)
    have s3 := add_swap hb hd nb nd (by omega) (by omega) (m := 3) (by omega)
    obtain ⟨m1, m2⟩ := mul_swap ha hb hc hd na nb nc nd
    have lc : pl (ngt c) < 18446744073709551616 := pl_lt (ngt_lt hc)
    have ld : pl (ngt d) < 18446744073709551616 := pl_lt (ngt_lt hd)
    obtain ⟨l1, l2, -, -, -, -⟩ := mlo_ok a b c d
    obtain ⟨l3, l4, -, -, -, -⟩ := mlo_ok a b a b
    have hR := fMax_lt (rdP_lt8 ha hb) (rdQ_lt8 ha hb)
    have o1 := ord_le (fMax (rdP a b) (rdQ a b)) 9218868437227405311 hR (by omega)
    have pk : pOk a b 2 = true := by unfold pOk; rw [va]; rfl
    have pl2 := pw_lt8L (n := 2) ha hb
    rw [pk] at pl2
    obtain ⟨nP, nQ⟩ := rd_nn ha hb va
    refine laws_1 a b c d (pl (fAdM a c 1)) (pl (fAdM b d 3)) (mlo a b c d) (mhi a b c d) (pl (ngt d)) (pl (ngt c)) (pl (fAdM a (pl (ngt d)) 1)) (pl (fAdM b (pl (ngt c)) 3)) (pwX a b 2) (pwY a b 2) (mlo a b a b) (mhi a b a b) (mdF a b) (fMax (rdP a b) (rdQ a b)) 0 0 0 0 (le (fMax (rdP a b) (rdQ a b)) 9218868437227405311) (tS (tF (mdF a b)) (tNeg (tF (fMax (rdP a b) (rdQ a b))))) (tS (tF (mdF a b)) (tF (fMax (rdP a b) (rdQ a b)))) w o1 ?_ ?_ ?_ ?_ ?_ ?_ ?_ ?_ ?_ ?_ ?_ hw ?_ ?_ ?_ ?_ ?_ ?_ ?_ ?_ ?_
    · intro W h
      have k := sadd a b c d W ha hb hc hd (hT.later h) (Tab.later hJ h)
      rw [hv] at k; exact k
    · intro W h
      have k := sadd c d a b W hc hd ha hb (hT.later h) (Tab.later hJ h)
      rw [hv2, ← s1, ← s3] at k; exact k
    · intro W h
      have k := smul a b c d ha hb hc hd W (hT.later h) (Tab.later hJ h)
      rw [hv] at k; exact k
    · intro W h
      have k := smul c d a b hc hd ha hb W (hT.later h) (Tab.later hJ h)
      rw [hv2, ← m1, ← m2] at k; exact k
    · intro W h
      have k := sneg c d W hc hd
      rw [vc] at k; exact k
    · intro W h
      have k := sadd a b (pl (ngt d)) (pl (ngt c)) W ha hb ld lc (hT.later h) (Tab.later hJ h)
      rw [va, vn] at k; exact k
    · intro W h
      have k := ssub a b c d W ha hb hc hd (hT.later h) (Tab.later hJ h)
      rw [hv] at k; exact k
    · intro W h
      have k := spow a b 2 W ha hb (hT.later h) (Tab.later hJ h)
      rw [pk] at k; exact k
    · intro W h
      have k := smul a b a b ha hb ha hb W (hT.later h) (Tab.later hJ h)
      rw [va] at k; exact k
    · exact fun W h => same8 _ _ (pl_lt (fAdM_lt ha hc (by omega))) (pl_lt (fAdM_lt hb hd (by omega))) W
    · exact fun W h => same8 _ _ l1 l2 W
    · exact fun W h => same8 _ _ (pl_lt (fAdM_lt ha ld (by omega))) (pl_lt (fAdM_lt hb lc (by omega))) W
    · intro W h
      have k := swithin (pwX a b 2) (pwY a b 2) (mlo a b a b) (mhi a b a b) pl2.1 pl2.2 l3 l4 W
      rw [sq_within ha hb va] at k; exact k
    · intro W h
      have k := smid a b ha hb W (hT.later h) (Tab.later hJ h)
      rw [midV_eq, va] at k; exact k
    · intro W h
      have k := srad a b ha hb W (hT.later h) (Tab.later hJ h) (fun _ => nP) (fun _ => nQ)
      rw [va] at k; exact k
    · intro hbb W z hz
      obtain ⟨-, -, -, -, hl, -, -⟩ := around8 ha hb va hbb
      have hzl : z < 18446744073709551616 := by
        rcases hz with rfl | rfl | rfl | rfl
        · exact mdF_lt a b
        · exact hl
        · exact ha
        · exact hb
      refine (float_dn z hzl W).mono ?_
      rintro r w' ⟨A, rfl, h, hb'⟩
      have h' := h
      obtain ⟨ao, cap, rfl, -⟩ := h'
      exact ⟨_, _, _, _, _, rfl, h, hb'⟩
    · intro hbb W X Y h1 h2
      have k := less8_dn (tF_ok _) (tF_ok _) h1 h2
      rw [tD8_eq (tF_ok _)] at k
      exact k
    · exact fun hbb W X Y h1 h2 => plus_dn (tF_ok _) (tF_ok _) h1 h2
    · intro hbb W X Y h1 h2
      obtain ⟨-, -, -, -, -, q1, q2⟩ := around8 ha hb va hbb
      have ot := S8_ok (E8_tF (mdF a b)) (E8_neg (E8_tF (fMax (rdP a b) (rdQ a b))))
      refine (dorder ot (tF_ok a) h1 h2).mono ?_
      rintro r w' ⟨rfl, hb'⟩
      refine ⟨_, rfl, ?_, hb'⟩
      rw [ord_V8 ot (tF_ok a)]
      refine cmpI_le8 ?_
      rw [V8_sum (E8_tF _) (E8_neg (E8_tF _)), V8_neg]
      omega
    · intro hbb W X Y h1 h2
      obtain ⟨-, -, -, -, -, q1, q2⟩ := around8 ha hb va hbb
      have ot := S8_ok (E8_tF (mdF a b)) (E8_tF (fMax (rdP a b) (rdQ a b)))
      refine (dorder ot (tF_ok b) h1 h2).mono ?_
      rintro r w' ⟨rfl, hb'⟩
      refine ⟨_, rfl, ?_, hb'⟩
      rw [ord_V8 ot (tF_ok b)]
      refine cmpI_ge8 ?_
      rw [V8_sum (E8_tF _) (E8_tF _)]
      omega
  · have hv0 : (vI a b && vI c d) = false := by cases h : (vI a b && vI c d) <;> simp_all
    have hv2 : (vI c d && vI a b) = false := by rw [Bool.and_comm]; exact hv0
    have z : (0 : Nat) < 18446744073709551616 := by omega
    have n1 : (if vI c d then pl (ngt d) else 0) < 18446744073709551616 := or_lt8 (pl_lt (ngt_lt hd))
    have n2 : (if vI c d then pl (ngt c) else 0) < 18446744073709551616 := or_lt8 (pl_lt (ngt_lt hc))
    obtain ⟨x4, y4, f3, k6⟩ : ∃ (x y : Nat) (f : Int), ∀ W, Below w.heap.size w W → Calls Tryz.prog 20 #[.agg #[.float .f64 a, .float .f64 b], .agg #[.float .f64 (if vI c d then pl (ngt d) else 0), .float .f64 (if vI c d then pl (ngt c) else 0)]] W fun r w' => r = .returned (.tuple #[.agg #[.float .f64 x, .float .f64 y], .int .i64 f]) ∧ Below W.heap.size W w' := ⟨_, _, _, fun W h => by
      have k := sadd a b (if vI c d then pl (ngt d) else 0) (if vI c d then pl (ngt c) else 0) W ha hb n1 n2 (hT.later h) (Tab.later hJ h)
      rw [orV_i8] at k; exact k⟩
    obtain ⟨x7, y7, f4, k7⟩ : ∃ (x y : Nat) (f : Int), ∀ W, Below w.heap.size w W → Calls Tryz.prog 24 #[.agg #[.float .f64 a, .float .f64 b], .agg #[.float .f64 c, .float .f64 d]] W fun r w' => r = .returned (.tuple #[.agg #[.float .f64 x, .float .f64 y], .int .i64 f]) ∧ Below W.heap.size W w' := ⟨_, _, _, fun W h => by
      have k := ssub a b c d W ha hb hc hd (hT.later h) (Tab.later hJ h)
      rw [orV_i8] at k; exact k⟩
    obtain ⟨x5, y5, f5, k8⟩ : ∃ (x y : Nat) (f : Int), ∀ W, Below w.heap.size w W → Calls Tryz.prog 14 #[.agg #[.float .f64 a, .float .f64 b], .int .i64 2] W fun r w' => r = .returned (.tuple #[.agg #[.float .f64 x, .float .f64 y], .int .i64 f]) ∧ Below W.heap.size W w' := ⟨_, _, _, fun W h => spow a b 2 W ha hb (hT.later h) (Tab.later hJ h)⟩
    obtain ⟨x6, y6, f6, k9⟩ : ∃ (x y : Nat) (f : Int), ∀ W, Below w.heap.size w W → Calls Tryz.prog 8 #[.agg #[.float .f64 a, .float .f64 b], .agg #[.float .f64 a, .float .f64 b]] W fun r w' => r = .returned (.tuple #[.agg #[.float .f64 x, .float .f64 y], .int .i64 f]) ∧ Below W.heap.size W w' := ⟨_, _, _, fun W h => by
      have k := smul a b a b ha hb ha hb W (hT.later h) (Tab.later hJ h)
      rw [orV_i8] at k; exact k⟩
    refine laws_no a b c d 0 0 0 0 (if vI c d then pl (ngt d) else 0) (if vI c d then pl (ngt c) else 0) x4 y4 x5 y5 x6 y6 x7 y7 (if vI c d then 0 else 1) f3 f4 f5 f6 w ?_ ?_ ?_ ?_ ?_ k6 k7 k8 k9 (fun W h => same8 0 0 z z W) (fun W h => same8 0 0 z z W) hw
    · intro W h
      have k := sadd a b c d W ha hb hc hd (hT.later h) (Tab.later hJ h)
      rw [hv0] at k; exact k
    · intro W h
      have k := sadd c d a b W hc hd ha hb (hT.later h) (Tab.later hJ h)
      rw [hv2] at k; exact k
    · intro W h
      have k := smul a b c d ha hb hc hd W (hT.later h) (Tab.later hJ h)
      rw [hv0] at k; exact k
    · intro W h
      have k := smul c d a b hc hd ha hb W (hT.later h) (Tab.later hJ h)
      rw [hv2] at k; exact k
    · intro W h
      have k := sneg c d W hc hd
      rw [orV_i8] at k; exact k
end Go.Proofs.YtcoclopllbfjcaaGreatDoor
