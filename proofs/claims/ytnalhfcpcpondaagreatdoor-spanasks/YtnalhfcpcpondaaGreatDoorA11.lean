/- Own work: contracts of the program's functions, part 11: SNH. -/
import Derived.Test.YtnalhfcpcpondaaGreatDoorA10

/- SpanAsks. -/
namespace Go.Proofs.YtnalhfcpcpondaaGreatDoor
set_option linter.unusedVariables false
set_option linter.unusedSimpArgs false
open Go.RowKit Go.Fl64
attribute [local go_sem] run_store_flt

set_option maxHeartbeats 16000000 in
set_option maxRecDepth 200000 in
theorem asks_1 (a b c d f x y x2 y2 : Nat) (p q t : Bool) (e : Int) (w : World)
    (k1 : ∀ W, Below w.heap.size w W → Calls Tryz.prog 8 #[.agg #[.float .f64 a, .float .f64 b], .agg #[.float .f64 c, .float .f64 d]] W fun r w' => r = .returned (.tuple #[.agg #[.float .f64 x, .float .f64 y], .bool t]) ∧ Below W.heap.size W w')
    (k2 : ∀ W, Below w.heap.size w W → Calls Tryz.prog 9 #[.agg #[.float .f64 a, .float .f64 b], .agg #[.float .f64 c, .float .f64 d]] W fun r w' => r = .returned (.tuple #[.agg #[.float .f64 x, .float .f64 y], .bool t]) ∧ Below W.heap.size W w')
    (k3 : ∀ W, Below w.heap.size w W → Calls Tryz.prog 10 #[.agg #[.float .f64 a, .float .f64 b], .agg #[.float .f64 c, .float .f64 d]] W fun r w' => r = .returned (.tuple #[.agg #[.float .f64 x2, .float .f64 y2], .int .i64 e]) ∧ Below W.heap.size W w')
    (k4 : ∀ W, Below w.heap.size w W → Calls Tryz.prog 11 #[.agg #[.float .f64 a, .float .f64 b], .agg #[.float .f64 c, .float .f64 d]] W fun r w' => r = .returned (.tuple #[.agg #[.float .f64 x2, .float .f64 y2], .int .i64 e]) ∧ Below W.heap.size W w')
    (m1 : ∀ W, Below w.heap.size w W → Calls Tryz.prog 12 #[.agg #[.float .f64 a, .float .f64 b], .float .f64 f] W fun r w' => r = .returned (.bool p) ∧ Below W.heap.size W w')
    (m2 : ∀ W, Below w.heap.size w W → Calls Tryz.prog 13 #[.agg #[.float .f64 a, .float .f64 b], .float .f64 f] W fun r w' => r = .returned (.bool p) ∧ Below W.heap.size W w')
    (m3 : ∀ W, Below w.heap.size w W → Calls Tryz.prog 14 #[.agg #[.float .f64 a, .float .f64 b], .agg #[.float .f64 c, .float .f64 d]] W fun r w' => r = .returned (.bool q) ∧ Below W.heap.size W w')
    (m4 : ∀ W, Below w.heap.size w W → Calls Tryz.prog 15 #[.agg #[.float .f64 a, .float .f64 b], .agg #[.float .f64 c, .float .f64 d]] W fun r w' => r = .returned (.bool q) ∧ Below W.heap.size W w')
    (m5 : ∀ W, Below w.heap.size w W → Calls Tryz.prog 16 #[.agg #[.float .f64 x, .float .f64 y], .agg #[.float .f64 x, .float .f64 y]] W fun r w' => r = .returned (.bool true) ∧ Below W.heap.size W w')
    (m6 : ∀ W, Below w.heap.size w W → Calls Tryz.prog 16 #[.agg #[.float .f64 x2, .float .f64 y2], .agg #[.float .f64 x2, .float .f64 y2]] W fun r w' => r = .returned (.bool true) ∧ Below W.heap.size W w')
    (m7 : ∀ W, Below w.heap.size w W → Calls Tryz.prog 17 #[] W fun r w' => r = .returned (.bool true) ∧ Below W.heap.size W w') :
    Calls Tryz.prog 3 #[.agg #[.float .f64 a, .float .f64 b], .agg #[.float .f64 c, .float .f64 d], .float .f64 f] w fun r w' => r = .returned (.bool true) ∧ Below w.heap.size w w' := by
  have fp : (p == p) = true := by simp
  have fq : (q == q) = true := by simp
  have ft : (t == t) = true := by simp
  have fe : (e == e) = true := by simp
  have Hk1 : Hid (∀ W, Below w.heap.size w W → Calls Tryz.prog 8 #[.agg #[.float .f64 a, .float .f64 b], .agg #[.float .f64 c, .float .f64 d]] W fun r w' => r = .returned (.tuple #[.agg #[.float .f64 x, .float .f64 y], .bool t]) ∧ Below W.heap.size W w') := k1
  have Hk2 : Hid (∀ W, Below w.heap.size w W → Calls Tryz.prog 9 #[.agg #[.float .f64 a, .float .f64 b], .agg #[.float .f64 c, .float .f64 d]] W fun r w' => r = .returned (.tuple #[.agg #[.float .f64 x, .float .f64 y], .bool t]) ∧ Below W.heap.size W w') := k2
  have Hk3 : Hid (∀ W, Below w.heap.size w W → Calls Tryz.prog 10 #[.agg #[.float .f64 a, .float .f64 b], .agg #[.float .f64 c, .float .f64 d]] W fun r w' => r = .returned (.tuple #[.agg #[.float .f64 x2, .float .f64 y2], .int .i64 e]) ∧ Below W.heap.size W w') := k3
  have Hk4 : Hid (∀ W, Below w.heap.size w W → Calls Tryz.prog 11 #[.agg #[.float .f64 a, .float .f64 b], .agg #[.float .f64 c, .float .f64 d]] W fun r w' => r = .returned (.tuple #[.agg #[.float .f64 x2, .float .f64 y2], .int .i64 e]) ∧ Below W.heap.size W w') := k4
  have Hm1 : Hid (∀ W, Below w.heap.size w W → Calls Tryz.prog 12 #[.agg #[.float .f64 a, .float .f64 b], .float .f64 f] W fun r w' => r = .returned (.bool p) ∧ Below W.heap.size W w') := m1
  have Hm2 : Hid (∀ W, Below w.heap.size w W → Calls Tryz.prog 13 #[.agg #[.float .f64 a, .float .f64 b], .float .f64 f] W fun r w' => r = .returned (.bool p) ∧ Below W.heap.size W w') := m2
  have Hm3 : Hid (∀ W, Below w.heap.size w W → Calls Tryz.prog 14 #[.agg #[.float .f64 a, .float .f64 b], .agg #[.float .f64 c, .float .f64 d]] W fun r w' => r = .returned (.bool q) ∧ Below W.heap.size W w') := m3
  have Hm4 : Hid (∀ W, Below w.heap.size w W → Calls Tryz.prog 15 #[.agg #[.float .f64 a, .float .f64 b], .agg #[.float .f64 c, .float .f64 d]] W fun r w' => r = .returned (.bool q) ∧ Below W.heap.size W w') := m4
  have Hm5 : Hid (∀ W, Below w.heap.size w W → Calls Tryz.prog 16 #[.agg #[.float .f64 x, .float .f64 y], .agg #[.float .f64 x, .float .f64 y]] W fun r w' => r = .returned (.bool true) ∧ Below W.heap.size W w') := m5
  have Hm6 : Hid (∀ W, Below w.heap.size w W → Calls Tryz.prog 16 #[.agg #[.float .f64 x2, .float .f64 y2], .agg #[.float .f64 x2, .float .f64 y2]] W fun r w' => r = .returned (.bool true) ∧ Below W.heap.size W w') := m6
  have Hm7 : Hid (∀ W, Below w.heap.size w W → Calls Tryz.prog 17 #[] W fun r w' => r = .returned (.bool true) ∧ Below W.heap.size W w') := m7
  obtain ⟨W, hW⟩ : ∃ W, W = ((w.alloc (.cells #[.float .f64 a, .float .f64 b] 24)).alloc (.cells #[.float .f64 c, .float .f64 d] 24)) := ⟨_, rfl⟩
  have HX : Hid (Below w.heap.size w W ∧ IvB W (w.heap.size) a b ∧ IvB W (w.heap.size + 1) c d) := by
    rw [hW]
    exact ⟨bxs2_0 w a b c d, bxs2_1 w a b c d, bxs2_2 w a b c d⟩
  have HK : Hid (∀ w', Below W.heap.size W w' → IvF w' (w.heap.size) a b ∧ IvF w' (w.heap.size + 1) c d) := fun w' hb => ⟨(HX.out.2.1).later hb, (HX.out.2.2).later hb⟩
  have AW : Hid (Below w.heap.size w W) := HX.out.1
  have BW_W : Hid (Below W.heap.size W W) := Below.refl _ _
  clear k1 k2 k3 k4 m1 m2 m3 m4 m5 m6 m7
  go_enter Tryz.func3, Tryz.ntmps3
  go_upto_region 1 with fail
  rw [← hW]
  clear hW
  obtain ⟨⟨c0, c1, z0, z1⟩, ⟨c2, c3, z2, z3⟩⟩ := HK.out W BW_W.out
  clear z0 z1 z2 z3
  have kk := Hk1.out W AW.out
  clear Hk1
  go_wp2_with fail
  clear c0 c1 c2 c3
  refine kk.mono ?_
  rintro r w1 ⟨rfl, hb⟩
  clear kk
  have Aw1 : Hid (Below w.heap.size w w1) := AW.out.trans (hb.mono AW.out.size)
  have BW_w1 : Hid (Below W.heap.size W w1) := BW_W.out.trans (hb.mono BW_W.out.size)
  clear hb AW BW_W 
  obtain ⟨V1, hV1⟩ : ∃ V, V = w1.alloc (.cells #[.float .f64 x, .float .f64 y] 24) := ⟨_, rfl⟩
  have AV1 : Hid (Below w.heap.size w V1) := by rw [hV1]; exact Aw1.out.alloc Aw1.out.size _
  have BW_V1 : Hid (Below W.heap.size W V1) := by rw [hV1]; exact BW_w1.out.alloc BW_w1.out.size _
  have XV1 : Hid (IvB V1 w1.heap.size x y) := by rw [hV1]; exact IvB.new _ _ _
  have BV1_V1 : Hid (Below V1.heap.size V1 V1) := Below.refl _ _
  clear Aw1 BW_w1 
  obtain ⟨⟨c0, c1, z0, z1⟩, ⟨c2, c3, z2, z3⟩⟩ := HK.out V1 BW_V1.out
  rw [hV1] at c0 c1 c2 c3
  clear z0 z1 z2 z3
  have kk := Hk2.out V1 AV1.out
  clear Hk2
  go_wp2_with fail
  rw [← hV1]
  clear hV1
  generalize hgV1 : w1.heap.size = gV1 at *
  clear hgV1
  clear c0 c1 c2 c3
  refine kk.mono ?_
  rintro r w2 ⟨rfl, hb⟩
  clear kk
  have Aw2 : Hid (Below w.heap.size w w2) := AV1.out.trans (hb.mono AV1.out.size)
  have BW_w2 : Hid (Below W.heap.size W w2) := BW_V1.out.trans (hb.mono BW_V1.out.size)
  have BV1_w2 : Hid (Below V1.heap.size V1 w2) := BV1_V1.out.trans (hb.mono BV1_V1.out.size)
  clear hb AV1 BW_V1 BV1_V1
  obtain ⟨V2, hV2⟩ : ∃ V, V = w2.alloc (.cells #[.float .f64 x, .float .f64 y] 24) := ⟨_, rfl⟩
  have AV2 : Hid (Below w.heap.size w V2) := by rw [hV2]; exact Aw2.out.alloc Aw2.out.size _
  have BW_V2 : Hid (Below W.heap.size W V2) := by rw [hV2]; exact BW_w2.out.alloc BW_w2.out.size _
  have XV2 : Hid (IvB V2 w2.heap.size x y) := by rw [hV2]; exact IvB.new _ _ _
  have BV1_V2 : Hid (Below V1.heap.size V1 V2) := by rw [hV2]; exact BV1_w2.out.alloc BV1_w2.out.size _
  have BV2_V2 : Hid (Below V2.heap.size V2 V2) := Below.refl _ _
  clear Aw2 BW_w2 BV1_w2
  obtain ⟨⟨c0, c1, z0, z1⟩, ⟨c2, c3, z2, z3⟩⟩ := HK.out V2 BW_V2.out
  rw [hV2] at c0 c1 c2 c3
  clear z0 z1 z2 z3
  have kk := Hk3.out V2 AV2.out
  clear Hk3
  go_wp2_with fail
  rw [← hV2]
  clear hV2
  generalize hgV2 : w2.heap.size = gV2 at *
  clear hgV2
  clear c0 c1 c2 c3
  refine kk.mono ?_
  rintro r w3 ⟨rfl, hb⟩
  clear kk
  have Aw3 : Hid (Below w.heap.size w w3) := AV2.out.trans (hb.mono AV2.out.size)
  have BW_w3 : Hid (Below W.heap.size W w3) := BW_V2.out.trans (hb.mono BW_V2.out.size)
  have BV1_w3 : Hid (Below V1.heap.size V1 w3) := BV1_V2.out.trans (hb.mono BV1_V2.out.size)
  have BV2_w3 : Hid (Below V2.heap.size V2 w3) := BV2_V2.out.trans (hb.mono BV2_V2.out.size)
  clear hb AV2 BW_V2 BV1_V2 BV2_V2
  obtain ⟨V3, hV3⟩ : ∃ V, V = w3.alloc (.cells #[.float .f64 x2, .float .f64 y2] 24) := ⟨_, rfl⟩
  have AV3 : Hid (Below w.heap.size w V3) := by rw [hV3]; exact Aw3.out.alloc Aw3.out.size _
  have BW_V3 : Hid (Below W.heap.size W V3) := by rw [hV3]; exact BW_w3.out.alloc BW_w3.out.size _
  have XV3 : Hid (IvB V3 w3.heap.size x2 y2) := by rw [hV3]; exact IvB.new _ _ _
  have BV1_V3 : Hid (Below V1.heap.size V1 V3) := by rw [hV3]; exact BV1_w3.out.alloc BV1_w3.out.size _
  have BV2_V3 : Hid (Below V2.heap.size V2 V3) := by rw [hV3]; exact BV2_w3.out.alloc BV2_w3.out.size _
  have BV3_V3 : Hid (Below V3.heap.size V3 V3) := Below.refl _ _
  clear Aw3 BW_w3 BV1_w3 BV2_w3
  obtain ⟨⟨c0, c1, z0, z1⟩, ⟨c2, c3, z2, z3⟩⟩ := HK.out V3 BW_V3.out
  rw [hV3] at c0 c1 c2 c3
  clear z0 z1 z2 z3
  have kk := Hk4.out V3 AV3.out
  clear Hk4
  go_wp2_with fail
  rw [← hV3]
  clear hV3
  generalize hgV3 : w3.heap.size = gV3 at *
  clear hgV3
  clear c0 c1 c2 c3
  refine kk.mono ?_
  rintro r w4 ⟨rfl, hb⟩
  clear kk
  have Aw4 : Hid (Below w.heap.size w w4) := AV3.out.trans (hb.mono AV3.out.size)
  have BW_w4 : Hid (Below W.heap.size W w4) := BW_V3.out.trans (hb.mono BW_V3.out.size)
  have BV1_w4 : Hid (Below V1.heap.size V1 w4) := BV1_V3.out.trans (hb.mono BV1_V3.out.size)
  have BV2_w4 : Hid (Below V2.heap.size V2 w4) := BV2_V3.out.trans (hb.mono BV2_V3.out.size)
  have BV3_w4 : Hid (Below V3.heap.size V3 w4) := BV3_V3.out.trans (hb.mono BV3_V3.out.size)
  clear hb AV3 BW_V3 BV1_V3 BV2_V3 BV3_V3
  obtain ⟨V4, hV4⟩ : ∃ V, V = w4.alloc (.cells #[.float .f64 x2, .float .f64 y2] 24) := ⟨_, rfl⟩
  have AV4 : Hid (Below w.heap.size w V4) := by rw [hV4]; exact Aw4.out.alloc Aw4.out.size _
  have BW_V4 : Hid (Below W.heap.size W V4) := by rw [hV4]; exact BW_w4.out.alloc BW_w4.out.size _
  have XV4 : Hid (IvB V4 w4.heap.size x2 y2) := by rw [hV4]; exact IvB.new _ _ _
  have BV1_V4 : Hid (Below V1.heap.size V1 V4) := by rw [hV4]; exact BV1_w4.out.alloc BV1_w4.out.size _
  have BV2_V4 : Hid (Below V2.heap.size V2 V4) := by rw [hV4]; exact BV2_w4.out.alloc BV2_w4.out.size _
  have BV3_V4 : Hid (Below V3.heap.size V3 V4) := by rw [hV4]; exact BV3_w4.out.alloc BV3_w4.out.size _
  have BV4_V4 : Hid (Below V4.heap.size V4 V4) := Below.refl _ _
  clear Aw4 BW_w4 BV1_w4 BV2_w4 BV3_w4
  go_upto_region 5 with fail
  rw [← hV4]
  clear hV4
  generalize hgV4 : w4.heap.size = gV4 at *
  clear hgV4
  have HKK : Hid (∀ w', Below V4.heap.size V4 w' → w'.cell? ⟨w.heap.size, 0, none⟩ = some (.float .f64 a) ∧ w'.cell? ⟨w.heap.size, 1, none⟩ = some (.float .f64 b) ∧ w'.cell? ⟨w.heap.size + 1, 0, none⟩ = some (.float .f64 c) ∧ w'.cell? ⟨w.heap.size + 1, 1, none⟩ = some (.float .f64 d) ∧ w'.cell? ⟨gV1, 0, none⟩ = some (.float .f64 x) ∧ w'.cell? ⟨gV1, 1, none⟩ = some (.float .f64 y) ∧ w'.cell? ⟨gV2, 0, none⟩ = some (.float .f64 x) ∧ w'.cell? ⟨gV2, 1, none⟩ = some (.float .f64 y) ∧ w'.cell? ⟨gV3, 0, none⟩ = some (.float .f64 x2) ∧ w'.cell? ⟨gV3, 1, none⟩ = some (.float .f64 y2) ∧ w'.cell? ⟨gV4, 0, none⟩ = some (.float .f64 x2) ∧ w'.cell? ⟨gV4, 1, none⟩ = some (.float .f64 y2) ∧ Below V4.heap.size V4 w') := fun w' hb => ⟨(HK.out w' (BW_V4.out.trans (hb.mono BW_V4.out.size))).1.1, (HK.out w' (BW_V4.out.trans (hb.mono BW_V4.out.size))).1.2.1, (HK.out w' (BW_V4.out.trans (hb.mono BW_V4.out.size))).2.1, (HK.out w' (BW_V4.out.trans (hb.mono BW_V4.out.size))).2.2.1, (XV1.out.later (BV1_V4.out.trans (hb.mono BV1_V4.out.size))).1, (XV1.out.later (BV1_V4.out.trans (hb.mono BV1_V4.out.size))).2.1, (XV2.out.later (BV2_V4.out.trans (hb.mono BV2_V4.out.size))).1, (XV2.out.later (BV2_V4.out.trans (hb.mono BV2_V4.out.size))).2.1, (XV3.out.later (BV3_V4.out.trans (hb.mono BV3_V4.out.size))).1, (XV3.out.later (BV3_V4.out.trans (hb.mono BV3_V4.out.size))).2.1, (XV4.out.later (BV4_V4.out.trans (hb.mono BV4_V4.out.size))).1, (XV4.out.later (BV4_V4.out.trans (hb.mono BV4_V4.out.size))).2.1, hb⟩
  have hBR : Below V4.heap.size V4 V4.drew := (Below.refl _ _).drew
  have q1 : ∀ W, Below V4.heap.size V4 W → Calls Tryz.prog 12 #[.agg #[.float .f64 a, .float .f64 b], .float .f64 f] W fun r w' => r = .returned (.bool p) ∧ Below V4.heap.size V4 w' := fun W h => (Hm1.out W (AV4.out.trans (h.mono AV4.out.size))).mono fun r w' ⟨e1, e2⟩ => ⟨e1, h.trans (e2.mono h.size)⟩
  have q2 : ∀ W, Below V4.heap.size V4 W → Calls Tryz.prog 13 #[.agg #[.float .f64 a, .float .f64 b], .float .f64 f] W fun r w' => r = .returned (.bool p) ∧ Below V4.heap.size V4 w' := fun W h => (Hm2.out W (AV4.out.trans (h.mono AV4.out.size))).mono fun r w' ⟨e1, e2⟩ => ⟨e1, h.trans (e2.mono h.size)⟩
  have q3 : ∀ W, Below V4.heap.size V4 W → Calls Tryz.prog 14 #[.agg #[.float .f64 a, .float .f64 b], .agg #[.float .f64 c, .float .f64 d]] W fun r w' => r = .returned (.bool q) ∧ Below V4.heap.size V4 w' := fun W h => (Hm3.out W (AV4.out.trans (h.mono AV4.out.size))).mono fun r w' ⟨e1, e2⟩ => ⟨e1, h.trans (e2.mono h.size)⟩
  have q4 : ∀ W, Below V4.heap.size V4 W → Calls Tryz.prog 15 #[.agg #[.float .f64 a, .float .f64 b], .agg #[.float .f64 c, .float .f64 d]] W fun r w' => r = .returned (.bool q) ∧ Below V4.heap.size V4 w' := fun W h => (Hm4.out W (AV4.out.trans (h.mono AV4.out.size))).mono fun r w' ⟨e1, e2⟩ => ⟨e1, h.trans (e2.mono h.size)⟩
  have q5 : ∀ W, Below V4.heap.size V4 W → Calls Tryz.prog 16 #[.agg #[.float .f64 x, .float .f64 y], .agg #[.float .f64 x, .float .f64 y]] W fun r w' => r = .returned (.bool true) ∧ Below V4.heap.size V4 w' := fun W h => (Hm5.out W (AV4.out.trans (h.mono AV4.out.size))).mono fun r w' ⟨e1, e2⟩ => ⟨e1, h.trans (e2.mono h.size)⟩
  have q6 : ∀ W, Below V4.heap.size V4 W → Calls Tryz.prog 16 #[.agg #[.float .f64 x2, .float .f64 y2], .agg #[.float .f64 x2, .float .f64 y2]] W fun r w' => r = .returned (.bool true) ∧ Below V4.heap.size V4 w' := fun W h => (Hm6.out W (AV4.out.trans (h.mono AV4.out.size))).mono fun r w' ⟨e1, e2⟩ => ⟨e1, h.trans (e2.mono h.size)⟩
  have q7 : ∀ W, Below V4.heap.size V4 W → Calls Tryz.prog 17 #[] W fun r w' => r = .returned (.bool true) ∧ Below V4.heap.size V4 w' := fun W h => (Hm7.out W (AV4.out.trans (h.mono AV4.out.size))).mono fun r w' ⟨e1, e2⟩ => ⟨e1, h.trans (e2.mono h.size)⟩
  clear Hm1 Hm2 Hm3 Hm4 Hm5 Hm6 Hm7 XV1 BV1_V4 XV2 BV2_V4 XV3 BV3_V4 XV4 BV4_V4 HX HK BW_V4
  obtain ⟨a0, a1, a2, a3, a4, a5, a6, a7, a8, a9, a10, a11, -⟩ := HKK.out V4 (Below.refl _ _)
  go_region_held3 (fun w' => w'.cell? ⟨w.heap.size, 0, none⟩ = some (.float .f64 a) ∧ w'.cell? ⟨w.heap.size, 1, none⟩ = some (.float .f64 b) ∧ w'.cell? ⟨w.heap.size + 1, 0, none⟩ = some (.float .f64 c) ∧ w'.cell? ⟨w.heap.size + 1, 1, none⟩ = some (.float .f64 d) ∧ w'.cell? ⟨gV1, 0, none⟩ = some (.float .f64 x) ∧ w'.cell? ⟨gV1, 1, none⟩ = some (.float .f64 y) ∧ w'.cell? ⟨gV2, 0, none⟩ = some (.float .f64 x) ∧ w'.cell? ⟨gV2, 1, none⟩ = some (.float .f64 y) ∧ w'.cell? ⟨gV3, 0, none⟩ = some (.float .f64 x2) ∧ w'.cell? ⟨gV3, 1, none⟩ = some (.float .f64 y2) ∧ w'.cell? ⟨gV4, 0, none⟩ = some (.float .f64 x2) ∧ w'.cell? ⟨gV4, 1, none⟩ = some (.float .f64 y2) ∧ Below V4.heap.size V4 w') (first | (with_reducible assumption) | exact HKK.out _ hBR | (refine HKK.out _ ?_; with_reducible assumption) | go_keep)
    (first | (go_at_call 12; with_reducible refine (q1 _ (by first | (with_reducible assumption) | exact hBR)).mono ?_; rintro r wz ⟨rfl, hbz⟩)
           | (go_at_call 13; with_reducible refine (q2 _ (by first | (with_reducible assumption) | exact hBR)).mono ?_; rintro r wz ⟨rfl, hbz⟩)
           | (go_at_call 14; with_reducible refine (q3 _ (by first | (with_reducible assumption) | exact hBR)).mono ?_; rintro r wz ⟨rfl, hbz⟩)
           | (go_at_call 15; with_reducible refine (q4 _ (by first | (with_reducible assumption) | exact hBR)).mono ?_; rintro r wz ⟨rfl, hbz⟩)
           | (go_at_call 16; with_reducible refine (q5 _ (by first | (with_reducible assumption) | exact hBR)).mono ?_; rintro r wz ⟨rfl, hbz⟩)
           | (go_at_call 16; with_reducible refine (q6 _ (by first | (with_reducible assumption) | exact hBR)).mono ?_; rintro r wz ⟨rfl, hbz⟩)
           | (go_at_call 17; with_reducible refine (q7 _ (by first | (with_reducible assumption) | exact hBR)).mono ?_; rintro r wz ⟨rfl, hbz⟩))
  have HF : Hid (Below w.heap.size w wz) := AV4.out.trans (hbz.mono AV4.out.size)
  clear q1 q2 q3 q4 q5 q6 q7 HKK hBR a0 a1 a2 a3 a4 a5 a6 a7 a8 a9 a10 a11 hbz
  go_wp2_with fail
  go_ret
  exact ⟨rfl, HF.out⟩
theorem orV_b (ok : Bool) (x y : Nat) : orV ok x y (.bool true) (.bool false) = .tuple #[.agg #[.float .f64 (if ok then x else 0), .float .f64 (if ok then y else 0)], .bool ok] := by
  unfold orV; cases ok <;> rfl
theorem orV_i (ok : Bool) (x y : Nat) : orV ok x y (.int .i64 0) (.int .i64 1) = .tuple #[.agg #[.float .f64 (if ok then x else 0), .float .f64 (if ok then y else 0)], .int .i64 (if ok then 0 else 1)] := by
  unfold orV; cases ok <;> rfl
theorem or_lt {ok : Bool} {x : Nat} (h : x < 18446744073709551616) : (if ok then x else 0) < 18446744073709551616 := by
  cases ok
  · rw [if_neg (by simp)]; omega
  · exact h
/-- SpanAsks answers true -/
theorem spanAsks_ok (a b c d f : Nat) (w : World) (ha : a < 18446744073709551616) (hb : b < 18446744073709551616) (hc : c < 18446744073709551616) (hd : d < 18446744073709551616) (hf : f < 18446744073709551616) (hT : Tab32 w) (hJ : Ie.Tab w) :
    Calls Tryz.prog 3 #[.agg #[.float .f64 a, .float .f64 b], .agg #[.float .f64 c, .float .f64 d], .float .f64 f] w fun r w' => r = .returned (.bool true) ∧ Below w.heap.size w w' :=
  asks_1 a b c d f _ _ _ _ _ _ _ _ w
    (fun W _ => by have k := smeet a b c d ha hb hc hd W; rw [orV_b] at k; exact k)
    (fun W _ => by have k := dmeet a b c d ha hb hc hd W; rw [orV_b] at k; exact k)
    (fun W _ => by have k := shull a b c d ha hb hc hd W; rw [orV_i] at k; exact k)
    (fun W _ => by have k := dhull a b c d ha hb hc hd W; rw [orV_i] at k; exact k)
    (fun W _ => shas a b f ha hb hf W) (fun W _ => dhas a b f ha hb hf W) (fun W _ => swithin a b c d ha hb hc hd W) (fun W _ => dwithin a b c d ha hb hc hd W)
    (fun W _ => isame _ _ (or_lt (fMax_lt ha hc)) (or_lt (fMin_lt hb hd)) W) (fun W _ => isame _ _ (or_lt (fMin_lt ha hc)) (or_lt (fMax_lt hb hd)) W) (fun W h => works8 W (hT.later h) (Tab.later hJ h))
end Go.Proofs.YtnalhfcpcpondaaGreatDoor
