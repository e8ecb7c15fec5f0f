/- Own work: contracts of the program's functions, part 9: SN8 SN9 SNB SNC SB1 SB2 SB3. -/
import Derived.Test.YtnalhfcpcpondaaGreatDoorA8
import Derived.Test.YtnalhfcpcpondaaGreatDoorA7
import Derived.Test.YtnalhfcpcpondaaGreatDoorA4

/- Meet and Hull on both sides. -/
namespace Go.Proofs.YtnalhfcpcpondaaGreatDoor
set_option linter.unusedVariables false
set_option linter.unusedSimpArgs false
open Go.RowKit Go.Fl64
attribute [local go_sem] run_store_flt

/-- an interval and a word, or none -/
def orV (ok : Bool) (x y : Nat) (g h : Value) : Value := if ok then .tuple #[.agg #[.float .f64 x, .float .f64 y], g] else .tuple #[.agg #[.float .f64 0, .float .f64 0], h]
set_option maxHeartbeats 4000000 in
set_option maxRecDepth 200000 in
theorem smeet_1 (a b c d : Nat) (v : Bool) (w : World) (ha : a < 18446744073709551616) (hb : b < 18446744073709551616) (hc : c < 18446744073709551616) (hd : d < 18446744073709551616)
    (k1 : ∀ W g T, W.heap[g]? = some (.cells #[.float .f64 a, .float .f64 b, .float .f64 c, .float .f64 d] T (0, 0)) → Calls Tryz.prog 39 #[.slice (some ⟨g, 0, none⟩) 2 2] W fun r w' => r = .returned (.bool v) ∧ Below W.heap.size W w')
    (hv : v = true → (isNaN a = false ∧ isNaN b = false) ∧ (isNaN c = false ∧ isNaN d = false)) :
    Calls Tryz.prog 8 #[.agg #[.float .f64 a, .float .f64 b], .agg #[.float .f64 c, .float .f64 d]] w fun r w' => r = .returned (orV (v && !lt (fMin b d) (fMax a c)) (fMax a c) (fMin b d) (.bool true) (.bool false)) ∧ Below w.heap.size w w' := by
  have H1 : Hid (∀ W g T, W.heap[g]? = some (.cells #[.float .f64 a, .float .f64 b, .float .f64 c, .float .f64 d] T (0, 0)) → Calls Tryz.prog 39 #[.slice (some ⟨g, 0, none⟩) 2 2] W fun r w' => r = .returned (.bool v) ∧ Below W.heap.size W w') := k1
  obtain ⟨W, hW⟩ : ∃ W, W = (((w.alloc (.cells #[.float .f64 a, .float .f64 b] 24)).alloc (.cells #[.float .f64 c, .float .f64 d] 24)).alloc (.cells #[.float .f64 0, .float .f64 0] 24)) := ⟨_, rfl⟩
  have HX : Hid (Below w.heap.size w W ∧ IvB W (w.heap.size) a b ∧ IvB W (w.heap.size + 1) c d ∧ IvB W (w.heap.size + 1 + 1) 0 0) := by
    rw [hW]
    exact ⟨bxs3_0 w a b c d 0 0, bxs3_1 w a b c d 0 0, bxs3_2 w a b c d 0 0, bxs3_3 w a b c d 0 0⟩
  have HK : Hid (∀ w', Below W.heap.size W w' → IvF w' (w.heap.size) a b ∧ IvF w' (w.heap.size + 1) c d ∧ IvF w' (w.heap.size + 1 + 1) 0 0) := fun w' hb => ⟨(HX.out.2.1).later hb, (HX.out.2.2.1).later hb, (HX.out.2.2.2).later hb⟩
  obtain ⟨n1, W1, l1, r1, B1, e1⟩ := max_any a c ha hc W
  obtain ⟨n2, W2, l2, r2, B2, e2⟩ := min_any b d hb hd W1
  have o := ord_gt n1 n2 l1 l2
  have HE : Hid (v = true → n1 = fMax a c ∧ n2 = fMin b d) := fun h => ⟨e1 (hv h).1.1 (hv h).2.1, e2 (hv h).1.2 (hv h).2.2⟩
  have hB2 : Below W.heap.size W W2 := B1.trans (B2.mono B1.size)
  obtain ⟨⟨c0, c1, z0, z1⟩, ⟨c2, c3, z2, z3⟩, ⟨c4, c5, z4, z5⟩⟩ := HK.out W (Below.refl _ _)
  obtain ⟨⟨d0, d1, y0, y1⟩, ⟨d2, d3, y2, y3⟩, ⟨d4, d5, y4, y5⟩⟩ := HK.out W1 B1
  obtain ⟨W3, hW3⟩ : ∃ W3, W3 = W2.alloc (.cells #[.float .f64 n1, .float .f64 n2] 24) := ⟨_, rfl⟩
  have hB3 : Below W.heap.size W W3 := by rw [hW3]; exact hB2.alloc hB2.size _
  have HBX : Hid (IvB W3 W2.heap.size n1 n2) := by rw [hW3]; exact IvB.new _ _ _
  obtain ⟨⟨g0, g1, x0, x1⟩, ⟨g2, g3, x2, x3⟩, ⟨g4, g5, x4, x5⟩⟩ := HK.out W3 hB3
  have kk := H1.out (W3.alloc (.cells #[.float .f64 a, .float .f64 b, .float .f64 c, .float .f64 d] 24)) W3.heap.size _ (heap_alloc_new _ _)
  have HB3 : Hid (Below W.heap.size W W3) := hB3
  clear k1 hv e1 e2 l1 l2 B1 B2 hB2 hB3 ha hb hc hd H1
  go_enter Tryz.func8, Tryz.ntmps8
  go_upto_region 1 with fail
  rw [← hW]
  clear hW
  go_upto_region 2 with fail
  rw [← hW3]
  clear hW3 r1 r2
  clear c0 c1 c2 c3 c4 c5 z0 z1 z2 z3 z4 z5 d0 d1 d2 d3 d4 d5 y0 y1 y2 y3 y4 y5
  go_wp2_with fail
  refine kk.mono ?_
  rintro r w1 ⟨rfl, hb1⟩
  clear kk
  have hb2 : Below W3.heap.size W3 w1 := ((Below.refl _ _).alloc (Nat.le_refl _) _).trans (hb1.mono (by simp))
  have hb3 : Below W.heap.size W w1 := HB3.out.trans (hb2.mono HB3.out.size)
  clear g0 g1 g2 g3 g4 g5 x0 x1 x2 x3 x4 x5
  obtain ⟨⟨c0, c1, z0, z1⟩, ⟨c2, c3, z2, z3⟩, ⟨c4, c5, z4, z5⟩⟩ := HK.out w1 hb3
  obtain ⟨u0, u1, u2, u3⟩ := HBX.out.later hb2
  have HB : Hid (Below w.heap.size w w1) := HX.out.1.trans (hb3.mono HX.out.1.size)
  have HR : IvB w1 (w.heap.size + 1 + 1) 0 0 := HX.out.2.2.2.box hb3
  have HR : Hid (IvB w1 (w.heap.size + 1 + 1) 0 0) := HR
  clear hb1 hb2 hb3 HK HX HBX HB3
  cases v
  · go_wp2
    refine bodyPost_ret (results_cell_tmp_row rfl _ _ (w.heap.size + 1 + 1) 24 #[.float .f64 0, .float .f64 0] (0, 0) _ rfl (HR.out.set _ _) Tryz.underlying24 rfl iv_info) rfl ?_
    exact ⟨rfl, below_store2 HB.out (by omega) _ _⟩
  obtain ⟨rfl, rfl⟩ := HE.out rfl
  cases hq : lt (fMin b d) (fMax a c)
  · rw [hq] at o
    go_wp2
    refine bodyPost_ret (results_cell_tmp_row rfl _ _ (w.heap.size + 1 + 1) 24 #[.float .f64 (fMax a c), .float .f64 (fMin b d)] (0, 0) _ rfl (HR.out.set _ _) Tryz.underlying24 rfl iv_info) rfl ?_
    exact ⟨by rw [hq]; rfl, below_store2 HB.out (by omega) _ _⟩
  · rw [hq] at o
    go_wp2
    refine bodyPost_ret (results_cell_tmp_row rfl _ _ (w.heap.size + 1 + 1) 24 #[.float .f64 0, .float .f64 0] (0, 0) _ rfl (HR.out.set _ _) Tryz.underlying24 rfl iv_info) rfl ?_
    exact ⟨by rw [hq]; rfl, below_store2 HB.out (by omega) _ _⟩
set_option maxHeartbeats 4000000 in
set_option maxRecDepth 200000 in
theorem dhull_1 (a b c d n1 n2 : Nat) (u v : Bool) (w : World)
    (k1 : ∀ W, Calls Tryz.prog 40 #[.agg #[.float .f64 a, .float .f64 b]] W fun r w' => r = .returned (.bool u) ∧ Below W.heap.size W w')
    (k2 : ∀ W, Calls Tryz.prog 40 #[.agg #[.float .f64 c, .float .f64 d]] W fun r w' => r = .returned (.bool v) ∧ Below W.heap.size W w')
    (k3 : ∀ W, u = true → v = true → Calls Tryz.prog 42 #[.float .f64 a, .float .f64 c] W fun r w' => r = .returned (.float .f64 n1) ∧ w' = W)
    (k4 : ∀ W, u = true → v = true → Calls Tryz.prog 41 #[.float .f64 b, .float .f64 d] W fun r w' => r = .returned (.float .f64 n2) ∧ w' = W) :
    Calls Tryz.prog 11 #[.agg #[.float .f64 a, .float .f64 b], .agg #[.float .f64 c, .float .f64 d]] w fun r w' => r = .returned (orV (u && v) n1 n2 (.int .i64 0) (.int .i64 1)) ∧ Below w.heap.size w w' := by
  have H1 : Hid (∀ W, Calls Tryz.prog 40 #[.agg #[.float .f64 a, .float .f64 b]] W fun r w' => r = .returned (.bool u) ∧ Below W.heap.size W w') := k1
  have H2 : Hid (∀ W, Calls Tryz.prog 40 #[.agg #[.float .f64 c, .float .f64 d]] W fun r w' => r = .returned (.bool v) ∧ Below W.heap.size W w') := k2
  obtain ⟨W, hW⟩ : ∃ W, W = (((w.alloc (.cells #[.float .f64 a, .float .f64 b] 24)).alloc (.cells #[.float .f64 c, .float .f64 d] 24)).alloc (.cells #[.float .f64 0, .float .f64 0] 24)) := ⟨_, rfl⟩
  have HX : Hid (Below w.heap.size w W ∧ IvB W (w.heap.size) a b ∧ IvB W (w.heap.size + 1) c d ∧ IvB W (w.heap.size + 1 + 1) 0 0) := by
    rw [hW]
    exact ⟨bxs3_0 w a b c d 0 0, bxs3_1 w a b c d 0 0, bxs3_2 w a b c d 0 0, bxs3_3 w a b c d 0 0⟩
  have HK : Hid (∀ w', Below W.heap.size W w' → IvF w' (w.heap.size) a b ∧ IvF w' (w.heap.size + 1) c d ∧ IvF w' (w.heap.size + 1 + 1) 0 0) := fun w' hb => ⟨(HX.out.2.1).later hb, (HX.out.2.2.1).later hb, (HX.out.2.2.2).later hb⟩
  obtain ⟨⟨c0, c1, z0, z1⟩, ⟨c2, c3, z2, z3⟩, ⟨c4, c5, z4, z5⟩⟩ := HK.out W (Below.refl _ _)
  have H3 : Hid (∀ W, u = true → v = true → Calls Tryz.prog 42 #[.float .f64 a, .float .f64 c] W fun r w' => r = .returned (.float .f64 n1) ∧ w' = W) := k3
  have H4 : Hid (∀ W, u = true → v = true → Calls Tryz.prog 41 #[.float .f64 b, .float .f64 d] W fun r w' => r = .returned (.float .f64 n2) ∧ w' = W) := k4
  have kv := H1.out W
  clear k1 k2 k3 k4
  go_enter Tryz.func11, Tryz.ntmps11
  go_upto_region 1 with fail
  rw [← hW]
  clear hW
  go_wp2_with fail
  refine kv.mono ?_
  rintro r w1 ⟨rfl, hb1⟩
  clear kv H1 c0 c1 c2 c3 c4 c5 z0 z1 z2 z3 z4 z5
  obtain ⟨⟨c0, c1, z0, z1⟩, ⟨c2, c3, z2, z3⟩, ⟨c4, c5, z4, z5⟩⟩ := HK.out w1 hb1
  cases u
  · have HB : Hid (Below w.heap.size w w1) := HX.out.1.trans (hb1.mono HX.out.1.size)
    have HR : Hid (IvB w1 (w.heap.size + 1 + 1) 0 0) := HX.out.2.2.2.box hb1
    clear hb1 HK HX H2 H3 H4
    go_wp2
    refine bodyPost_ret (results_cell_tmp_row rfl _ _ (w.heap.size + 1 + 1) 24 #[.float .f64 0, .float .f64 0] (0, 0) _ rfl (HR.out.set _ _) Tryz.underlying24 rfl iv_info) rfl ?_
    exact ⟨rfl, below_store2 HB.out (by omega) _ _⟩
  have kv := H2.out w1
  have HB1 : Hid (Below W.heap.size W w1) := hb1
  clear hb1 H2
  go_wp2_with fail
  refine kv.mono ?_
  rintro r w2 ⟨rfl, hb2⟩
  have hb3 : Below W.heap.size W w2 := HB1.out.trans (hb2.mono HB1.out.size)
  clear kv c0 c1 c2 c3 c4 c5 z0 z1 z2 z3 z4 z5
  obtain ⟨⟨c0, c1, z0, z1⟩, ⟨c2, c3, z2, z3⟩, ⟨c4, c5, z4, z5⟩⟩ := HK.out w2 hb3
  have HB : Hid (Below w.heap.size w w2) := HX.out.1.trans (hb3.mono HX.out.1.size)
  have HR : Hid (IvB w2 (w.heap.size + 1 + 1) 0 0) := HX.out.2.2.2.box hb3
  cases v
  · clear hb2 hb3 HK HX HB1 H3 H4
    go_wp2
    refine bodyPost_ret (results_cell_tmp_row rfl _ _ (w.heap.size + 1 + 1) 24 #[.float .f64 0, .float .f64 0] (0, 0) _ rfl (HR.out.set _ _) Tryz.underlying24 rfl iv_info) rfl ?_
    exact ⟨rfl, below_store2 HB.out (by omega) _ _⟩
  have m3 := fun W => H3.out W (by simp) (by simp)
  have m4 := fun W => H4.out W (by simp) (by simp)
  have hR2 : Below w2.heap.size w2 w2.drew := (Below.refl _ _).drew
  have hb4 : Below W.heap.size W w2.drew := hb3.trans (hR2.mono hb3.size)
  have HR2 : Hid (IvB w2.drew (w.heap.size + 1 + 1) 0 0) := HX.out.2.2.2.box hb4
  have HB2 : Hid (Below w.heap.size w w2.drew) := HX.out.1.trans (hb4.mono HX.out.1.size)
  have HC : Hid (IvF w2.drew (w.heap.size) a b ∧ IvF w2.drew (w.heap.size + 1) c d ∧ IvF w2.drew (w.heap.size + 1 + 1) 0 0) := HK.out w2.drew hb4
  obtain ⟨⟨s0, s1, s2, s3⟩, ⟨s4, s5, s6, s7⟩, s8, s9, s10, s11⟩ := HC.out
  clear H3 H4 hb2 hb3 hb4 HB1 HX HK hR2
  go_upto_region 3 with fail
  go_region_held3 (fun w' => (w'.cell? ⟨w.heap.size, 0, none⟩ = some (.float .f64 a) ∧ w'.cell? ⟨w.heap.size, 1, none⟩ = some (.float .f64 b)) ∧ (w'.cell? ⟨w.heap.size + 1, 0, none⟩ = some (.float .f64 c) ∧ w'.cell? ⟨w.heap.size + 1, 1, none⟩ = some (.float .f64 d))) (first | (with_reducible assumption) | exact ⟨⟨s0, s1⟩, s4, s5⟩ | exact ⟨⟨c0, c1⟩, c2, c3⟩ | (refine ⟨⟨?_, ?_⟩, ?_, ?_⟩ <;> (change World.cell? (World.setCell (World.setCell _ _ _) _ _) _ = _; rw [World.cell?_setCell_other _ _ _ _ (by first | (simp; done) | (simp; omega)), World.cell?_setCell_other _ _ _ _ (by first | (simp; done) | (simp; omega))]; with_reducible assumption)) | go_keep)
    (first | (go_at_call 42; refine (m3 _).mono ?_; rintro r w' ⟨rfl, rfl⟩) | (go_at_call 41; refine (m4 _).mono ?_; rintro r w' ⟨rfl, rfl⟩))
  go_wp2_with fail
  refine bodyPost_ret (results_cell_tmp_row rfl _ _ (w.heap.size + 1 + 1) 24 #[.float .f64 n1, .float .f64 n2] (0, 0) _ rfl (HR.out.set _ _) Tryz.underlying24 rfl iv_info) rfl ?_
  exact ⟨rfl, (below_store2 HB.out (by omega) _ _).drew⟩
set_option maxHeartbeats 4000000 in
set_option maxRecDepth 200000 in
theorem dmeet_1 (a b c d n1 n2 : Nat) (u v p q : Bool) (w : World)
    (k1 : ∀ W, Calls Tryz.prog 40 #[.agg #[.float .f64 a, .float .f64 b]] W fun r w' => r = .returned (.bool u) ∧ Below W.heap.size W w')
    (k2 : ∀ W, Calls Tryz.prog 40 #[.agg #[.float .f64 c, .float .f64 d]] W fun r w' => r = .returned (.bool v) ∧ Below W.heap.size W w')
    (o1 : (FloatKind.f64.format.order a d == some Ordering.gt) = p) (o2 : (FloatKind.f64.format.order c b == some Ordering.gt) = q)
    (k3 : ∀ W, u = true → v = true → Calls Tryz.prog 41 #[.float .f64 a, .float .f64 c] W fun r w' => r = .returned (.float .f64 n1) ∧ w' = W)
    (k4 : ∀ W, u = true → v = true → Calls Tryz.prog 42 #[.float .f64 b, .float .f64 d] W fun r w' => r = .returned (.float .f64 n2) ∧ w' = W) :
    Calls Tryz.prog 9 #[.agg #[.float .f64 a, .float .f64 b], .agg #[.float .f64 c, .float .f64 d]] w fun r w' => r = .returned (orV (u && v && !p && !q) n1 n2 (.bool true) (.bool false)) ∧ Below w.heap.size w w' := by
  have H1 : Hid (∀ W, Calls Tryz.prog 40 #[.agg #[.float .f64 a, .float .f64 b]] W fun r w' => r = .returned (.bool u) ∧ Below W.heap.size W w') := k1
  have H2 : Hid (∀ W, Calls Tryz.prog 40 #[.agg #[.float .f64 c, .float .f64 d]] W fun r w' => r = .returned (.bool v) ∧ Below W.heap.size W w') := k2
  obtain ⟨W, hW⟩ : ∃ W, W = (((w.alloc (.cells #[.float .f64 a, .float .f64 b] 24)).alloc (.cells #[.float .f64 c, .float .f64 d] 24)).alloc (.cells #[.float .f64 0, .float .f64 0] 24)) := ⟨_, rfl⟩
  have HX : Hid (Below w.heap.size w W ∧ IvB W (w.heap.size) a b ∧ IvB W (w.heap.size + 1) c d ∧ IvB W (w.heap.size + 1 + 1) 0 0) := by
    rw [hW]
    exact ⟨bxs3_0 w a b c d 0 0, bxs3_1 w a b c d 0 0, bxs3_2 w a b c d 0 0, bxs3_3 w a b c d 0 0⟩
  have HK : Hid (∀ w', Below W.heap.size W w' → IvF w' (w.heap.size) a b ∧ IvF w' (w.heap.size + 1) c d ∧ IvF w' (w.heap.size + 1 + 1) 0 0) := fun w' hb => ⟨(HX.out.2.1).later hb, (HX.out.2.2.1).later hb, (HX.out.2.2.2).later hb⟩
  obtain ⟨⟨c0, c1, z0, z1⟩, ⟨c2, c3, z2, z3⟩, ⟨c4, c5, z4, z5⟩⟩ := HK.out W (Below.refl _ _)
  have H3 : Hid (∀ W, u = true → v = true → Calls Tryz.prog 41 #[.float .f64 a, .float .f64 c] W fun r w' => r = .returned (.float .f64 n1) ∧ w' = W) := k3
  have H4 : Hid (∀ W, u = true → v = true → Calls Tryz.prog 42 #[.float .f64 b, .float .f64 d] W fun r w' => r = .returned (.float .f64 n2) ∧ w' = W) := k4
  have kv := H1.out W
  clear k1 k2 k3 k4
  go_enter Tryz.func9, Tryz.ntmps9
  go_upto_region 1 with fail
  rw [← hW]
  clear hW
  go_wp2_with fail
  refine kv.mono ?_
  rintro r w1 ⟨rfl, hb1⟩
  clear kv H1 c0 c1 c2 c3 c4 c5 z0 z1 z2 z3 z4 z5
  obtain ⟨⟨c0, c1, z0, z1⟩, ⟨c2, c3, z2, z3⟩, ⟨c4, c5, z4, z5⟩⟩ := HK.out w1 hb1
  cases u
  · have HB : Hid (Below w.heap.size w w1) := HX.out.1.trans (hb1.mono HX.out.1.size)
    have HR : Hid (IvB w1 (w.heap.size + 1 + 1) 0 0) := HX.out.2.2.2.box hb1
    clear hb1 HK HX H2 H3 H4
    go_wp2
    refine bodyPost_ret (results_cell_tmp_row rfl _ _ (w.heap.size + 1 + 1) 24 #[.float .f64 0, .float .f64 0] (0, 0) _ rfl (HR.out.set _ _) Tryz.underlying24 rfl iv_info) rfl ?_
    exact ⟨rfl, below_store2 HB.out (by omega) _ _⟩
  have kv := H2.out w1
  have HB1 : Hid (Below W.heap.size W w1) := hb1
  clear hb1 H2
  go_wp2_with fail
  refine kv.mono ?_
  rintro r w2 ⟨rfl, hb2⟩
  have hb3 : Below W.heap.size W w2 := HB1.out.trans (hb2.mono HB1.out.size)
  clear kv c0 c1 c2 c3 c4 c5 z0 z1 z2 z3 z4 z5
  obtain ⟨⟨c0, c1, z0, z1⟩, ⟨c2, c3, z2, z3⟩, ⟨c4, c5, z4, z5⟩⟩ := HK.out w2 hb3
  have HB : Hid (Below w.heap.size w w2) := HX.out.1.trans (hb3.mono HX.out.1.size)
  have HR : Hid (IvB w2 (w.heap.size + 1 + 1) 0 0) := HX.out.2.2.2.box hb3
  cases v
  · clear hb2 hb3 HK HX HB1 H3 H4
    go_wp2
    refine bodyPost_ret (results_cell_tmp_row rfl _ _ (w.heap.size + 1 + 1) 24 #[.float .f64 0, .float .f64 0] (0, 0) _ rfl (HR.out.set _ _) Tryz.underlying24 rfl iv_info) rfl ?_
    exact ⟨rfl, below_store2 HB.out (by omega) _ _⟩
  cases p
  case true =>
    clear hb2 hb3 HK HX HB1 H3 H4
    go_wp2
    refine bodyPost_ret (results_cell_tmp_row rfl _ _ (w.heap.size + 1 + 1) 24 #[.float .f64 0, .float .f64 0] (0, 0) _ rfl (HR.out.set _ _) Tryz.underlying24 rfl iv_info) rfl ?_
    exact ⟨rfl, below_store2 HB.out (by omega) _ _⟩
  cases q
  case true =>
    clear hb2 hb3 HK HX HB1 H3 H4
    go_wp2
    refine bodyPost_ret (results_cell_tmp_row rfl _ _ (w.heap.size + 1 + 1) 24 #[.float .f64 0, .float .f64 0] (0, 0) _ rfl (HR.out.set _ _) Tryz.underlying24 rfl iv_info) rfl ?_
    exact ⟨rfl, below_store2 HB.out (by omega) _ _⟩
  have m3 := fun W => H3.out W (by simp) (by simp)
  have m4 := fun W => H4.out W (by simp) (by simp)
  have hR2 : Below w2.heap.size w2 w2.drew := (Below.refl _ _).drew
  have hb4 : Below W.heap.size W w2.drew := hb3.trans (hR2.mono hb3.size)
  have HR2 : Hid (IvB w2.drew (w.heap.size + 1 + 1) 0 0) := HX.out.2.2.2.box hb4
  have HB2 : Hid (Below w.heap.size w w2.drew) := HX.out.1.trans (hb4.mono HX.out.1.size)
  have HC : Hid (IvF w2.drew (w.heap.size) a b ∧ IvF w2.drew (w.heap.size + 1) c d ∧ IvF w2.drew (w.heap.size + 1 + 1) 0 0) := HK.out w2.drew hb4
  obtain ⟨⟨s0, s1, s2, s3⟩, ⟨s4, s5, s6, s7⟩, s8, s9, s10, s11⟩ := HC.out
  clear H3 H4 hb2 hb3 hb4 HB1 HX HK hR2
  go_upto_region 3 with fail
  go_region_held3 (fun w' => (w'.cell? ⟨w.heap.size, 0, none⟩ = some (.float .f64 a) ∧ w'.cell? ⟨w.heap.size, 1, none⟩ = some (.float .f64 b)) ∧ (w'.cell? ⟨w.heap.size + 1, 0, none⟩ = some (.float .f64 c) ∧ w'.cell? ⟨w.heap.size + 1, 1, none⟩ = some (.float .f64 d))) (first | (with_reducible assumption) | exact ⟨⟨s0, s1⟩, s4, s5⟩ | exact ⟨⟨c0, c1⟩, c2, c3⟩ | (refine ⟨⟨?_, ?_⟩, ?_, ?_⟩ <;> (change World.cell? (World.setCell (World.setCell _ _ _) _ _) _ = _; rw [World.cell?_setCell_other _ _ _ _ (by first | (simp; done) | (simp; omega)), World.cell?_setCell_other _ _ _ _ (by first | (simp; done) | (simp; omega))]; with_reducible assumption)) | go_keep)
    (first | (go_at_call 41; refine (m3 _).mono ?_; rintro r w' ⟨rfl, rfl⟩) | (go_at_call 42; refine (m4 _).mono ?_; rintro r w' ⟨rfl, rfl⟩))
  go_wp2_with fail
  refine bodyPost_ret (results_cell_tmp_row rfl _ _ (w.heap.size + 1 + 1) 24 #[.float .f64 n1, .float .f64 n2] (0, 0) _ rfl (HR.out.set _ _) Tryz.underlying24 rfl iv_info) rfl ?_
  exact ⟨rfl, (below_store2 HB.out (by omega) _ _).drew⟩
set_option maxHeartbeats 4000000 in
set_option maxRecDepth 200000 in
theorem shull_1 (a b c d n1 n2 : Nat) (v : Bool) (w : World)
    (k1 : ∀ W g T, W.heap[g]? = some (.cells #[.float .f64 a, .float .f64 b, .float .f64 c, .float .f64 d] T (0, 0)) → Calls Tryz.prog 39 #[.slice (some ⟨g, 0, none⟩) 2 2] W fun r w' => r = .returned (.bool v) ∧ Below W.heap.size W w')
    (r1 : v = true → ∀ W ts t, (Builtin.min_ ts t #[.float .f64 a, .float .f64 c]).run Tryz.prog W = .ok (.float .f64 n1) W)
    (r2 : v = true → ∀ W ts t, (Builtin.max_ ts t #[.float .f64 b, .float .f64 d]).run Tryz.prog W = .ok (.float .f64 n2) W) :
    Calls Tryz.prog 10 #[.agg #[.float .f64 a, .float .f64 b], .agg #[.float .f64 c, .float .f64 d]] w fun r w' => r = .returned (orV v n1 n2 (.int .i64 0) (.int .i64 1)) ∧ Below w.heap.size w w' := by
  have H1 : Hid (∀ W g T, W.heap[g]? = some (.cells #[.float .f64 a, .float .f64 b, .float .f64 c, .float .f64 d] T (0, 0)) → Calls Tryz.prog 39 #[.slice (some ⟨g, 0, none⟩) 2 2] W fun r w' => r = .returned (.bool v) ∧ Below W.heap.size W w') := k1
  obtain ⟨W, hW⟩ : ∃ W, W = (((w.alloc (.cells #[.float .f64 a, .float .f64 b] 24)).alloc (.cells #[.float .f64 c, .float .f64 d] 24)).alloc (.cells #[.float .f64 0, .float .f64 0] 24)) := ⟨_, rfl⟩
  have HX : Hid (Below w.heap.size w W ∧ IvB W (w.heap.size) a b ∧ IvB W (w.heap.size + 1) c d ∧ IvB W (w.heap.size + 1 + 1) 0 0) := by
    rw [hW]
    exact ⟨bxs3_0 w a b c d 0 0, bxs3_1 w a b c d 0 0, bxs3_2 w a b c d 0 0, bxs3_3 w a b c d 0 0⟩
  have HK : Hid (∀ w', Below W.heap.size W w' → IvF w' (w.heap.size) a b ∧ IvF w' (w.heap.size + 1) c d ∧ IvF w' (w.heap.size + 1 + 1) 0 0) := fun w' hb => ⟨(HX.out.2.1).later hb, (HX.out.2.2.1).later hb, (HX.out.2.2.2).later hb⟩
  obtain ⟨⟨c0, c1, z0, z1⟩, ⟨c2, c3, z2, z3⟩, ⟨c4, c5, z4, z5⟩⟩ := HK.out W (Below.refl _ _)
  have kk := H1.out (W.alloc (.cells #[.float .f64 a, .float .f64 b, .float .f64 c, .float .f64 d] 24)) W.heap.size _ (heap_alloc_new _ _)
  have HR1 : Hid (v = true → ∀ W ts t, (Builtin.min_ ts t #[.float .f64 a, .float .f64 c]).run Tryz.prog W = .ok (.float .f64 n1) W) := r1
  have HR2 : Hid (v = true → ∀ W ts t, (Builtin.max_ ts t #[.float .f64 b, .float .f64 d]).run Tryz.prog W = .ok (.float .f64 n2) W) := r2
  clear k1 r1 r2 H1
  go_enter Tryz.func10, Tryz.ntmps10
  go_upto_region 1 with fail
  rw [← hW]
  clear hW
  go_wp2_with fail
  refine kk.mono ?_
  rintro r w1 ⟨rfl, hb1⟩
  clear kk
  have hb2 : Below W.heap.size W w1 := ((Below.refl _ _).alloc (Nat.le_refl _) _).trans (hb1.mono (by simp))
  clear c0 c1 c2 c3 c4 c5 z0 z1 z2 z3 z4 z5
  obtain ⟨⟨c0, c1, z0, z1⟩, ⟨c2, c3, z2, z3⟩, ⟨c4, c5, z4, z5⟩⟩ := HK.out w1 hb2
  have HB : Hid (Below w.heap.size w w1) := HX.out.1.trans (hb2.mono HX.out.1.size)
  have HR : Hid (IvB w1 (w.heap.size + 1 + 1) 0 0) := HX.out.2.2.2.box hb2
  clear hb1 hb2 HK HX
  cases v
  · clear HR1 HR2
    go_wp2
    refine bodyPost_ret (results_cell_tmp_row rfl _ _ (w.heap.size + 1 + 1) 24 #[.float .f64 0, .float .f64 0] (0, 0) _ rfl (HR.out.set _ _) Tryz.underlying24 rfl iv_info) rfl ?_
    exact ⟨rfl, below_store2 HB.out (by omega) _ _⟩
  · have r1 := HR1.out rfl
    have r2 := HR2.out rfl
    clear HR1 HR2
    go_wp2
    refine bodyPost_ret (results_cell_tmp_row rfl _ _ (w.heap.size + 1 + 1) 24 #[.float .f64 n1, .float .f64 n2] (0, 0) _ rfl (HR.out.set _ _) Tryz.underlying24 rfl iv_info) rfl ?_
    exact ⟨rfl, below_store2 HB.out (by omega) _ _⟩

/-- what lies in both, and whether anything does -/
def mtI (a b c d : Nat) : Bool := vI a b && vI c d && !lt (fMin b d) (fMax a c)
theorem mt_eq (a b c d : Nat) : mtI a b c d = (vI a b && vI c d && !lt d a && !lt b c) := by
  unfold mtI
  cases h1 : vI a b
  · rfl
  cases h2 : vI c d
  · rfl
  obtain ⟨n1, n2⟩ := vI_nn h1
  obtain ⟨n3, n4⟩ := vI_nn h2
  have s1 : stp a ≤ stp b := by
    unfold vI le at h1
    simp only [Bool.and_eq_true, decide_eq_true_eq] at h1
    exact h1.1.1.1.1.2
  have s2 : stp c ≤ stp d := by
    unfold vI le at h2
    simp only [Bool.and_eq_true, decide_eq_true_eq] at h2
    exact h2.1.1.1.1.2
  unfold lt
  rw [fMin_nn n2 n4, fMax_nn n1 n3, fMin_stp, fMax_stp, n1, n2, n3, n4]
  simp only [Bool.not_false, Bool.true_and]
  rw [← decide_not, ← decide_not, ← decide_not, ← Bool.decide_and]
  exact decide_eq_decide.2 (by omega)
theorem smeet (a b c d : Nat) (ha : a < 18446744073709551616) (hb : b < 18446744073709551616) (hc : c < 18446744073709551616) (hd : d < 18446744073709551616) (w : World) :
    Calls Tryz.prog 8 #[.agg #[.float .f64 a, .float .f64 b], .agg #[.float .f64 c, .float .f64 d]] w fun r w' => r = .returned (orV (mtI a b c d) (fMax a c) (fMin b d) (.bool true) (.bool false)) ∧ Below w.heap.size w w' :=
  smeet_1 a b c d _ w ha hb hc hd (fun W g T h => smaybe h ha hb hc hd) (fun h => by
    rw [Bool.and_eq_true] at h
    exact ⟨vI_nn h.1, vI_nn h.2⟩)
theorem dmeet (a b c d : Nat) (ha : a < 18446744073709551616) (hb : b < 18446744073709551616) (hc : c < 18446744073709551616) (hd : d < 18446744073709551616) (w : World) :
    Calls Tryz.prog 9 #[.agg #[.float .f64 a, .float .f64 b], .agg #[.float .f64 c, .float .f64 d]] w fun r w' => r = .returned (orV (mtI a b c d) (fMax a c) (fMin b d) (.bool true) (.bool false)) ∧ Below w.heap.size w w' := by
  rw [mt_eq]
  exact dmeet_1 a b c d _ _ _ _ _ _ w (fun W => d8valid a b ha hb W) (fun W => d8valid c d hc hd W) (ord_gt a d ha hd) (ord_gt c b hc hb)
    (fun W h1 h2 => dmax a c W ha hc (vI_nn h1).1 (vI_nn h2).1) (fun W h1 h2 => dmin b d W hb hd (vI_nn h1).2 (vI_nn h2).2)
theorem shull (a b c d : Nat) (ha : a < 18446744073709551616) (hb : b < 18446744073709551616) (hc : c < 18446744073709551616) (hd : d < 18446744073709551616) (w : World) :
    Calls Tryz.prog 10 #[.agg #[.float .f64 a, .float .f64 b], .agg #[.float .f64 c, .float .f64 d]] w fun r w' => r = .returned (orV (vI a b && vI c d) (fMin a c) (fMax b d) (.int .i64 0) (.int .i64 1)) ∧ Below w.heap.size w w' :=
  shull_1 a b c d _ _ _ w (fun W g T h => smaybe h ha hb hc hd) (fun h W ts t => by
    rw [Bool.and_eq_true] at h
    exact run_fmin W ts t a c ha hc (vI_nn h.1).1 (vI_nn h.2).1) (fun h W ts t => by
    rw [Bool.and_eq_true] at h
    exact run_fmax W ts t b d hb hd (vI_nn h.1).2 (vI_nn h.2).2)
theorem dhull (a b c d : Nat) (ha : a < 18446744073709551616) (hb : b < 18446744073709551616) (hc : c < 18446744073709551616) (hd : d < 18446744073709551616) (w : World) :
    Calls Tryz.prog 11 #[.agg #[.float .f64 a, .float .f64 b], .agg #[.float .f64 c, .float .f64 d]] w fun r w' => r = .returned (orV (vI a b && vI c d) (fMin a c) (fMax b d) (.int .i64 0) (.int .i64 1)) ∧ Below w.heap.size w w' :=
  dhull_1 a b c d _ _ _ _ w (fun W => d8valid a b ha hb W) (fun W => d8valid c d hc hd W)
    (fun W h1 h2 => dmin a c W ha hc (vI_nn h1).1 (vI_nn h2).1) (fun W h1 h2 => dmax b d W hb hd (vI_nn h1).2 (vI_nn h2).2)
end Go.Proofs.YtnalhfcpcpondaaGreatDoor
/- The law's like, same, of. -/
namespace Go.Proofs.YtnalhfcpcpondaaGreatDoor
set_option linter.unusedVariables false
set_option linter.unusedSimpArgs false
open Go.RowKit Go.Fl64
attribute [local go_sem] run_store_flt

theorem dLike_self (x : Nat) (hx : x < 18446744073709551616) (w : World) :
    Calls Tryz.prog 78 #[.float .f64 x, .float .f64 x] w fun r w' => r = .returned (.bool true) ∧ w' = w := by
  have hb := Ie.run_bits
  have e := self_ne x hx
  cases hn : isNaN x
  · rw [hn] at e
    go_enter Tryz.func78, Tryz.ntmps78
    go_wp2
    go_ret
    exact ⟨by simp, rfl⟩
  · rw [hn] at e
    go_enter Tryz.func78, Tryz.ntmps78
    go_wp2
    go_ret
    exact ⟨rfl, rfl⟩
theorem llike_self (x : Nat) (hx : x < 18446744073709551616) (w : World) :
    Calls Tryz.prog 38 #[.float .f64 x, .float .f64 x] w fun r w' => r = .returned (.bool true) ∧ w' = w := by
  have k := dLike_self x hx
  go_enter Tryz.func38, Tryz.ntmps38
  go_wp2_with (first | (go_at_call 78; refine (k _).mono ?_; rintro r w' ⟨rfl, rfl⟩))
  go_ret
  exact ⟨rfl, rfl⟩
theorem isame (x y : Nat) (hx : x < 18446744073709551616) (hy : y < 18446744073709551616) (w : World) :
    Calls Tryz.prog 16 #[.agg #[.float .f64 x, .float .f64 y], .agg #[.float .f64 x, .float .f64 y]] w fun r w' => r = .returned (.bool true) ∧ Below w.heap.size w w' := by
  have k1 := llike_self x hx
  have k2 := llike_self y hy
  go_enter Tryz.func16, Tryz.ntmps16
  go_wp2_with (first | (go_at_call 38; first | (with_reducible refine (k1 _).mono ?_; rintro r w' ⟨rfl, rfl⟩) | (with_reducible refine (k2 _).mono ?_; rintro r w' ⟨rfl, rfl⟩)))
  go_ret
  exact ⟨rfl, bxs2_0 w _ _ _ _⟩
theorem lof (a b : Nat) (w : World) : Calls Tryz.prog 45 #[.float .f64 a, .float .f64 b] w fun r w' => r = .returned (.agg #[.float .f64 a, .float .f64 b]) ∧ Below w.heap.size w w' := by
  go_enter Tryz.func45, Tryz.ntmps45
  go_wp2
  refine bodyPost_ret (results_cell_row rfl _ _ w.heap.size 24 #[.float .f64 a, .float .f64 b] (0, 0) _ rfl (heap_alloc_new _ _) Tryz.underlying24 rfl iv_info) rfl ?_
  exact ⟨rfl, (Below.refl _ _).alloc (Nat.le_refl _) _⟩
theorem sorn (a : Nat) (ha : a < 18446744073709551616) (w : World) :
    Calls Tryz.prog 92 #[.float .f64 a] w fun r w' => r = .returned (.float .f64 (if isNaN a then 0 else a)) ∧ w' = w := by
  have e := self_ne a ha
  cases hn : isNaN a
  · rw [hn] at e
    go_enter Tryz.func92, Tryz.ntmps92
    go_wp2
    go_ret
    exact ⟨rfl, rfl⟩
  · rw [hn] at e
    go_enter Tryz.func92, Tryz.ntmps92
    go_wp2
    go_ret
    exact ⟨rfl, rfl⟩
theorem spairs (a b c d : Nat) (w : World) : Calls Tryz.prog 57 #[.agg #[.float .f64 a, .float .f64 b], .agg #[.float .f64 c, .float .f64 d]] w fun r w' =>
    r = .returned (.agg #[.float .f64 a, .float .f64 c, .float .f64 a, .float .f64 d, .float .f64 b, .float .f64 c, .float .f64 b, .float .f64 d]) ∧ Below w.heap.size w w' := by
  go_enter Tryz.func57, Tryz.ntmps57
  go_wp2
  have hn := heap_alloc_new ((w.alloc (.cells #[.float .f64 a, .float .f64 b] 24)).alloc (.cells #[.float .f64 c, .float .f64 d] 24)) (.cells #[.float .f64 a, .float .f64 c, .float .f64 a, .float .f64 d, .float .f64 b, .float .f64 c, .float .f64 b, .float .f64 d] 68)
  refine bodyPost_ret (results_cell_row rfl _ _ (w.heap.size + 1 + 1) 68 #[.float .f64 a, .float .f64 c, .float .f64 a, .float .f64 d, .float .f64 b, .float .f64 c, .float .f64 b, .float .f64 d] (0, 0) _ rfl (by simpa using hn) (show Tryz.prog.underlying 68 = some (.array 4 66) by kernel_rfl) rfl (by kernel_rfl)) rfl ?_
  exact ⟨rfl, (bxs2_0 w a b c d).alloc (bxs2_0 w a b c d).size _⟩
end Go.Proofs.YtnalhfcpcpondaaGreatDoor
/- Mul and Quo, walked. -/
namespace Go.Proofs.YtnalhfcpcpondaaGreatDoor
set_option linter.unusedVariables false
set_option linter.unusedSimpArgs false
open Go.RowKit Go.Fl64
attribute [local go_sem] run_store_flt

set_option maxHeartbeats 4000000 in
set_option maxRecDepth 200000 in
theorem smul_1 (a b c d x y : Nat) (v : Bool) (w : World)
    (k1 : ∀ W g T, W.heap[g]? = some (.cells #[.float .f64 a, .float .f64 b, .float .f64 c, .float .f64 d] T (0, 0)) → Calls Tryz.prog 39 #[.slice (some ⟨g, 0, none⟩) 2 2] W fun r w' => r = .returned (.bool v) ∧ Below W.heap.size W w')
    (k2 : v = true → ∀ W, Below w.heap.size w W → Calls Tryz.prog 58 #[.agg #[.float .f64 a, .float .f64 c, .float .f64 a, .float .f64 d, .float .f64 b, .float .f64 c, .float .f64 b, .float .f64 d], .func (.func 59) #[] #[]] W fun r w' => r = .returned (.agg #[.float .f64 x, .float .f64 y]) ∧ Below W.heap.size W w') :
    Calls Tryz.prog 26 #[.agg #[.float .f64 a, .float .f64 b], .agg #[.float .f64 c, .float .f64 d]] w fun r w' => r = .returned (orV v x y (.int .i64 0) (.int .i64 1)) ∧ Below w.heap.size w w' := by
  have H1 : Hid (∀ W g T, W.heap[g]? = some (.cells #[.float .f64 a, .float .f64 b, .float .f64 c, .float .f64 d] T (0, 0)) → Calls Tryz.prog 39 #[.slice (some ⟨g, 0, none⟩) 2 2] W fun r w' => r = .returned (.bool v) ∧ Below W.heap.size W w') := k1
  have H2 : Hid (v = true → ∀ W, Below w.heap.size w W → Calls Tryz.prog 58 #[.agg #[.float .f64 a, .float .f64 c, .float .f64 a, .float .f64 d, .float .f64 b, .float .f64 c, .float .f64 b, .float .f64 d], .func (.func 59) #[] #[]] W fun r w' => r = .returned (.agg #[.float .f64 x, .float .f64 y]) ∧ Below W.heap.size W w') := k2
  obtain ⟨W, hW⟩ : ∃ W, W = (((w.alloc (.cells #[.float .f64 a, .float .f64 b] 24)).alloc (.cells #[.float .f64 c, .float .f64 d] 24)).alloc (.cells #[.float .f64 0, .float .f64 0] 24)) := ⟨_, rfl⟩
  have HX : Hid (Below w.heap.size w W ∧ IvB W (w.heap.size) a b ∧ IvB W (w.heap.size + 1) c d ∧ IvB W (w.heap.size + 1 + 1) 0 0) := by
    rw [hW]
    exact ⟨bxs3_0 w a b c d 0 0, bxs3_1 w a b c d 0 0, bxs3_2 w a b c d 0 0, bxs3_3 w a b c d 0 0⟩
  have HK : Hid (∀ w', Below W.heap.size W w' → IvF w' (w.heap.size) a b ∧ IvF w' (w.heap.size + 1) c d ∧ IvF w' (w.heap.size + 1 + 1) 0 0) := fun w' hb => ⟨(HX.out.2.1).later hb, (HX.out.2.2.1).later hb, (HX.out.2.2.2).later hb⟩
  obtain ⟨⟨c0, c1, z0, z1⟩, ⟨c2, c3, z2, z3⟩, ⟨c4, c5, z4, z5⟩⟩ := HK.out W (Below.refl _ _)
  have kk := H1.out (W.alloc (.cells #[.float .f64 a, .float .f64 b, .float .f64 c, .float .f64 d] 24)) W.heap.size _ (heap_alloc_new _ _)
  clear k1 k2 H1
  go_enter Tryz.func26, Tryz.ntmps26
  go_upto_region 1 with fail
  rw [← hW]
  clear hW
  go_wp2_with fail
  refine kk.mono ?_
  rintro r w1 ⟨rfl, hb1⟩
  clear kk
  have hb2 : Below W.heap.size W w1 := ((Below.refl _ _).alloc (Nat.le_refl _) _).trans (hb1.mono (by simp))
  clear c0 c1 c2 c3 c4 c5 z0 z1 z2 z3 z4 z5
  obtain ⟨⟨c0, c1, z0, z1⟩, ⟨c2, c3, z2, z3⟩, ⟨c4, c5, z4, z5⟩⟩ := HK.out w1 hb2
  cases v
  · have HB : Hid (Below w.heap.size w w1) := HX.out.1.trans (hb2.mono HX.out.1.size)
    have HR : Hid (IvB w1 (w.heap.size + 1 + 1) 0 0) := HX.out.2.2.2.box hb2
    clear hb1 hb2 HK HX H2
    go_wp2
    refine bodyPost_ret (results_cell_tmp_row rfl _ _ (w.heap.size + 1 + 1) 24 #[.float .f64 0, .float .f64 0] (0, 0) _ rfl (HR.out.set _ _) Tryz.underlying24 rfl iv_info) rfl ?_
    exact ⟨rfl, below_store2 HB.out (by omega) _ _⟩
  have kp := spairs a b c d w1
  have HB1 : Hid (Below W.heap.size W w1) := hb2
  clear hb1 hb2
  go_wp2_with fail
  refine kp.mono ?_
  rintro r w2 ⟨rfl, hb2⟩
  have hb3 : Below W.heap.size W w2 := HB1.out.trans (hb2.mono HB1.out.size)
  clear c0 c1 c2 c3 c4 c5 z0 z1 z2 z3 z4 z5 kp HB1
  have ks := H2.out (by simp) w2 (HX.out.1.trans (hb3.mono HX.out.1.size))
  have HB3 : Hid (Below W.heap.size W w2) := hb3
  clear hb2 hb3 H2
  go_wp2_with fail
  refine ks.mono ?_
  rintro r w3 ⟨rfl, hb4⟩
  have hb5 : Below W.heap.size W w3 := HB3.out.trans (hb4.mono HB3.out.size)
  obtain ⟨⟨c0, c1, z0, z1⟩, ⟨c2, c3, z2, z3⟩, ⟨c4, c5, z4, z5⟩⟩ := HK.out w3 hb5
  have HB : Hid (Below w.heap.size w w3) := HX.out.1.trans (hb5.mono HX.out.1.size)
  have HR : Hid (IvB w3 (w.heap.size + 1 + 1) 0 0) := HX.out.2.2.2.box hb5
  clear ks hb4 hb5 HK HX HB3
  go_wp2
  refine bodyPost_ret (results_cell_tmp_row rfl _ _ (w.heap.size + 1 + 1) 24 #[.float .f64 x, .float .f64 y] (0, 0) _ rfl (HR.out.set _ _) Tryz.underlying24 rfl iv_info) rfl ?_
  exact ⟨rfl, below_store2 HB.out (by omega) _ _⟩
/-- a quotient's answer, or an error -/
def quoV (v z : Bool) (x y : Nat) : Value := if v then (if z then .tuple #[.agg #[.float .f64 0, .float .f64 0], .int .i64 6] else .tuple #[.agg #[.float .f64 x, .float .f64 y], .int .i64 0]) else .tuple #[.agg #[.float .f64 0, .float .f64 0], .int .i64 1]
set_option maxHeartbeats 4000000 in
set_option maxRecDepth 200000 in
theorem squo_1 (a b c d x y : Nat) (v z : Bool) (w : World)
    (k1 : ∀ W g T, W.heap[g]? = some (.cells #[.float .f64 a, .float .f64 b, .float .f64 c, .float .f64 d] T (0, 0)) → Calls Tryz.prog 39 #[.slice (some ⟨g, 0, none⟩) 2 2] W fun r w' => r = .returned (.bool v) ∧ Below W.heap.size W w')
    (k2 : v = true → z = false → ∀ W, Below w.heap.size w W → Calls Tryz.prog 58 #[.agg #[.float .f64 a, .float .f64 c, .float .f64 a, .float .f64 d, .float .f64 b, .float .f64 c, .float .f64 b, .float .f64 d], .func (.func 63) #[] #[]] W fun r w' => r = .returned (.agg #[.float .f64 x, .float .f64 y]) ∧ Below W.heap.size W w')
    (k3 : v = true → ∀ W, Calls Tryz.prog 12 #[.agg #[.float .f64 c, .float .f64 d], .float .f64 0] W fun r w' => r = .returned (.bool z) ∧ Below W.heap.size W w') :
    Calls Tryz.prog 28 #[.agg #[.float .f64 a, .float .f64 b], .agg #[.float .f64 c, .float .f64 d]] w fun r w' => r = .returned (quoV v z x y) ∧ Below w.heap.size w w' := by
  have H1 : Hid (∀ W g T, W.heap[g]? = some (.cells #[.float .f64 a, .float .f64 b, .float .f64 c, .float .f64 d] T (0, 0)) → Calls Tryz.prog 39 #[.slice (some ⟨g, 0, none⟩) 2 2] W fun r w' => r = .returned (.bool v) ∧ Below W.heap.size W w') := k1
  have H2 : Hid (v = true → z = false → ∀ W, Below w.heap.size w W → Calls Tryz.prog 58 #[.agg #[.float .f64 a, .float .f64 c, .float .f64 a, .float .f64 d, .float .f64 b, .float .f64 c, .float .f64 b, .float .f64 d], .func (.func 63) #[] #[]] W fun r w' => r = .returned (.agg #[.float .f64 x, .float .f64 y]) ∧ Below W.heap.size W w') := k2
  have H3 : Hid (v = true → ∀ W, Calls Tryz.prog 12 #[.agg #[.float .f64 c, .float .f64 d], .float .f64 0] W fun r w' => r = .returned (.bool z) ∧ Below W.heap.size W w') := k3
  obtain ⟨W, hW⟩ : ∃ W, W = (((w.alloc (.cells #[.float .f64 a, .float .f64 b] 24)).alloc (.cells #[.float .f64 c, .float .f64 d] 24)).alloc (.cells #[.float .f64 0, .float .f64 0] 24)) := ⟨_, rfl⟩
  have HX : Hid (Below w.heap.size w W ∧ IvB W (w.heap.size) a b ∧ IvB W (w.heap.size + 1) c d ∧ IvB W (w.heap.size + 1 + 1) 0 0) := by
    rw [hW]
    exact ⟨bxs3_0 w a b c d 0 0, bxs3_1 w a b c d 0 0, bxs3_2 w a b c d 0 0, bxs3_3 w a b c d 0 0⟩
  have HK : Hid (∀ w', Below W.heap.size W w' → IvF w' (w.heap.size) a b ∧ IvF w' (w.heap.size + 1) c d ∧ IvF w' (w.heap.size + 1 + 1) 0 0) := fun w' hb => ⟨(HX.out.2.1).later hb, (HX.out.2.2.1).later hb, (HX.out.2.2.2).later hb⟩
  obtain ⟨⟨c0, c1, z0, z1⟩, ⟨c2, c3, z2, z3⟩, ⟨c4, c5, z4, z5⟩⟩ := HK.out W (Below.refl _ _)
  have kk := H1.out (W.alloc (.cells #[.float .f64 a, .float .f64 b, .float .f64 c, .float .f64 d] 24)) W.heap.size _ (heap_alloc_new _ _)
  clear k1 k2 k3 H1
  go_enter Tryz.func28, Tryz.ntmps28
  go_upto_region 1 with fail
  rw [← hW]
  clear hW
  go_wp2_with fail
  refine kk.mono ?_
  rintro r w1 ⟨rfl, hb1⟩
  clear kk
  have hb2 : Below W.heap.size W w1 := ((Below.refl _ _).alloc (Nat.le_refl _) _).trans (hb1.mono (by simp))
  clear c0 c1 c2 c3 c4 c5 z0 z1 z2 z3 z4 z5
  obtain ⟨⟨c0, c1, z0, z1⟩, ⟨c2, c3, z2, z3⟩, ⟨c4, c5, z4, z5⟩⟩ := HK.out w1 hb2
  cases v
  · have HB : Hid (Below w.heap.size w w1) := HX.out.1.trans (hb2.mono HX.out.1.size)
    have HR : Hid (IvB w1 (w.heap.size + 1 + 1) 0 0) := HX.out.2.2.2.box hb2
    clear hb1 hb2 HK HX H2 H3
    go_wp2
    refine bodyPost_ret (results_cell_tmp_row rfl _ _ (w.heap.size + 1 + 1) 24 #[.float .f64 0, .float .f64 0] (0, 0) _ rfl (HR.out.set _ _) Tryz.underlying24 rfl iv_info) rfl ?_
    exact ⟨rfl, below_store2 HB.out (by omega) _ _⟩
  have kh := H3.out (by simp) w1
  have HB1 : Hid (Below W.heap.size W w1) := hb2
  clear hb1 hb2 H3
  go_wp2_with fail
  refine kh.mono ?_
  rintro r w2 ⟨rfl, hb2⟩
  have hb3 : Below W.heap.size W w2 := HB1.out.trans (hb2.mono HB1.out.size)
  clear c0 c1 c2 c3 c4 c5 z0 z1 z2 z3 z4 z5 kh HB1
  obtain ⟨⟨c0, c1, z0, z1⟩, ⟨c2, c3, z2, z3⟩, ⟨c4, c5, z4, z5⟩⟩ := HK.out w2 hb3
  cases z
  case true =>
    have HB : Hid (Below w.heap.size w w2) := HX.out.1.trans (hb3.mono HX.out.1.size)
    have HR : Hid (IvB w2 (w.heap.size + 1 + 1) 0 0) := HX.out.2.2.2.box hb3
    clear hb2 hb3 HK HX H2
    go_wp2
    refine bodyPost_ret (results_cell_tmp_row rfl _ _ (w.heap.size + 1 + 1) 24 #[.float .f64 0, .float .f64 0] (0, 0) _ rfl (HR.out.set _ _) Tryz.underlying24 rfl iv_info) rfl ?_
    exact ⟨rfl, below_store2 HB.out (by omega) _ _⟩
  have kp := spairs a b c d w2
  have HB1 : Hid (Below W.heap.size W w2) := hb3
  clear hb2 hb3
  go_wp2_with fail
  refine kp.mono ?_
  rintro r w3 ⟨rfl, hb2⟩
  have hb3 : Below W.heap.size W w3 := HB1.out.trans (hb2.mono HB1.out.size)
  clear c0 c1 c2 c3 c4 c5 z0 z1 z2 z3 z4 z5 kp HB1
  have ks := H2.out (by simp) (by simp) w3 (HX.out.1.trans (hb3.mono HX.out.1.size))
  have HB3 : Hid (Below W.heap.size W w3) := hb3
  clear hb2 hb3 H2
  go_wp2_with fail
  refine ks.mono ?_
  rintro r w4 ⟨rfl, hb4⟩
  have hb5 : Below W.heap.size W w4 := HB3.out.trans (hb4.mono HB3.out.size)
  obtain ⟨⟨c0, c1, z0, z1⟩, ⟨c2, c3, z2, z3⟩, ⟨c4, c5, z4, z5⟩⟩ := HK.out w4 hb5
  have HB : Hid (Below w.heap.size w w4) := HX.out.1.trans (hb5.mono HX.out.1.size)
  have HR : Hid (IvB w4 (w.heap.size + 1 + 1) 0 0) := HX.out.2.2.2.box hb5
  clear ks hb4 hb5 HK HX HB3
  go_wp2
  refine bodyPost_ret (results_cell_tmp_row rfl _ _ (w.heap.size + 1 + 1) 24 #[.float .f64 x, .float .f64 y] (0, 0) _ rfl (HR.out.set _ _) Tryz.underlying24 rfl iv_info) rfl ?_
  exact ⟨rfl, below_store2 HB.out (by omega) _ _⟩
end Go.Proofs.YtnalhfcpcpondaaGreatDoor
/- spread. -/
namespace Go.Proofs.YtnalhfcpcpondaaGreatDoor
set_option linter.unusedVariables false
set_option linter.unusedSimpArgs false
open Go.RowKit Go.Fl64
attribute [local go_sem] run_store_flt

/-- the least, the greatest of the first ones -/
def lowF (D : Nat → Nat) : Nat → Nat
  | 0 => 9218868437227405312
  | n + 1 => fMin (lowF D n) (D n)
def hiF (D : Nat → Nat) : Nat → Nat
  | 0 => 18442240474082181120
  | n + 1 => fMax (hiF D n) (D n)
theorem lowF_ok {D : Nat → Nat} (h : ∀ i, D i < 18446744073709551616 ∧ isNaN (D i) = false) : ∀ n, lowF D n < 18446744073709551616 ∧ isNaN (lowF D n) = false
  | 0 => ⟨by unfold lowF; omega, by unfold lowF; decide⟩
  | n + 1 => ⟨fMin_lt (lowF_ok h n).1 (h n).1, fMin_nn (lowF_ok h n).2 (h n).2⟩
theorem hiF_ok {D : Nat → Nat} (h : ∀ i, D i < 18446744073709551616 ∧ isNaN (D i) = false) : ∀ n, hiF D n < 18446744073709551616 ∧ isNaN (hiF D n) = false
  | 0 => ⟨by unfold hiF; omega, by unfold hiF; decide⟩
  | n + 1 => ⟨fMax_lt (hiF_ok h n).1 (h n).1, fMax_nn (hiF_ok h n).2 (h n).2⟩
/-- nought in the place of a NaN -/
def onF (a : Nat) : Nat := if isNaN a then 0 else a
theorem onF_ok {a : Nat} (h : a < 18446744073709551616) : onF a < 18446744073709551616 ∧ isNaN (onF a) = false := by
  unfold onF
  cases e : isNaN a
  · exact ⟨h, e⟩
  · rw [if_pos rfl]; exact ⟨by omega, by decide⟩
theorem onF_lk {n X : Nat} (h : lk n X) : onF n = onF X := by
  rcases lk_or h with rfl | ⟨h1, h2⟩
  · rfl
  · unfold onF; rw [h1, h2]; rfl
theorem sorn_lk {n X : Nat} (h : lk n X) (w : World) : Calls Tryz.prog 92 #[.float .f64 n] w fun r w' => r = .returned (.float .f64 (onF X)) ∧ w' = w := by
  rw [← onF_lk h]
  exact sorn n h.1 w
theorem run_pairs0 (a b c d e f g h : Nat) (w : World) : (Instr.index 68 (.agg #[.float .f64 a, .float .f64 b, .float .f64 c, .float .f64 d, .float .f64 e, .float .f64 f, .float .f64 g, .float .f64 h]) (.int .i64 0)).run Tryz.prog w = .ok (.agg #[.float .f64 a, .float .f64 b]) w := by kernel_rfl
theorem run_pairs1 (a b c d e f g h : Nat) (w : World) : (Instr.index 68 (.agg #[.float .f64 a, .float .f64 b, .float .f64 c, .float .f64 d, .float .f64 e, .float .f64 f, .float .f64 g, .float .f64 h]) (.int .i64 1)).run Tryz.prog w = .ok (.agg #[.float .f64 c, .float .f64 d]) w := by kernel_rfl
theorem run_pairs2 (a b c d e f g h : Nat) (w : World) : (Instr.index 68 (.agg #[.float .f64 a, .float .f64 b, .float .f64 c, .float .f64 d, .float .f64 e, .float .f64 f, .float .f64 g, .float .f64 h]) (.int .i64 2)).run Tryz.prog w = .ok (.agg #[.float .f64 e, .float .f64 f]) w := by kernel_rfl
theorem run_pairs3 (a b c d e f g h : Nat) (w : World) : (Instr.index 68 (.agg #[.float .f64 a, .float .f64 b, .float .f64 c, .float .f64 d, .float .f64 e, .float .f64 f, .float .f64 g, .float .f64 h]) (.int .i64 3)).run Tryz.prog w = .ok (.agg #[.float .f64 g, .float .f64 h]) w := by kernel_rfl
set_option maxHeartbeats 8000000 in
set_option maxRecDepth 200000 in
theorem sspread_Mul (X Y D E : Nat → Nat) (w : World) (hD : ∀ i, D i < 18446744073709551616) (hE : ∀ i, E i < 18446744073709551616)
    (kd : ∀ i, i < 4 → ∀ W, Below w.heap.size w W → Calls Tryz.prog 59 #[.float .f64 (X i), .float .f64 (Y i), .int .i64 1] W fun r w' => ∃ n, r = .returned (.float .f64 n) ∧ lk n (D i) ∧ Below W.heap.size W w')
    (ku : ∀ i, i < 4 → ∀ W, Below w.heap.size w W → Calls Tryz.prog 59 #[.float .f64 (X i), .float .f64 (Y i), .int .i64 3] W fun r w' => ∃ n, r = .returned (.float .f64 n) ∧ lk n (E i) ∧ Below W.heap.size W w') :
    Calls Tryz.prog 58 #[.agg #[.float .f64 (X 0), .float .f64 (Y 0), .float .f64 (X 1), .float .f64 (Y 1), .float .f64 (X 2), .float .f64 (Y 2), .float .f64 (X 3), .float .f64 (Y 3)], .func (.func 59) #[] #[]] w fun r w' => r = .returned (.agg #[.float .f64 (pl (lowF (fun i => onF (D i)) 4)), .float .f64 (pl (hiF (fun i => onF (E i)) 4))]) ∧ Below w.heap.size w w' := by
  have HD : Hid (∀ i, i < 4 → ∀ W, Below w.heap.size w W → Calls Tryz.prog 59 #[.float .f64 (X i), .float .f64 (Y i), .int .i64 1] W fun r w' => ∃ n, r = .returned (.float .f64 n) ∧ lk n (D i) ∧ Below W.heap.size W w') := kd
  have HU : Hid (∀ i, i < 4 → ∀ W, Below w.heap.size w W → Calls Tryz.prog 59 #[.float .f64 (X i), .float .f64 (Y i), .int .i64 3] W fun r w' => ∃ n, r = .returned (.float .f64 n) ∧ lk n (E i) ∧ Below W.heap.size W w') := ku
  have HLo : Hid (∀ n, lowF (fun i => onF (D i)) n < 18446744073709551616 ∧ isNaN (lowF (fun i => onF (D i)) n) = false) := lowF_ok fun i => onF_ok (hD i)
  have HHi : Hid (∀ n, hiF (fun i => onF (E i)) n < 18446744073709551616 ∧ isNaN (hiF (fun i => onF (E i)) n) = false) := hiF_ok fun i => onF_ok (hE i)
  have HDE : Hid ((∀ i, D i < 18446744073709551616) ∧ ∀ i, E i < 18446744073709551616) := ⟨hD, hE⟩
  obtain ⟨W, hW⟩ : ∃ W, W = (w.alloc (.cells #[.float .f64 (X 0), .float .f64 (Y 0), .float .f64 (X 1), .float .f64 (Y 1), .float .f64 (X 2), .float .f64 (Y 2), .float .f64 (X 3), .float .f64 (Y 3)] 68)).alloc (.cells #[.float .f64 0, .float .f64 0] 24) := ⟨_, rfl⟩
  have HX : Hid (Below w.heap.size w W ∧ W.heap[w.heap.size]? = some (.cells #[.float .f64 (X 0), .float .f64 (Y 0), .float .f64 (X 1), .float .f64 (Y 1), .float .f64 (X 2), .float .f64 (Y 2), .float .f64 (X 3), .float .f64 (Y 3)] 68 (0, 0)) ∧ IvB W (w.heap.size + 1) 0 0) := by
    rw [hW]
    refine ⟨((Below.refl _ _).alloc (Nat.le_refl _) _).alloc (by simp) _, ?_, ?_⟩
    · exact (Below.heap_alloc _ _ _ (by simp)).trans (heap_alloc_new _ _)
    · have := IvB.new (w.alloc (.cells #[.float .f64 (X 0), .float .f64 (Y 0), .float .f64 (X 1), .float .f64 (Y 1), .float .f64 (X 2), .float .f64 (Y 2), .float .f64 (X 3), .float .f64 (Y 3)] 68)) 0 0
      simpa using this
  clear kd ku hD hE
  go_enter Tryz.func58, Tryz.ntmps58
  go_upto_region 1 with fail
  rw [← hW]
  clear hW
  have hc : W.cell? ⟨w.heap.size, 0, none⟩ = some (.float .f64 (X 0)) ∧ W.cell? ⟨w.heap.size, 1, none⟩ = some (.float .f64 (Y 0)) ∧ W.cell? ⟨w.heap.size, 2, none⟩ = some (.float .f64 (X 1)) ∧ W.cell? ⟨w.heap.size, 3, none⟩ = some (.float .f64 (Y 1)) ∧ W.cell? ⟨w.heap.size, 4, none⟩ = some (.float .f64 (X 2)) ∧ W.cell? ⟨w.heap.size, 5, none⟩ = some (.float .f64 (Y 2)) ∧ W.cell? ⟨w.heap.size, 6, none⟩ = some (.float .f64 (X 3)) ∧ W.cell? ⟨w.heap.size, 7, none⟩ = some (.float .f64 (Y 3)) := by
    have := HX.out.2.1
    simp [World.cell?, this]
  obtain ⟨q0, q1, q2, q3, q4, q5, q6, q7⟩ := hc
  have hI1 : ∀ W, Calls Tryz.prog 46 #[.int .i64 1] W fun r w' => r = .returned (.float .f64 (lowF (fun i => onF (D i)) 0)) ∧ w' = W := cinf_p
  have hI2 : ∀ W, Calls Tryz.prog 46 #[.int .i64 (-1)] W fun r w' => r = .returned (.float .f64 (hiF (fun i => onF (E i)) 0)) ∧ w' = W := cinf_m
  generalize hlo : lowF (fun i => onF (D i)) = Lo at *
  generalize hhi : hiF (fun i => onF (E i)) = Hi at *
  have HlH : Hid (lowF (fun i => onF (D i)) = Lo ∧ hiF (fun i => onF (E i)) = Hi) := ⟨hlo, hhi⟩
  clear hlo hhi
  go_wp2_with (first | (go_at_call 46; first | (with_reducible refine (hI1 _).mono ?_; rintro r w' ⟨rfl, hw⟩; replace hw := hw.symm; subst hw) | (with_reducible refine (hI2 _).mono ?_; rintro r w' ⟨rfl, hw⟩; replace hw := hw.symm; subst hw)))
  clear hI1 hI2 q0 q1 q2 q3 q4 q5 q6 q7
  go_loopw [5, 6, 12] (fun lo hi i wr => ∃ j : Nat, j ≤ 4 ∧ i = .int .i64 j ∧ lo = .float .f64 (Lo j) ∧ hi = .float .f64 (Hi j) ∧ Hid (Below W.heap.size W wr)) (fun lo hi i _ => 4 - (intOf i).toNat)
  case atStart => exact ⟨0, by omega, rfl, rfl, rfl, Below.refl _ _⟩
  case round =>
    obtain ⟨j, hj, rfl, rfl, rfl, hB⟩ := hrel
    obtain ⟨W1, hW1⟩ : ∃ f : Nat → World, f = fun j => wr.alloc (.cells #[.float .f64 (X j), .float .f64 (Y j)] 66) := ⟨_, rfl⟩
    have HB1 : Hid (∀ j, (W1 j).heap[wr.heap.size]? = some (.cells #[.float .f64 (X j), .float .f64 (Y j)] 66 (0, 0))) := fun j => by rw [hW1]; exact heap_alloc_new _ _
    have HBW1 : Hid (∀ j, Below W.heap.size W (W1 j)) := fun j => by rw [hW1]; exact hB.out.alloc hB.out.size _
    have HL1 : Hid (∀ j, Lo (j + 1) = fMin (Lo j) (onF (D j)) ∧ Hi (j + 1) = fMax (Hi j) (onF (E j))) := fun j => by rw [← HlH.out.1, ← HlH.out.2]; exact ⟨rfl, rfl⟩
    rcases (show j = 0 ∨ j = 1 ∨ j = 2 ∨ j = 3 ∨ j = 4 by omega) with rfl | rfl | rfl | rfl | rfl
    · have hW1 : W1 0 = wr.alloc (.cells #[.float .f64 (X 0), .float .f64 (Y 0)] 66) := by rw [hW1]
      have hp := run_pairs0 (X 0) (Y 0) (X 1) (Y 1) (X 2) (Y 2) (X 3) (Y 3) wr
      have kd := HD.out 0 (by omega) (W1 0) (HX.out.1.trans ((HBW1.out 0).mono HX.out.1.size))
      have ⟨s0, s1⟩ := box_cells2 (HB1.out 0)
      have HB1 := HB1.out 0
      have HB1 : Hid ((W1 0).heap[wr.heap.size]? = some (.cells #[.float .f64 (X 0), .float .f64 (Y 0)] 66 (0, 0))) := HB1
      have HBW : Hid (Below W.heap.size W (W1 0)) := HBW1.out 0
      clear HBW1
      generalize W1 0 = V at *
      go_upto_region 5 with fail
      rw [← hW1]
      clear hW1
      go_wp2_with fail
      refine kd.mono ?_
      rintro r w2 ⟨n, rfl, hl, hb2⟩
      have ko := sorn_lk hl w2
      have hm := fun ts t => run_fmin (P := Tryz.prog) w2 ts t _ _ (HLo.out 0).1 (onF_ok (HDE.out.1 0)).1 (HLo.out 0).2 (onF_ok (HDE.out.1 0)).2
      rw [← (HL1.out 0).1] at hm
      obtain ⟨t0, t1⟩ := box_cells2 (box_later HB1.out hb2 (lt_of_box HB1.out))
      have HB3 : Hid (Below W.heap.size W w2) := HBW.out.trans (hb2.mono HBW.out.size)
      clear hl hb2 kd s0 s1 HBW HB1
      have ku := HU.out 0 (by omega) w2 (HX.out.1.trans (HB3.out.mono HX.out.1.size))
      generalize onF (D 0) = d0 at *
      go_wp2_with fail
      refine ko.mono ?_
      rintro r w3 ⟨rfl, hw⟩
      replace hw := hw.symm
      subst hw
      clear ko
      go_wp2_with fail
      refine ku.mono ?_
      rintro r w3 ⟨n2, rfl, hl, hb2⟩
      have ko := sorn_lk hl w3
      clear hm
      have hm := fun ts t => run_fmax (P := Tryz.prog) w3 ts t _ _ (HHi.out 0).1 (onF_ok (HDE.out.2 0)).1 (HHi.out 0).2 (onF_ok (HDE.out.2 0)).2
      rw [← (HL1.out 0).2] at hm
      have HB4 : Hid (Below W.heap.size W w3) := HB3.out.trans (hb2.mono HB3.out.size)
      clear hl hb2 ku t0 t1 HB3
      generalize onF (E 0) = e0 at *
      go_wp2_with fail
      refine ko.mono ?_
      rintro r w4 ⟨rfl, hw⟩
      replace hw := hw.symm
      subst hw
      clear ko
      go_wp2_with fail
      exact ⟨⟨0 + 1, by omega, rfl, rfl, rfl, HB4⟩, by simp [intOf]⟩
    · have hW1 : W1 1 = wr.alloc (.cells #[.float .f64 (X 1), .float .f64 (Y 1)] 66) := by rw [hW1]
      have hp := run_pairs1 (X 0) (Y 0) (X 1) (Y 1) (X 2) (Y 2) (X 3) (Y 3) wr
      have kd := HD.out 1 (by omega) (W1 1) (HX.out.1.trans ((HBW1.out 1).mono HX.out.1.size))
      have ⟨s0, s1⟩ := box_cells2 (HB1.out 1)
      have HB1 := HB1.out 1
      have HB1 : Hid ((W1 1).heap[wr.heap.size]? = some (.cells #[.float .f64 (X 1), .float .f64 (Y 1)] 66 (0, 0))) := HB1
      have HBW : Hid (Below W.heap.size W (W1 1)) := HBW1.out 1
      clear HBW1
      generalize W1 1 = V at *
      go_upto_region 5 with fail
      rw [← hW1]
      clear hW1
      go_wp2_with fail
      refine kd.mono ?_
      rintro r w2 ⟨n, rfl, hl, hb2⟩
      have ko := sorn_lk hl w2
      have hm := fun ts t => run_fmin (P := Tryz.prog) w2 ts t _ _ (HLo.out 1).1 (onF_ok (HDE.out.1 1)).1 (HLo.out 1).2 (onF_ok (HDE.out.1 1)).2
      rw [← (HL1.out 1).1] at hm
      obtain ⟨t0, t1⟩ := box_cells2 (box_later HB1.out hb2 (lt_of_box HB1.out))
      have HB3 : Hid (Below W.heap.size W w2) := HBW.out.trans (hb2.mono HBW.out.size)
      clear hl hb2 kd s0 s1 HBW HB1
      have ku := HU.out 1 (by omega) w2 (HX.out.1.trans (HB3.out.mono HX.out.1.size))
      generalize onF (D 1) = d0 at *
      go_wp2_with fail
      refine ko.mono ?_
      rintro r w3 ⟨rfl, hw⟩
      replace hw := hw.symm
      subst hw
      clear ko
      go_wp2_with fail
      refine ku.mono ?_
      rintro r w3 ⟨n2, rfl, hl, hb2⟩
      have ko := sorn_lk hl w3
      clear hm
      have hm := fun ts t => run_fmax (P := Tryz.prog) w3 ts t _ _ (HHi.out 1).1 (onF_ok (HDE.out.2 1)).1 (HHi.out 1).2 (onF_ok (HDE.out.2 1)).2
      rw [← (HL1.out 1).2] at hm
      have HB4 : Hid (Below W.heap.size W w3) := HB3.out.trans (hb2.mono HB3.out.size)
      clear hl hb2 ku t0 t1 HB3
      generalize onF (E 1) = e0 at *
      go_wp2_with fail
      refine ko.mono ?_
      rintro r w4 ⟨rfl, hw⟩
      replace hw := hw.symm
      subst hw
      clear ko
      go_wp2_with fail
      exact ⟨⟨1 + 1, by omega, rfl, rfl, rfl, HB4⟩, by simp [intOf]⟩
    · have hW1 : W1 2 = wr.alloc (.cells #[.float .f64 (X 2), .float .f64 (Y 2)] 66) := by rw [hW1]
      have hp := run_pairs2 (X 0) (Y 0) (X 1) (Y 1) (X 2) (Y 2) (X 3) (Y 3) wr
      have kd := HD.out 2 (by omega) (W1 2) (HX.out.1.trans ((HBW1.out 2).mono HX.out.1.size))
      have ⟨s0, s1⟩ := box_cells2 (HB1.out 2)
      have HB1 := HB1.out 2
      have HB1 : Hid ((W1 2).heap[wr.heap.size]? = some (.cells #[.float .f64 (X 2), .float .f64 (Y 2)] 66 (0, 0))) := HB1
      have HBW : Hid (Below W.heap.size W (W1 2)) := HBW1.out 2
      clear HBW1
      generalize W1 2 = V at *
      go_upto_region 5 with fail
      rw [← hW1]
      clear hW1
      go_wp2_with fail
      refine kd.mono ?_
      rintro r w2 ⟨n, rfl, hl, hb2⟩
      have ko := sorn_lk hl w2
      have hm := fun ts t => run_fmin (P := Tryz.prog) w2 ts t _ _ (HLo.out 2).1 (onF_ok (HDE.out.1 2)).1 (HLo.out 2).2 (onF_ok (HDE.out.1 2)).2
      rw [← (HL1.out 2).1] at hm
      obtain ⟨t0, t1⟩ := box_cells2 (box_later HB1.out hb2 (lt_of_box HB1.out))
      have HB3 : Hid (Below W.heap.size W w2) := HBW.out.trans (hb2.mono HBW.out.size)
      clear hl hb2 kd s0 s1 HBW HB1
      have ku := HU.out 2 (by omega) w2 (HX.out.1.trans (HB3.out.mono HX.out.1.size))
      generalize onF (D 2) = d0 at *
      go_wp2_with fail
      refine ko.mono ?_
      rintro r w3 ⟨rfl, hw⟩
      replace hw := hw.symm
      subst hw
      clear ko
      go_wp2_with fail
      refine ku.mono ?_
      rintro r w3 ⟨n2, rfl, hl, hb2⟩
      have ko := sorn_lk hl w3
      clear hm
      have hm := fun ts t => run_fmax (P := Tryz.prog) w3 ts t _ _ (HHi.out 2).1 (onF_ok (HDE.out.2 2)).1 (HHi.out 2).2 (onF_ok (HDE.out.2 2)).2
      rw [← (HL1.out 2).2] at hm
      have HB4 : Hid (Below W.heap.size W w3) := HB3.out.trans (hb2.mono HB3.out.size)
      clear hl hb2 ku t0 t1 HB3
      generalize onF (E 2) = e0 at *
      go_wp2_with fail
      refine ko.mono ?_
      rintro r w4 ⟨rfl, hw⟩
      replace hw := hw.symm
      subst hw
      clear ko
      go_wp2_with fail
      exact ⟨⟨2 + 1, by omega, rfl, rfl, rfl, HB4⟩, by simp [intOf]⟩
    · have hW1 : W1 3 = wr.alloc (.cells #[.float .f64 (X 3), .float .f64 (Y 3)] 66) := by rw [hW1]
      have hp := run_pairs3 (X 0) (Y 0) (X 1) (Y 1) (X 2) (Y 2) (X 3) (Y 3) wr
      have kd := HD.out 3 (by omega) (W1 3) (HX.out.1.trans ((HBW1.out 3).mono HX.out.1.size))
      have ⟨s0, s1⟩ := box_cells2 (HB1.out 3)
      have HB1 := HB1.out 3
      have HB1 : Hid ((W1 3).heap[wr.heap.size]? = some (.cells #[.float .f64 (X 3), .float .f64 (Y 3)] 66 (0, 0))) := HB1
      have HBW : Hid (Below W.heap.size W (W1 3)) := HBW1.out 3
      clear HBW1
      generalize W1 3 = V at *
      go_upto_region 5 with fail
      rw [← hW1]
      clear hW1
      go_wp2_with fail
      refine kd.mono ?_
      rintro r w2 ⟨n, rfl, hl, hb2⟩
      have ko := sorn_lk hl w2
      have hm := fun ts t => run_fmin (P := Tryz.prog) w2 ts t _ _ (HLo.out 3).1 (onF_ok (HDE.out.1 3)).1 (HLo.out 3).2 (onF_ok (HDE.out.1 3)).2
      rw [← (HL1.out 3).1] at hm
      obtain ⟨t0, t1⟩ := box_cells2 (box_later HB1.out hb2 (lt_of_box HB1.out))
      have HB3 : Hid (Below W.heap.size W w2) := HBW.out.trans (hb2.mono HBW.out.size)
      clear hl hb2 kd s0 s1 HBW HB1
      have ku := HU.out 3 (by omega) w2 (HX.out.1.trans (HB3.out.mono HX.out.1.size))
      generalize onF (D 3) = d0 at *
      go_wp2_with fail
      refine ko.mono ?_
      rintro r w3 ⟨rfl, hw⟩
      replace hw := hw.symm
      subst hw
      clear ko
      go_wp2_with fail
      refine ku.mono ?_
      rintro r w3 ⟨n2, rfl, hl, hb2⟩
      have ko := sorn_lk hl w3
      clear hm
      have hm := fun ts t => run_fmax (P := Tryz.prog) w3 ts t _ _ (HHi.out 3).1 (onF_ok (HDE.out.2 3)).1 (HHi.out 3).2 (onF_ok (HDE.out.2 3)).2
      rw [← (HL1.out 3).2] at hm
      have HB4 : Hid (Below W.heap.size W w3) := HB3.out.trans (hb2.mono HB3.out.size)
      clear hl hb2 ku t0 t1 HB3
      generalize onF (E 3) = e0 at *
      go_wp2_with fail
      refine ko.mono ?_
      rintro r w4 ⟨rfl, hw⟩
      replace hw := hw.symm
      subst hw
      clear ko
      go_wp2_with fail
      exact ⟨⟨3 + 1, by omega, rfl, rfl, rfl, HB4⟩, by simp [intOf]⟩
    · have kb := sbetween (Lo 4) (Hi 4) wr (HLo.out 4).1 (HHi.out 4).1
      have HR : Hid (IvB wr (w.heap.size + 1) 0 0) := HX.out.2.2.box hB.out
      have HBw : Hid (Below w.heap.size w wr) := HX.out.1.trans (hB.out.mono HX.out.1.size)
      clear HB1 HBW1 hW1
      go_wp2_with fail
      refine kb.mono ?_
      rintro r w2 ⟨rfl, hb2⟩
      have hR2 : IvB w2 (w.heap.size + 1) 0 0 := HR.out.box hb2
      obtain ⟨y0, y1, y2, y3⟩ := hR2.facts
      have HR : Hid (IvB w2 (w.heap.size + 1) 0 0) := hR2
      have HB2 : Hid (Below w.heap.size w w2) := HBw.out.trans (hb2.mono HBw.out.size)
      clear hb2 hR2 kb
      generalize hA : pl (Lo 4) = A at *
      generalize hC : pl (Hi 4) = C at *
      have HAC : Hid (pl (Lo 4) = A ∧ pl (Hi 4) = C) := ⟨hA, hC⟩
      clear hA hC
      go_wp2_with fail
      refine bodyPost_ret (results_cell_row rfl _ _ (w.heap.size + 1) 24 #[.float .f64 A, .float .f64 C] (0, 0) _ rfl (HR.out.set _ _) Tryz.underlying24 rfl iv_info) rfl ?_
      exact ⟨by rw [HlH.out.1, HlH.out.2, HAC.out.1, HAC.out.2], below_store2 HB2.out (by omega) _ _⟩
set_option maxHeartbeats 8000000 in
set_option maxRecDepth 200000 in
theorem sspread_Div (X Y D E : Nat → Nat) (w : World) (hD : ∀ i, D i < 18446744073709551616) (hE : ∀ i, E i < 18446744073709551616)
    (kd : ∀ i, i < 4 → ∀ W, Below w.heap.size w W → Calls Tryz.prog 63 #[.float .f64 (X i), .float .f64 (Y i), .int .i64 1] W fun r w' => ∃ n, r = .returned (.float .f64 n) ∧ lk n (D i) ∧ Below W.heap.size W w')
    (ku : ∀ i, i < 4 → ∀ W, Below w.heap.size w W → Calls Tryz.prog 63 #[.float .f64 (X i), .float .f64 (Y i), .int .i64 3] W fun r w' => ∃ n, r = .returned (.float .f64 n) ∧ lk n (E i) ∧ Below W.heap.size W w') :
    Calls Tryz.prog 58 #[.agg #[.float .f64 (X 0), .float .f64 (Y 0), .float .f64 (X 1), .float .f64 (Y 1), .float .f64 (X 2), .float .f64 (Y 2), .float .f64 (X 3), .float .f64 (Y 3)], .func (.func 63) #[] #[]] w fun r w' => r = .returned (.agg #[.float .f64 (pl (lowF (fun i => onF (D i)) 4)), .float .f64 (pl (hiF (fun i => onF (E i)) 4))]) ∧ Below w.heap.size w w' := by
  have HD : Hid (∀ i, i < 4 → ∀ W, Below w.heap.size w W → Calls Tryz.prog 63 #[.float .f64 (X i), .float .f64 (Y i), .int .i64 1] W fun r w' => ∃ n, r = .returned (.float .f64 n) ∧ lk n (D i) ∧ Below W.heap.size W w') := kd
  have HU : Hid (∀ i, i < 4 → ∀ W, Below w.heap.size w W → Calls Tryz.prog 63 #[.float .f64 (X i), .float .f64 (Y i), .int .i64 3] W fun r w' => ∃ n, r = .returned (.float .f64 n) ∧ lk n (E i) ∧ Below W.heap.size W w') := ku
  have HLo : Hid (∀ n, lowF (fun i => onF (D i)) n < 18446744073709551616 ∧ isNaN (lowF (fun i => onF (D i)) n) = false) := lowF_ok fun i => onF_ok (hD i)
  have HHi : Hid (∀ n, hiF (fun i => onF (E i)) n < 18446744073709551616 ∧ isNaN (hiF (fun i => onF (E i)) n) = false) := hiF_ok fun i => onF_ok (hE i)
  have HDE : Hid ((∀ i, D i < 18446744073709551616) ∧ ∀ i, E i < 18446744073709551616) := ⟨hD, hE⟩
  obtain ⟨W, hW⟩ : ∃ W, W = (w.alloc (.cells #[.float .f64 (X 0), .float .f64 (Y 0), .float .f64 (X 1), .float .f64 (Y 1), .float .f64 (X 2), .float .f64 (Y 2), .float .f64 (X 3), .float .f64 (Y 3)] 68)).alloc (.cells #[.float .f64 0, .float .f64 0] 24) := ⟨_, rfl⟩
  have HX : Hid (Below w.heap.size w W ∧ W.heap[w.heap.size]? = some (.cells #[.float .f64 (X 0), .float .f64 (Y 0), .float .f64 (X 1), .float .f64 (Y 1), .float .f64 (X 2), .float .f64 (Y 2), .float .f64 (X 3), .float .f64 (Y 3)] 68 (0, 0)) ∧ IvB W (w.heap.size + 1) 0 0) := by
    rw [hW]
    refine ⟨((Below.refl _ _).alloc (Nat.le_refl _) _).alloc (by simp) _, ?_, ?_⟩
    · exact (Below.heap_alloc _ _ _ (by simp)).trans (heap_alloc_new _ _)
    · have := IvB.new (w.alloc (.cells #[.float .f64 (X 0), .float .f64 (Y 0), .float .f64 (X 1), .float .f64 (Y 1), .float .f64 (X 2), .float .f64 (Y 2), .float .f64 (X 3), .float .f64 (Y 3)] 68)) 0 0
      simpa using this
  clear kd ku hD hE
  go_enter Tryz.func58, Tryz.ntmps58
  go_upto_region 1 with fail
  rw [← hW]
  clear hW
  have hc : W.cell? ⟨w.heap.size, 0, none⟩ = some (.float .f64 (X 0)) ∧ W.cell? ⟨w.heap.size, 1, none⟩ = some (.float .f64 (Y 0)) ∧ W.cell? ⟨w.heap.size, 2, none⟩ = some (.float .f64 (X 1)) ∧ W.cell? ⟨w.heap.size, 3, none⟩ = some (.float .f64 (Y 1)) ∧ W.cell? ⟨w.heap.size, 4, none⟩ = some (.float .f64 (X 2)) ∧ W.cell? ⟨w.heap.size, 5, none⟩ = some (.float .f64 (Y 2)) ∧ W.cell? ⟨w.heap.size, 6, none⟩ = some (.float .f64 (X 3)) ∧ W.cell? ⟨w.heap.size, 7, none⟩ = some (.float .f64 (Y 3)) := by
    have := HX.out.2.1
    simp [World.cell?, this]
  obtain ⟨q0, q1, q2, q3, q4, q5, q6, q7⟩ := hc
  have hI1 : ∀ W, Calls Tryz.prog 46 #[.int .i64 1] W fun r w' => r = .returned (.float .f64 (lowF (fun i => onF (D i)) 0)) ∧ w' = W := cinf_p
  have hI2 : ∀ W, Calls Tryz.prog 46 #[.int .i64 (-1)] W fun r w' => r = .returned (.float .f64 (hiF (fun i => onF (E i)) 0)) ∧ w' = W := cinf_m
  generalize hlo : lowF (fun i => onF (D i)) = Lo at *
  generalize hhi : hiF (fun i => onF (E i)) = Hi at *
  have HlH : Hid (lowF (fun i => onF (D i)) = Lo ∧ hiF (fun i => onF (E i)) = Hi) := ⟨hlo, hhi⟩
  clear hlo hhi
  go_wp2_with (first | (go_at_call 46; first | (with_reducible refine (hI1 _).mono ?_; rintro r w' ⟨rfl, hw⟩; replace hw := hw.symm; subst hw) | (with_reducible refine (hI2 _).mono ?_; rintro r w' ⟨rfl, hw⟩; replace hw := hw.symm; subst hw)))
  clear hI1 hI2 q0 q1 q2 q3 q4 q5 q6 q7
  go_loopw [5, 6, 12] (fun lo hi i wr => ∃ j : Nat, j ≤ 4 ∧ i = .int .i64 j ∧ lo = .float .f64 (Lo j) ∧ hi = .float .f64 (Hi j) ∧ Hid (Below W.heap.size W wr)) (fun lo hi i _ => 4 - (intOf i).toNat)
  case atStart => exact ⟨0, by omega, rfl, rfl, rfl, Below.refl _ _⟩
  case round =>
    obtain ⟨j, hj, rfl, rfl, rfl, hB⟩ := hrel
    obtain ⟨W1, hW1⟩ : ∃ f : Nat → World, f = fun j => wr.alloc (.cells #[.float .f64 (X j), .float .f64 (Y j)] 66) := ⟨_, rfl⟩
    have HB1 : Hid (∀ j, (W1 j).heap[wr.heap.size]? = some (.cells #[.float .f64 (X j), .float .f64 (Y j)] 66 (0, 0))) := fun j => by rw [hW1]; exact heap_alloc_new _ _
    have HBW1 : Hid (∀ j, Below W.heap.size W (W1 j)) := fun j => by rw [hW1]; exact hB.out.alloc hB.out.size _
    have HL1 : Hid (∀ j, Lo (j + 1) = fMin (Lo j) (onF (D j)) ∧ Hi (j + 1) = fMax (Hi j) (onF (E j))) := fun j => by rw [← HlH.out.1, ← HlH.out.2]; exact ⟨rfl, rfl⟩
    rcases (show j = 0 ∨ j = 1 ∨ j = 2 ∨ j = 3 ∨ j = 4 by omega) with rfl | rfl | rfl | rfl | rfl
    · have hW1 : W1 0 = wr.alloc (.cells #[.float .f64 (X 0), .float .f64 (Y 0)] 66) := by rw [hW1]
      have hp := run_pairs0 (X 0) (Y 0) (X 1) (Y 1) (X 2) (Y 2) (X 3) (Y 3) wr
      have kd := HD.out 0 (by omega) (W1 0) (HX.out.1.trans ((HBW1.out 0).mono HX.out.1.size))
      have ⟨s0, s1⟩ := box_cells2 (HB1.out 0)
      have HB1 := HB1.out 0
      have HB1 : Hid ((W1 0).heap[wr.heap.size]? = some (.cells #[.float .f64 (X 0), .float .f64 (Y 0)] 66 (0, 0))) := HB1
      have HBW : Hid (Below W.heap.size W (W1 0)) := HBW1.out 0
      clear HBW1
      generalize W1 0 = V at *
      go_upto_region 5 with fail
      rw [← hW1]
      clear hW1
      go_wp2_with fail
      refine kd.mono ?_
      rintro r w2 ⟨n, rfl, hl, hb2⟩
      have ko := sorn_lk hl w2
      have hm := fun ts t => run_fmin (P := Tryz.prog) w2 ts t _ _ (HLo.out 0).1 (onF_ok (HDE.out.1 0)).1 (HLo.out 0).2 (onF_ok (HDE.out.1 0)).2
      rw [← (HL1.out 0).1] at hm
      obtain ⟨t0, t1⟩ := box_cells2 (box_later HB1.out hb2 (lt_of_box HB1.out))
      have HB3 : Hid (Below W.heap.size W w2) := HBW.out.trans (hb2.mono HBW.out.size)
      clear hl hb2 kd s0 s1 HBW HB1
      have ku := HU.out 0 (by omega) w2 (HX.out.1.trans (HB3.out.mono HX.out.1.size))
      generalize onF (D 0) = d0 at *
      go_wp2_with fail
      refine ko.mono ?_
      rintro r w3 ⟨rfl, hw⟩
      replace hw := hw.symm
      subst hw
      clear ko
      go_wp2_with fail
      refine ku.mono ?_
      rintro r w3 ⟨n2, rfl, hl, hb2⟩
      have ko := sorn_lk hl w3
      clear hm
      have hm := fun ts t => run_fmax (P := Tryz.prog) w3 ts t _ _ (HHi.out 0).1 (onF_ok (HDE.out.2 0)).1 (HHi.out 0).2 (onF_ok (HDE.out.2 0)).2
      rw [← (HL1.out 0).2] at hm
      have HB4 : Hid (Below W.heap.size W w3) := HB3.out.trans (hb2.mono HB3.out.size)
      clear hl hb2 ku t0 t1 HB3
      generalize onF (E 0) = e0 at *
      go_wp2_with fail
      refine ko.mono ?_
      rintro r w4 ⟨rfl, hw⟩
      replace hw := hw.symm
      subst hw
      clear ko
      go_wp2_with fail
      exact ⟨⟨0 + 1, by omega, rfl, rfl, rfl, HB4⟩, by simp [intOf]⟩
    · have hW1 : W1 1 = wr.alloc (.cells #[.float .f64 (X 1), .float .f64 (Y 1)] 66) := by rw [hW1]
      have hp := run_pairs1 (X 0) (Y 0) (X 1) (Y 1) (X 2) (Y 2) (X 3) (Y 3) wr
      have kd := HD.out 1 (by omega) (W1 1) (HX.out.1.trans ((HBW1.out 1).mono HX.out.1.size))
      have ⟨s0, s1⟩ := box_cells2 (HB1.out 1)
      have HB1 := HB1.out 1
      have HB1 : Hid ((W1 1).heap[wr.heap.size]? = some (.cells #[.float .f64 (X 1), .float .f64 (Y 1)] 66 (0, 0))) := HB1
      have HBW : Hid (Below W.heap.size W (W1 1)) := HBW1.out 1
      clear HBW1
      generalize W1 1 = V at *
      go_upto_region 5 with fail
      rw [← hW1]
      clear hW1
      go_wp2_with fail
      refine kd.mono ?_
      rintro r w2 ⟨n, rfl, hl, hb2⟩
      have ko := sorn_lk hl w2
      have hm := fun ts t => run_fmin (P := Tryz.prog) w2 ts t _ _ (HLo.out 1).1 (onF_ok (HDE.out.1 1)).1 (HLo.out 1).2 (onF_ok (HDE.out.1 1)).2
      rw [← (HL1.out 1).1] at hm
      obtain ⟨t0, t1⟩ := box_cells2 (box_later HB1.out hb2 (lt_of_box HB1.out))
      have HB3 : Hid (Below W.heap.size W w2) := HBW.out.trans (hb2.mono HBW.out.size)
      clear hl hb2 kd s0 s1 HBW HB1
      have ku := HU.out 1 (by omega) w2 (HX.out.1.trans (HB3.out.mono HX.out.1.size))
      generalize onF (D 1) = d0 at *
      go_wp2_with fail
      refine ko.mono ?_
      rintro r w3 ⟨rfl, hw⟩
      replace hw := hw.symm
      subst hw
      clear ko
      go_wp2_with fail
      refine ku.mono ?_
      rintro r w3 ⟨n2, rfl, hl, hb2⟩
      have ko := sorn_lk hl w3
      clear hm
      have hm := fun ts t => run_fmax (P := Tryz.prog) w3 ts t _ _ (HHi.out 1).1 (onF_ok (HDE.out.2 1)).1 (HHi.out 1).2 (onF_ok (HDE.out.2 1)).2
      rw [← (HL1.out 1).2] at hm
      have HB4 : Hid (Below W.heap.size W w3) := HB3.out.trans (hb2.mono HB3.out.size)
      clear hl hb2 ku t0 t1 HB3
      generalize onF (E 1) = e0 at *
      go_wp2_with fail
      refine ko.mono ?_
      rintro r w4 ⟨rfl, hw⟩
      replace hw := hw.symm
      subst hw
      clear ko
      go_wp2_with fail
      exact ⟨⟨1 + 1, by omega, rfl, rfl, rfl, HB4⟩, by simp [intOf]⟩
    · have hW1 : W1 2 = wr.alloc (.cells #[.float .f64 (X 2), .float .f64 (Y 2)] 66) := by rw [hW1]
      have hp := run_pairs2 (X 0) (Y 0) (X 1) (Y 1) (X 2) (Y 2) (X 3) (Y 3) wr
      have kd := HD.out 2 (by omega) (W1 2) (HX.out.1.trans ((HBW1.out 2).mono HX.out.1.size))
      have ⟨s0, s1⟩ := box_cells2 (HB1.out 2)
      have HB1 := HB1.out 2
      have HB1 : Hid ((W1 2).heap[wr.heap.size]? = some (.cells #[.float .f64 (X 2), .float .f64 (Y 2)] 66 (0, 0))) := HB1
      have HBW : Hid (Below W.heap.size W (W1 2)) := HBW1.out 2
      clear HBW1
      generalize W1 2 = V at *
      go_upto_region 5 with fail
      rw [← hW1]
      clear hW1
      go_wp2_with fail
      refine kd.mono ?_
      rintro r w2 ⟨n, rfl, hl, hb2⟩
      have ko := sorn_lk hl w2
      have hm := fun ts t => run_fmin (P := Tryz.prog) w2 ts t _ _ (HLo.out 2).1 (onF_ok (HDE.out.1 2)).1 (HLo.out 2).2 (onF_ok (HDE.out.1 2)).2
      rw [← (HL1.out 2).1] at hm
      obtain ⟨t0, t1⟩ := box_cells2 (box_later HB1.out hb2 (lt_of_box HB1.out))
      have HB3 : Hid (Below W.heap.size W w2) := HBW.out.trans (hb2.mono HBW.out.size)
      clear hl hb2 kd s0 s1 HBW HB1
      have ku := HU.out 2 (by omega) w2 (HX.out.1.trans (HB3.out.mono HX.out.1.size))
      generalize onF (D 2) = d0 at *
      go_wp2_with fail
      refine ko.mono ?_
      rintro r w3 ⟨rfl, hw⟩
      replace hw := hw.symm
      subst hw
      clear ko
      go_wp2_with fail
      refine ku.mono ?_
      rintro r w3 ⟨n2, rfl, hl, hb2⟩
      have ko := sorn_lk hl w3
      clear hm
      have hm := fun ts t => run_fmax (P := Tryz.prog) w3 ts t _ _ (HHi.out 2).1 (onF_ok (HDE.out.2 2)).1 (HHi.out 2).2 (onF_ok (HDE.out.2 2)).2
      rw [← (HL1.out 2).2] at hm
      have HB4 : Hid (Below W.heap.size W w3) := HB3.out.trans (hb2.mono HB3.out.size)
      clear hl hb2 ku t0 t1 HB3
      generalize onF (E 2) = e0 at *
      go_wp2_with fail
      refine ko.mono ?_
      rintro r w4 ⟨rfl, hw⟩
      replace hw := hw.symm
      subst hw
      clear ko
      go_wp2_with fail
      exact ⟨⟨2 + 1, by omega, rfl, rfl, rfl, HB4⟩, by simp [intOf]⟩
    · have hW1 : W1 3 = wr.alloc (.cells #[.float .f64 (X 3), .float .f64 (Y 3)] 66) := by rw [hW1]
      have hp := run_pairs3 (X 0) (Y 0) (X 1) (Y 1) (X 2) (Y 2) (X 3) (Y 3) wr
      have kd := HD.out 3 (by omega) (W1 3) (HX.out.1.trans ((HBW1.out 3).mono HX.out.1.size))
      have ⟨s0, s1⟩ := box_cells2 (HB1.out 3)
      have HB1 := HB1.out 3
      have HB1 : Hid ((W1 3).heap[wr.heap.size]? = some (.cells #[.float .f64 (X 3), .float .f64 (Y 3)] 66 (0, 0))) := HB1
      have HBW : Hid (Below W.heap.size W (W1 3)) := HBW1.out 3
      clear HBW1
      generalize W1 3 = V at *
      go_upto_region 5 with fail
      rw [← hW1]
      clear hW1
      go_wp2_with fail
      refine kd.mono ?_
      rintro r w2 ⟨n, rfl, hl, hb2⟩
      have ko := sorn_lk hl w2
      have hm := fun ts t => run_fmin (P := Tryz.prog) w2 ts t _ _ (HLo.out 3).1 (onF_ok (HDE.out.1 3)).1 (HLo.out 3).2 (onF_ok (HDE.out.1 3)).2
      rw [← (HL1.out 3).1] at hm
      obtain ⟨t0, t1⟩ := box_cells2 (box_later HB1.out hb2 (lt_of_box HB1.out))
      have HB3 : Hid (Below W.heap.size W w2) := HBW.out.trans (hb2.mono HBW.out.size)
      clear hl hb2 kd s0 s1 HBW HB1
      have ku := HU.out 3 (by omega) w2 (HX.out.1.trans (HB3.out.mono HX.out.1.size))
      generalize onF (D 3) = d0 at *
      go_wp2_with fail
      refine ko.mono ?_
      rintro r w3 ⟨rfl, hw⟩
      replace hw := hw.symm
      subst hw
      clear ko
      go_wp2_with fail
      refine ku.mono ?_
      rintro r w3 ⟨n2, rfl, hl, hb2⟩
      have ko := sorn_lk hl w3
      clear hm
      have hm := fun ts t => run_fmax (P := Tryz.prog) w3 ts t _ _ (HHi.out 3).1 (onF_ok (HDE.out.2 3)).1 (HHi.out 3).2 (onF_ok (HDE.out.2 3)).2
      rw [← (HL1.out 3).2] at hm
      have HB4 : Hid (Below W.heap.size W w3) := HB3.out.trans (hb2.mono HB3.out.size)
      clear hl hb2 ku t0 t1 HB3
      generalize onF (E 3) = e0 at *
      go_wp2_with fail
      refine ko.mono ?_
      rintro r w4 ⟨rfl, hw⟩
      replace hw := hw.symm
      subst hw
      clear ko
      go_wp2_with fail
      exact ⟨⟨3 + 1, by omega, rfl, rfl, rfl, HB4⟩, by simp [intOf]⟩
    · have kb := sbetween (Lo 4) (Hi 4) wr (HLo.out 4).1 (HHi.out 4).1
      have HR : Hid (IvB wr (w.heap.size + 1) 0 0) := HX.out.2.2.box hB.out
      have HBw : Hid (Below w.heap.size w wr) := HX.out.1.trans (hB.out.mono HX.out.1.size)
      clear HB1 HBW1 hW1
      go_wp2_with fail
      refine kb.mono ?_
      rintro r w2 ⟨rfl, hb2⟩
      have hR2 : IvB w2 (w.heap.size + 1) 0 0 := HR.out.box hb2
      obtain ⟨y0, y1, y2, y3⟩ := hR2.facts
      have HR : Hid (IvB w2 (w.heap.size + 1) 0 0) := hR2
      have HB2 : Hid (Below w.heap.size w w2) := HBw.out.trans (hb2.mono HBw.out.size)
      clear hb2 hR2 kb
      generalize hA : pl (Lo 4) = A at *
      generalize hC : pl (Hi 4) = C at *
      have HAC : Hid (pl (Lo 4) = A ∧ pl (Hi 4) = C) := ⟨hA, hC⟩
      clear hA hC
      go_wp2_with fail
      refine bodyPost_ret (results_cell_row rfl _ _ (w.heap.size + 1) 24 #[.float .f64 A, .float .f64 C] (0, 0) _ rfl (HR.out.set _ _) Tryz.underlying24 rfl iv_info) rfl ?_
      exact ⟨by rw [HlH.out.1, HlH.out.2, HAC.out.1, HAC.out.2], below_store2 HB2.out (by omega) _ _⟩
end Go.Proofs.YtnalhfcpcpondaaGreatDoor
/- The program's Div of floats where something is to be rounded. -/
namespace Go.Proofs.YtnalhfcpcpondaaGreatDoor
set_option linter.unusedVariables false
set_option linter.unusedSimpArgs false
open Go.RowKit Go.Fl64

/-- how many digits are laid behind the dividend -/
def rtK (t1 t2 : Bool × Nat × Int) : Nat := (max 0 (64 + (bl t2.2.1 : Int) - (bl t1.2.1 : Int))).toNat
/-- the quotient, rounded -/
def rtF (t1 t2 : Bool × Nat × Int) (m : Int) : Nat := tfF (t1.1 != t2.1) (decide (t1.2.1 * 2 ^ rtK t1 t2 % t2.2.1 = 0)) (t1.2.1 * 2 ^ rtK t1 t2 / t2.2.1) (t1.2.2 - t2.2.2 - rtK t1 t2) m
theorem pratio {t1 t2 : Bool × Nat × Int} {X Y : Value} {m : Int} {w : World} (hT : Tab32 w) (o1 : Ok t1) (o2 : Ok t2) (h1 : PN w X t1) (h2 : PN w Y t2) (x0 : t1.2.1 ≠ 0) (y0 : t2.2.1 ≠ 0) (hm : 1 ≤ m ∧ m ≤ 3) :
    Calls Tryz.prog 100 #[X, Y, .int .i64 m] w fun r w' => r = .returned (.tuple #[.float .f64 (rtF t1 t2 m), .int .i64 0]) ∧ Below w.heap.size w w' := by
  obtain ⟨pa, pc, rfl, i1⟩ := h1
  obtain ⟨qa, qc, rfl, i2⟩ := h2
  have f1 := o1.facts
  have f2 := o2.facts
  have bx := bl_le_dlen t1.2.1
  have by' := bl_le_dlen t2.2.1
  have hn0 : ((dlen t1.2.1 : Int) == 0) = false := by
    have : dlen t1.2.1 ≠ 0 := fun e => x0 (dlen_eq_zero.1 e)
    simp; omega
  have hn1 : ((dlen t2.2.1 : Int) == 0) = false := by
    have : dlen t2.2.1 ≠ 0 := fun e => y0 (dlen_eq_zero.1 e)
    simp; omega
  have hk : max 0 (64 + (bl t2.2.1 : Int) - (bl t1.2.1 : Int)) = (rtK t1 t2 : Int) := by unfold rtK; omega
  refine pratio_1 t1.1 t2.1 pa qa _ pc _ qc _ _ (rtK t1 t2) (bl t1.2.1) (bl t2.2.1) t1.2.2 t2.2.2 m (t1.1 != t2.1) w (rfl : (!(t1.1 == t2.1)) = (t1.1 != t2.1)) hT i1 i2 (by omega) (by omega) y0 (by omega) (by omega) (by omega) (by omega) (by omega) rfl rfl (by omega) (by omega) hk (by omega) hn0 hn1 (fun W' g hW' hg => ?_)
  have := maybe2 hg (i1.later hW') (i2.later hW') (by omega) (by omega)
  rw [show okN t1.1 (dlen t1.2.1) t1.2.1 t1.2.2 = true from o1, show okN t2.1 (dlen t2.2.1) t2.2.1 t2.2.2 = true from o2] at this
  exact this

theorem ne_nought {a : Nat} (ha : a < 18446744073709551616) (hf : mag a < 9218868437227405312) : (FloatKind.f64.format.order a 0 != some Ordering.eq) = decide (mag a ≠ 0) := by
  rw [bne, ord_eq a 0 ha (by decide)]
  have na : isNaN a = false := by unfold isNaN; simp; omega
  have nb : isNaN 0 = false := by decide
  unfold Fl64.eq
  rw [na, nb]
  have e0 : stp 0 = 0 := by decide
  rw [e0]
  by_cases h : mag a = 0
  · have : stp a = 0 := by unfold stp sgn; rw [h]; simp
    simp [this, h]
  · have : stp a ≠ 0 := by unfold stp sgn; split <;> omega
    simp [this, h]
theorem pplain_y (a : Nat) (ha : a < 18446744073709551616) (hf : mag a < 9218868437227405312) (h0 : mag a ≠ 0) (w : World) : Calls Tryz.prog 95 #[.float .f64 a] w fun r w' => r = .returned (.bool true) ∧ w' = w := by
  have k := pfin_y a ha hf
  have he := ne_nought ha hf
  rw [decide_eq_true h0] at he
  clear ha hf h0
  go_enter Tryz.func95, Tryz.ntmps95
  go_wp2_with (go_at_call 130; refine (k _).mono ?_; rintro e w' ⟨rfl, rfl⟩)
  go_ret
  exact ⟨rfl, rfl⟩
theorem pplain_z (a : Nat) (ha : a < 18446744073709551616) (h0 : mag a = 0) (w : World) : Calls Tryz.prog 95 #[.float .f64 a] w fun r w' => r = .returned (.bool false) ∧ w' = w := by
  have k := pfin_y a ha (by omega)
  have he := ne_nought ha (by omega)
  rw [decide_eq_false (by omega)] at he
  clear ha h0
  go_enter Tryz.func95, Tryz.ntmps95
  go_wp2_with (go_at_call 130; refine (k _).mono ?_; rintro e w' ⟨rfl, rfl⟩)
  go_ret
  exact ⟨rfl, rfl⟩
theorem pplain_n (a : Nat) (ha : a < 18446744073709551616) (hf : ¬ mag a < 9218868437227405312) (w : World) : Calls Tryz.prog 95 #[.float .f64 a] w fun r w' => r = .returned (.bool false) ∧ w' = w.drew := by
  have k := pfin_n a ha hf w
  clear ha hf
  go_enter Tryz.func95, Tryz.ntmps95
  go_wp2_with fail
  refine k.mono ?_
  rintro e w' ⟨rfl, hw⟩
  rw [hw]
  clear hw k w'
  go_wp2
  go_ret
  exact ⟨rfl, rfl⟩

set_option maxHeartbeats 4000000 in
set_option maxRecDepth 200000 in
theorem pdiv_r (a b F : Nat) (m : Int) (ta tb : Bool × Nat × Int) (w : World) (hm : isM m = true)
    (hfa : ∀ W, Calls Tryz.prog 95 #[.float .f64 a] W fun r w' => r = .returned (.bool true) ∧ w' = W)
    (hfb : ∀ W, Calls Tryz.prog 95 #[.float .f64 b] W fun r w' => r = .returned (.bool true) ∧ w' = W)
    (kA : Calls Tryz.prog 98 #[.float .f64 a] w fun r w' => OutA w ta r w')
    (kB : ∀ W, Below w.heap.size w W → Calls Tryz.prog 98 #[.float .f64 b] W fun r w' => OutA W tb r w')
    (kC : ∀ W X Y, Below w.heap.size w W → PN W X ta → PN W Y tb → Calls Tryz.prog 100 #[X, Y, .int .i64 m] W fun r w' => r = .returned (.tuple #[.float .f64 F, .int .i64 0]) ∧ Below W.heap.size W w') :
    Calls Tryz.prog 63 #[.float .f64 a, .float .f64 b, .int .i64 m] w fun r w' => r = .returned (.float .f64 F) ∧ Below w.heap.size w w' := by
  have kV := pvalid m w
  rw [hm] at kV
  have HKB : Hid (∀ W, Below w.heap.size w W → Calls Tryz.prog 98 #[.float .f64 b] W fun r w' => OutA W tb r w') := kB
  have HKC : Hid (∀ W X Y, Below w.heap.size w W → PN W X ta → PN W Y tb → Calls Tryz.prog 100 #[X, Y, .int .i64 m] W fun r w' => r = .returned (.tuple #[.float .f64 F, .int .i64 0]) ∧ Below W.heap.size W w') := kC
  clear kB kC
  go_enter Tryz.func63, Tryz.ntmps63
  go_wp2_with fail
  refine kV.mono ?_
  rintro r w' ⟨rfl, hw⟩
  rw [hw]
  clear hw kV
  have kN := hfa w
  go_wp2_with fail
  refine kN.mono ?_
  rintro r w' ⟨rfl, hw⟩
  rw [hw]
  clear hw kN hfa
  have kN := hfb w
  go_wp2_with fail
  refine kN.mono ?_
  rintro r w' ⟨rfl, hw⟩
  rw [hw]
  clear hw kN hfb
  go_wp2_with fail
  refine kA.mono ?_
  rintro r w1 ⟨s1, ao1, n1, cap1, ex1, rfl, hP1, hb1⟩
  have k2 := HKB.out w1 hb1
  clear kA
  go_wp2_with fail
  refine k2.mono ?_
  rintro r w2 ⟨s2, ao2, n2, cap2, ex2, rfl, hP2, hb2⟩
  have HB2 : Hid (Below w.heap.size w w2) := hb1.trans (hb2.mono hb1.size)
  have k3 := HKC.out w2 _ _ HB2.out (hP1.later hb2) hP2
  clear k2 hP1 hP2 hb1 hb2
  go_wp2_with fail
  refine k3.mono ?_
  rintro r w3 ⟨rfl, hb3⟩
  have HB3 : Hid (Below w.heap.size w w3) := HB2.out.trans (hb3.mono HB2.out.size)
  clear k3 hb3
  go_wp2_with fail
  go_ret
  exact ⟨rfl, HB3.out⟩

/-- Div of two floats that are finite and not nought -/
theorem pdiv_ok (a b : Nat) (m : Int) (w : World) (hm : isM m = true) (hT : Tab32 w) (hI : Ie.Tab w) (ha : a < 18446744073709551616) (hb : b < 18446744073709551616) (hfa : mag a < 9218868437227405312) (hfb : mag b < 9218868437227405312) (ha0 : mag a ≠ 0) (hb0 : mag b ≠ 0) (xa : (tF a).2.1 ≠ 0) (xb : (tF b).2.1 ≠ 0) :
    Calls Tryz.prog 63 #[.float .f64 a, .float .f64 b, .int .i64 m] w fun r w' => r = .returned (.float .f64 (rtF (tF a) (tF b) m)) ∧ Below w.heap.size w w' :=
  pdiv_r a b _ m (tF a) (tF b) w hm (pplain_y a ha hfa ha0) (pplain_y b hb hfb hb0) (exact_ok a ha hfa w hT hI) (fun W h => exact_ok b hb hfb W (hT.later h) (Tab.later hI h)) (fun W X Y h h1 h2 => pratio (hT.later h) (tF_ok a) (tF_ok b) h1 h2 xa xb (isM_iff.1 hm))
theorem tF_ne {a : Nat} (h : mag a ≠ 0) : (tF a).2.1 ≠ 0 := by
  have h1 := Ie.mant_ne h
  unfold tF cn
  rw [if_neg h1]
  intro e
  have := (tz_spec _ _ (Nat.le_refl _) h1).2
  simp only at e
  rw [e] at this
  simp at this
end Go.Proofs.YtnalhfcpcpondaaGreatDoor
/- The program's Hypot of finite floats. -/
namespace Go.Proofs.YtnalhfcpcpondaaGreatDoor
set_option linter.unusedVariables false
set_option linter.unusedSimpArgs false
open Go.RowKit Go.Fl64

end Go.Proofs.YtnalhfcpcpondaaGreatDoor
/- Hypot of 3 and 4, and a float made whole: what the law's own test asks. -/
namespace Go.Proofs.YtnalhfcpcpondaaGreatDoor
set_option linter.unusedVariables false
set_option linter.unusedSimpArgs false
open Go.RowKit Go.Fl64

/-- the product of two numbers, in its one form -/
def tM (t1 t2 : Bool × Nat × Int) : Bool × Nat × Int := cn (!(t1.1 == t2.1)) (t1.2.1 * t2.2.1) (t1.2.2 + t2.2.2)
theorem tM_ok {t1 t2 : Bool × Nat × Int} (h : okR (!(t1.1 == t2.1)) (t1.2.1 * t2.2.1) (t1.2.2 + t2.2.2) = true) : Ok (tM t1 t2) := ok_cn h
end Go.Proofs.YtnalhfcpcpondaaGreatDoor
