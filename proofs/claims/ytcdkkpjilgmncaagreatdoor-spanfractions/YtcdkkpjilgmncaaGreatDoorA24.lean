/- Own work: contracts of the program's functions, part 24: FS6. -/
import Derived.Test.YtcdkkpjilgmncaaGreatDoorA23

set_option maxHeartbeats 16000000
namespace Go.Proofs.YtcdkkpjilgmncaaGreatDoor
set_option linter.unusedVariables false
set_option linter.unusedSimpArgs false
open Go.RowKit Go.Fl64
attribute [local go_sem] run_negf8
def Out3D (W : World) (t1 t2 : Bool × Nat × Int) (k : Int) (r : Ending) (w' : World) : Prop := ∃ (s1 : Bool) (ao1 : Option Addr) (n1 cp1 : Nat) (e1 : Int) (s2 : Bool) (ao2 : Option Addr) (n2 cp2 : Nat) (e2 : Int), r = .returned (.tuple #[.agg #[.bool s1, .slice ao1 n1 cp1, .int .i64 e1], .agg #[.bool s2, .slice ao2 n2 cp2, .int .i64 e2], .int .i64 k]) ∧ DN w' (.agg #[.bool s1, .slice ao1 n1 cp1, .int .i64 e1]) t1 ∧ DN w' (.agg #[.bool s2, .slice ao2 n2 cp2, .int .i64 e2]) t2 ∧ Below W.heap.size W w'
theorem DN.zero8 (w : World) : DN w (.agg #[.bool false, .slice none 0 0, .int .i64 0]) nilN := ⟨none, 0, by rw [show nilN = (false, 0, (0 : Int)) from rfl, dlen_zero], fun _ => .inr ⟨rfl, rfl⟩, ⟨0, 0, fun h => by rw [show nilN.2.1 = 0 from rfl, dlen_zero] at h; omega, fun i hi => by rw [show nilN.2.1 = 0 from rfl, dlen_zero] at hi; omega⟩, by rw [show nilN.2.1 = 0 from rfl, dlen_zero]; omega, by rw [show nilN.2.1 = 0 from rfl, dlen_zero]; omega⟩
theorem store3_oth8 {w : World} {g k : Nat} (a b c : Value) (h : k ≠ g) : (((w.setCell ⟨g, 0, none⟩ a).setCell ⟨g, 1, none⟩ b).setCell ⟨g, 2, none⟩ c).heap[k]? = w.heap[k]? := by
  have h' : ¬ g = k := fun e => h e.symm
  simp [World.setCell, Array.getElem?_modify, h']
theorem dn_store8 {w : World} {A : Value} {t : Bool × Nat × Int} {g : Nat} {s : Bool} {ao : Option Addr} {n cap : Nat} {e : Int} (h : DN w A t) (hg : w.heap[g]? = some (.cells #[.bool s, .slice ao n cap, .int .i64 e] 27 (0, 0))) (a b c : Value) : DN (((w.setCell ⟨g, 0, none⟩ a).setCell ⟨g, 1, none⟩ b).setCell ⟨g, 2, none⟩ c) A t := by
  obtain ⟨oo, cc, h1, h2⟩ := h
  exact ⟨oo, cc, h1, h2.nil, at_box h2.at_ rfl hg (by simp) (by simp) (by simp) a b c, h2.le, h2.small⟩
set_option maxRecDepth 200000 in
theorem dsimp8_no (a b : Nat) (w : World) (k1 : ∀ W, Below w.heap.size w W → Calls Tryz.prog 16 #[.agg #[.float .f64 a, .float .f64 b]] W fun r w' => r = .returned (.bool false) ∧ Below W.heap.size W w') : Calls Tryz.prog 5 #[.agg #[.float .f64 a, .float .f64 b]] w fun r w' => Out3D w nilN nilN 1 r w' := by
  obtain ⟨W, hW⟩ : ∃ W, W = ((w.alloc (.cells #[.float .f64 a, .float .f64 b] 24)).alloc (.cells #[.bool false, .slice none 0 0, .int .i64 0] 27)).alloc (.cells #[.bool false, .slice none 0 0, .int .i64 0] 27) := ⟨_, rfl⟩
  obtain ⟨hF, hN, hM, hBW⟩ := three_new _ _ _ hW
  have c0 : W.cell? ⟨w.heap.size, 0, none⟩ = some (.float .f64 a) := by simp [World.cell?, hF]
  have c1 : W.cell? ⟨w.heap.size, 1, none⟩ = some (.float .f64 b) := by simp [World.cell?, hF]
  have HF : Hid (W.heap[w.heap.size]? = some (.cells #[.float .f64 a, .float .f64 b] 24 (0, 0)) ∧ W.heap[w.heap.size + 1]? = some (.cells #[.bool false, .slice none 0 0, .int .i64 0] 27 (0, 0)) ∧ W.heap[w.heap.size + 1 + 1]? = some (.cells #[.bool false, .slice none 0 0, .int .i64 0] 27 (0, 0)) ∧ Below w.heap.size w W) := ⟨hF, hN, hM, hBW⟩
  have kk := k1 W hBW
  clear k1 hF hN hM hBW
  go_enter Tryz.func5, Tryz.ntmps5
  go_upto_region 1 with fail
  rw [← hW]
  clear hW
  go_wp2_with fail
  refine kk.mono ?_
  rintro r w1 ⟨rfl, hb1⟩
  clear kk c0 c1
  have HG : Hid (w1.heap[w.heap.size]? = some (.cells #[.float .f64 a, .float .f64 b] 24 (0, 0)) ∧ w1.heap[w.heap.size + 1]? = some (.cells #[.bool false, .slice none 0 0, .int .i64 0] 27 (0, 0)) ∧ w1.heap[w.heap.size + 1 + 1]? = some (.cells #[.bool false, .slice none 0 0, .int .i64 0] 27 (0, 0)) ∧ Below w.heap.size w w1) := ⟨box_later HF.out.1 hb1 (lt_of_box HF.out.1), box_later HF.out.2.1 hb1 (lt_of_box HF.out.2.1), box_later HF.out.2.2.1 hb1 (lt_of_box HF.out.2.2.1), HF.out.2.2.2.trans (hb1.mono HF.out.2.2.2.size)⟩
  clear hb1 HF
  obtain ⟨x1, x2, x3, xB⟩ := HG.out
  obtain ⟨⟨y0, y1, y2⟩, z0, z1, z2⟩ := box_cells29 x2
  obtain ⟨⟨p0, p1, p2⟩, q0, q1, q2⟩ := box_cells29 x3
  clear x1 x2 x3 xB
  go_wp2_with fail
  obtain ⟨x1, x2, x3, xB⟩ := HG.out
  have s2 := store3_29 (.bool false) (.slice none 0 0) (.int .i64 0) x2
  have s3 := store3_29 (.bool false) (.slice none 0 0) (.int .i64 0) (show (((w1.setCell ⟨w.heap.size + 1, 0, none⟩ (.bool false)).setCell ⟨w.heap.size + 1, 1, none⟩ (.slice none 0 0)).setCell ⟨w.heap.size + 1, 2, none⟩ (.int .i64 0)).heap[w.heap.size + 1 + 1]? = _ from (store3_oth8 _ _ _ (by omega)).trans x3)
  refine bodyPost_ret (results_c2t rfl _ _ (w.heap.size + 1) (w.heap.size + 1 + 1) 27 #[.bool false, .slice none 0 0, .int .i64 0] #[.bool false, .slice none 0 0, .int .i64 0] (0, 0) (0, 0) _ rfl rfl ((store3_oth8 _ _ _ (by omega)).trans s2) s3 Tryz.underlying27 rfl Tryz.info27 Tryz.info27) rfl ?_
  exact ⟨_, _, _, _, _, _, _, _, _, _, rfl, DN.zero8 _, DN.zero8 _, below_store3 (below_store3 xB (by omega) _ _ _) (by omega) _ _ _⟩
set_option maxRecDepth 200000 in
theorem dsimp8_0 (a b : Nat) (w : World) (hz1 : (FloatKind.f64.format.order a 0 == some Ordering.lt || FloatKind.f64.format.order a 0 == some Ordering.eq) = true) (hz2 : (FloatKind.f64.format.order b 0 == some Ordering.gt || FloatKind.f64.format.order b 0 == some Ordering.eq) = true) (k1 : ∀ W, Below w.heap.size w W → Calls Tryz.prog 16 #[.agg #[.float .f64 a, .float .f64 b]] W fun r w' => r = .returned (.bool true) ∧ Below W.heap.size W w') : Calls Tryz.prog 5 #[.agg #[.float .f64 a, .float .f64 b]] w fun r w' => Out3D w nilN (un 1 0) 0 r w' := by
  obtain ⟨W, hW⟩ : ∃ W, W = ((w.alloc (.cells #[.float .f64 a, .float .f64 b] 24)).alloc (.cells #[.bool false, .slice none 0 0, .int .i64 0] 27)).alloc (.cells #[.bool false, .slice none 0 0, .int .i64 0] 27) := ⟨_, rfl⟩
  obtain ⟨hF, hN, hM, hBW⟩ := three_new _ _ _ hW
  have c0 : W.cell? ⟨w.heap.size, 0, none⟩ = some (.float .f64 a) := by simp [World.cell?, hF]
  have c1 : W.cell? ⟨w.heap.size, 1, none⟩ = some (.float .f64 b) := by simp [World.cell?, hF]
  have HF : Hid (W.heap[w.heap.size]? = some (.cells #[.float .f64 a, .float .f64 b] 24 (0, 0)) ∧ W.heap[w.heap.size + 1]? = some (.cells #[.bool false, .slice none 0 0, .int .i64 0] 27 (0, 0)) ∧ W.heap[w.heap.size + 1 + 1]? = some (.cells #[.bool false, .slice none 0 0, .int .i64 0] 27 (0, 0)) ∧ Below w.heap.size w W) := ⟨hF, hN, hM, hBW⟩
  have kk := k1 W hBW
  clear k1 hF hN hM hBW
  go_enter Tryz.func5, Tryz.ntmps5
  go_upto_region 1 with fail
  rw [← hW]
  clear hW
  go_wp2_with fail
  refine kk.mono ?_
  rintro r w1 ⟨rfl, hb1⟩
  clear kk c0 c1
  have HG : Hid (w1.heap[w.heap.size]? = some (.cells #[.float .f64 a, .float .f64 b] 24 (0, 0)) ∧ w1.heap[w.heap.size + 1]? = some (.cells #[.bool false, .slice none 0 0, .int .i64 0] 27 (0, 0)) ∧ w1.heap[w.heap.size + 1 + 1]? = some (.cells #[.bool false, .slice none 0 0, .int .i64 0] 27 (0, 0)) ∧ Below w.heap.size w w1) := ⟨box_later HF.out.1 hb1 (lt_of_box HF.out.1), box_later HF.out.2.1 hb1 (lt_of_box HF.out.2.1), box_later HF.out.2.2.1 hb1 (lt_of_box HF.out.2.2.1), HF.out.2.2.2.trans (hb1.mono HF.out.2.2.2.size)⟩
  clear hb1 HF
  have c0 : w1.cell? ⟨w.heap.size, 0, none⟩ = some (.float .f64 a) := by simp [World.cell?, HG.out.1]
  have c1 : w1.cell? ⟨w.heap.size, 1, none⟩ = some (.float .f64 b) := by simp [World.cell?, HG.out.1]
  have kk := dwholeU (n := 1) (by omega) w1
  go_wp2_with fail
  refine kk.mono ?_
  rintro r w2 ⟨A, rfl, hA, hb2⟩
  obtain ⟨s1, ao1, n1, cp1, e1, rfl⟩ := hA.shape
  clear kk c0 c1
  have x2 := box_later HG.out.2.1 hb2 (lt_of_box HG.out.2.1)
  have x3 := box_later HG.out.2.2.1 hb2 (lt_of_box HG.out.2.2.1)
  have HM : Hid (w2.heap[w.heap.size + 1]? = some (.cells #[.bool false, .slice none 0 0, .int .i64 0] 27 (0, 0)) ∧ w2.heap[w.heap.size + 1 + 1]? = some (.cells #[.bool false, .slice none 0 0, .int .i64 0] 27 (0, 0)) ∧ DN w2 (.agg #[.bool s1, .slice ao1 n1 cp1, .int .i64 e1]) (un 1 0) ∧ Below w.heap.size w w2) := ⟨x2, x3, hA, HG.out.2.2.2.trans (hb2.mono HG.out.2.2.2.size)⟩
  obtain ⟨⟨y0, y1, y2⟩, z0, z1, z2⟩ := box_cells29 x2
  obtain ⟨⟨p0, p1, p2⟩, q0, q1, q2⟩ := box_cells29 x3
  clear x2 x3 hA hb2 HG
  go_wp2_with fail
  obtain ⟨x2, x3, xA, xB⟩ := HM.out
  have s2 := store3_29 (.bool false) (.slice none 0 0) (.int .i64 0) x2
  have x3' : (((w2.setCell ⟨w.heap.size + 1, 0, none⟩ (.bool false)).setCell ⟨w.heap.size + 1, 1, none⟩ (.slice none 0 0)).setCell ⟨w.heap.size + 1, 2, none⟩ (.int .i64 0)).heap[w.heap.size + 1 + 1]? = _ := (store3_oth8 _ _ _ (by omega)).trans x3
  have s3 := store3_29 (.bool s1) (.slice ao1 n1 cp1) (.int .i64 e1) x3'
  refine bodyPost_ret (results_c2t rfl _ _ (w.heap.size + 1) (w.heap.size + 1 + 1) 27 #[.bool false, .slice none 0 0, .int .i64 0] #[.bool s1, .slice ao1 n1 cp1, .int .i64 e1] (0, 0) (0, 0) _ rfl rfl ((store3_oth8 _ _ _ (by omega)).trans s2) s3 Tryz.underlying27 rfl Tryz.info27 Tryz.info27) rfl ?_
  exact ⟨_, _, _, _, _, _, _, _, _, _, rfl, DN.zero8 _, dn_store8 (dn_store8 xA x2 _ _ _) x3' _ _ _, below_store3 (below_store3 xB (by omega) _ _ _) (by omega) _ _ _⟩
set_option maxRecDepth 200000 in
theorem dsimp8_11 (a b : Nat) (w : World) (x y : Nat) (tA tB tC tD tP tP' tQ : Bool × Nat × Int) (hz1 : (FloatKind.f64.format.order a 0 == some Ordering.lt) = true) (hz2 : (FloatKind.f64.format.order a 0 == some Ordering.eq) = false) (hz3 : (FloatKind.f64.format.order b 0 == some Ordering.gt) = false) (hz4 : (FloatKind.f64.format.order b 0 == some Ordering.eq) = false) (hx : Op.negFloat .f64 b = x) (hy : Op.negFloat .f64 a = y) (hlt : (FloatKind.f64.format.order b 0 == some Ordering.lt) = true) (hf : (FloatKind.f64.format.order y 9218868437227405311 == some Ordering.lt || FloatKind.f64.format.order y 9218868437227405311 == some Ordering.eq) = true)
    (k1 : ∀ W, Below w.heap.size w W → Calls Tryz.prog 16 #[.agg #[.float .f64 a, .float .f64 b]] W fun r w' => r = .returned (.bool true) ∧ Below W.heap.size W w')
    (k2 : Hid (∀ W, Below w.heap.size w W → Calls Tryz.prog 18 #[.float .f64 x] W fun r w' => Out2D W tA tB r w'))
    (k3 : Hid (∀ W, Below w.heap.size w W → Calls Tryz.prog 18 #[.float .f64 y] W fun r w' => Out2D W tC tD r w'))
    (k4 : Hid (∀ (s1 : Bool) (ao1 : Option Addr) (n1 cp1 : Nat) (e1 : Int) (s2 : Bool) (ao2 : Option Addr) (n2 cp2 : Nat) (e2 : Int) (s3 : Bool) (ao3 : Option Addr) (n3 cp3 : Nat) (e3 : Int) (s4 : Bool) (ao4 : Option Addr) (n4 cp4 : Nat) (e4 : Int) W, Below w.heap.size w W → DN W (.agg #[.bool s1, .slice ao1 n1 cp1, .int .i64 e1]) tA → DN W (.agg #[.bool s2, .slice ao2 n2 cp2, .int .i64 e2]) tB → DN W (.agg #[.bool s3, .slice ao3 n3 cp3, .int .i64 e3]) tC → DN W (.agg #[.bool s4, .slice ao4 n4 cp4, .int .i64 e4]) tD → Calls Tryz.prog 19 #[.agg #[.bool s1, .slice ao1 n1 cp1, .int .i64 e1], .agg #[.bool s2, .slice ao2 n2 cp2, .int .i64 e2], .agg #[.bool s3, .slice ao3 n3 cp3, .int .i64 e3], .agg #[.bool s4, .slice ao4 n4 cp4, .int .i64 e4]] W fun r w' => Out2D W tP tQ r w'))
    (hP : gN tP = tP') : Calls Tryz.prog 5 #[.agg #[.float .f64 a, .float .f64 b]] w fun r w' => Out3D w tP' tQ 0 r w' := by
  obtain ⟨W, hW⟩ : ∃ W, W = ((w.alloc (.cells #[.float .f64 a, .float .f64 b] 24)).alloc (.cells #[.bool false, .slice none 0 0, .int .i64 0] 27)).alloc (.cells #[.bool false, .slice none 0 0, .int .i64 0] 27) := ⟨_, rfl⟩
  obtain ⟨hF, hN, hM, hBW⟩ := three_new _ _ _ hW
  have c0 : W.cell? ⟨w.heap.size, 0, none⟩ = some (.float .f64 a) := by simp [World.cell?, hF]
  have c1 : W.cell? ⟨w.heap.size, 1, none⟩ = some (.float .f64 b) := by simp [World.cell?, hF]
  have HF : Hid (W.heap[w.heap.size]? = some (.cells #[.float .f64 a, .float .f64 b] 24 (0, 0)) ∧ W.heap[w.heap.size + 1]? = some (.cells #[.bool false, .slice none 0 0, .int .i64 0] 27 (0, 0)) ∧ W.heap[w.heap.size + 1 + 1]? = some (.cells #[.bool false, .slice none 0 0, .int .i64 0] 27 (0, 0)) ∧ Below w.heap.size w W) := ⟨hF, hN, hM, hBW⟩
  have kk := k1 W hBW
  clear k1 hF hN hM hBW
  go_enter Tryz.func5, Tryz.ntmps5
  go_upto_region 1 with fail
  rw [← hW]
  clear hW
  go_wp2_with fail
  refine kk.mono ?_
  rintro r w1 ⟨rfl, hb1⟩
  clear kk c0 c1
  have HG : Hid (w1.heap[w.heap.size]? = some (.cells #[.float .f64 a, .float .f64 b] 24 (0, 0)) ∧ w1.heap[w.heap.size + 1]? = some (.cells #[.bool false, .slice none 0 0, .int .i64 0] 27 (0, 0)) ∧ w1.heap[w.heap.size + 1 + 1]? = some (.cells #[.bool false, .slice none 0 0, .int .i64 0] 27 (0, 0)) ∧ Below w.heap.size w w1) := ⟨box_later HF.out.1 hb1 (lt_of_box HF.out.1), box_later HF.out.2.1 hb1 (lt_of_box HF.out.2.1), box_later HF.out.2.2.1 hb1 (lt_of_box HF.out.2.2.1), HF.out.2.2.2.trans (hb1.mono HF.out.2.2.2.size)⟩
  clear hb1 HF
  have c0 : w1.cell? ⟨w.heap.size, 0, none⟩ = some (.float .f64 a) := by simp [World.cell?, HG.out.1]
  have c1 : w1.cell? ⟨w.heap.size, 1, none⟩ = some (.float .f64 b) := by simp [World.cell?, HG.out.1]
  go_upto_region 5 with fail
  go_quiet (fail)
  go_upto_region 8 with fail
  clear c0 c1 hz1 hz2 hz3 hz4
  obtain ⟨V1, hV1⟩ : ∃ V1, V1 = w1.drewN nq := ⟨_, rfl⟩
  rw [← hV1]
  have hbV : Below w1.heap.size w1 V1 := by rw [hV1]; exact bdrewN (Below.refl _ _) nq
  have H1 : Hid (V1.heap[w.heap.size]? = some (.cells #[.float .f64 a, .float .f64 b] 24 (0, 0)) ∧ V1.heap[w.heap.size + 1]? = some (.cells #[.bool false, .slice none 0 0, .int .i64 0] 27 (0, 0)) ∧ V1.heap[w.heap.size + 1 + 1]? = some (.cells #[.bool false, .slice none 0 0, .int .i64 0] 27 (0, 0)) ∧ Below w.heap.size w V1) := ⟨box_later HG.out.1 hbV (lt_of_box HG.out.1), box_later HG.out.2.1 hbV (lt_of_box HG.out.2.1), box_later HG.out.2.2.1 hbV (lt_of_box HG.out.2.2.1), HG.out.2.2.2.trans (hbV.mono HG.out.2.2.2.size)⟩
  clear hbV hV1 HG
  have kk := k2.out V1 H1.out.2.2.2
  go_wp2_with fail
  refine kk.mono ?_
  rintro r w2 ⟨s1, ao1, n1, cp1, e1, s2, ao2, n2, cp2, e2, rfl, hA, hB, hb2⟩
  clear kk
  obtain ⟨W2, hW2⟩ : ∃ W2, W2 = (w2.alloc (.cells #[.bool s1, .slice ao1 n1 cp1, .int .i64 e1] 27)).alloc (.cells #[.bool s2, .slice ao2 n2 cp2, .int .i64 e2] 27) := ⟨_, rfl⟩
  obtain ⟨z1, z2, z3, z4⟩ := two_new _ _ hW2
  have hb12 : Below V1.heap.size V1 W2 := hb2.trans (z4.mono hb2.size)
  obtain ⟨x1, x2, x3, xB⟩ := H1.out
  go_upto_region 9 with fail
  rw [← hW2]
  clear hW2
  have hsz := hb2.size
  have hl := lt_of_box x3
  have hA' := hA.later z4
  have hB' := hB.later z4
  clear z3 z4 hA hB
  generalize w2.heap.size = gqA at *
  have H2 : Hid (W2.heap[w.heap.size]? = some (.cells #[.float .f64 a, .float .f64 b] 24 (0, 0)) ∧ W2.heap[w.heap.size + 1]? = some (.cells #[.bool false, .slice none 0 0, .int .i64 0] 27 (0, 0)) ∧ W2.heap[w.heap.size + 1 + 1]? = some (.cells #[.bool false, .slice none 0 0, .int .i64 0] 27 (0, 0)) ∧ Below w.heap.size w W2 ∧ NB W2 gqA s1 ao1 n1 cp1 e1 tA ∧ NB W2 (gqA + 1) s2 ao2 n2 cp2 e2 tB ∧ w.heap.size + 1 + 1 < gqA) := ⟨box_later x1 hb12 (lt_of_box x1), box_later x2 hb12 (lt_of_box x2), box_later x3 hb12 (lt_of_box x3), xB.trans (hb12.mono xB.size), ⟨z1, hA'⟩, ⟨z2, hB'⟩, by omega⟩
  clear x1 x2 x3 xB hb2 hb12 z1 z2 hA' hB' hsz hl H1
  have kk := dwholeU (n := 1) (by omega) W2
  go_wp2_with fail
  refine kk.mono ?_
  rintro r w3 ⟨A, rfl, hA, hb3⟩
  obtain ⟨s3, ao3, n3, cp3, e3, rfl⟩ := hA.shape
  clear kk
  obtain ⟨W3, hW3⟩ : ∃ W3, W3 = (w3.alloc (.cells #[.bool s3, .slice ao3 n3 cp3, .int .i64 e3] 27)).alloc (.cells #[.bool false, .slice none 0 0, .int .i64 0] 27) := ⟨_, rfl⟩
  obtain ⟨z1, z2, z3, z4⟩ := two_new _ _ hW3
  have hb23 : Below W2.heap.size W2 W3 := hb3.trans (z4.mono hb3.size)
  obtain ⟨x1, x2, x3, xB, xa, xb, xg⟩ := H2.out
  go_upto_region 10 with fail
  rw [← hW3]
  clear hW3
  have hsz := hb3.size
  have hl := lt_of_box xb.1
  have hA' := hA.later z4
  clear z3 z4 hA
  generalize w3.heap.size = gqC at *
  have H3 : Hid (W3.heap[w.heap.size]? = some (.cells #[.float .f64 a, .float .f64 b] 24 (0, 0)) ∧ W3.heap[w.heap.size + 1]? = some (.cells #[.bool false, .slice none 0 0, .int .i64 0] 27 (0, 0)) ∧ W3.heap[w.heap.size + 1 + 1]? = some (.cells #[.bool false, .slice none 0 0, .int .i64 0] 27 (0, 0)) ∧ Below w.heap.size w W3 ∧ NB W3 gqA s1 ao1 n1 cp1 e1 tA ∧ NB W3 (gqA + 1) s2 ao2 n2 cp2 e2 tB ∧ w.heap.size + 1 + 1 < gqA ∧ NB W3 gqC s3 ao3 n3 cp3 e3 (un 1 0) ∧ NB W3 (gqC + 1) false none 0 0 0 nilN ∧ gqA + 1 < gqC) := ⟨box_later x1 hb23 (lt_of_box x1), box_later x2 hb23 (lt_of_box x2), box_later x3 hb23 (lt_of_box x3), xB.trans (hb23.mono xB.size), xa.later hb23, xb.later hb23, xg, ⟨z1, hA'⟩, ⟨z2, DN.zero8 _⟩, by omega⟩
  clear x1 x2 x3 xB xa xb xg hb3 hb23 z1 z2 hA' hsz hl H2
  have kk := k3.out W3 H3.out.2.2.2.1
  go_wp2_with fail
  refine kk.mono ?_
  rintro r w4 ⟨s5, ao5, n5, cp5, e5, s6, ao6, n6, cp6, e6, rfl, hA, hB, hb4⟩
  clear kk hf
  obtain ⟨x1, x2, x3, xB, xa, xb, xg, xc, xd, xh⟩ := H3.out
  have yc := box_later xc.1 hb4 (lt_of_box xc.1)
  have yd := box_later xd.1 hb4 (lt_of_box xd.1)
  have HM : Hid (w4.heap[w.heap.size]? = some (.cells #[.float .f64 a, .float .f64 b] 24 (0, 0)) ∧ w4.heap[w.heap.size + 1]? = some (.cells #[.bool false, .slice none 0 0, .int .i64 0] 27 (0, 0)) ∧ w4.heap[w.heap.size + 1 + 1]? = some (.cells #[.bool false, .slice none 0 0, .int .i64 0] 27 (0, 0)) ∧ Below w.heap.size w w4 ∧ NB w4 gqA s1 ao1 n1 cp1 e1 tA ∧ NB w4 (gqA + 1) s2 ao2 n2 cp2 e2 tB ∧ w.heap.size + 1 + 1 < gqA ∧ w4.heap[gqC]? = some (.cells #[.bool s3, .slice ao3 n3 cp3, .int .i64 e3] 27 (0, 0)) ∧ w4.heap[gqC + 1]? = some (.cells #[.bool false, .slice none 0 0, .int .i64 0] 27 (0, 0)) ∧ DN w4 (.agg #[.bool s5, .slice ao5 n5 cp5, .int .i64 e5]) tC ∧ DN w4 (.agg #[.bool s6, .slice ao6 n6 cp6, .int .i64 e6]) tD ∧ gqA + 1 < gqC) := ⟨box_later x1 hb4 (lt_of_box x1), box_later x2 hb4 (lt_of_box x2), box_later x3 hb4 (lt_of_box x3), xB.trans (hb4.mono xB.size), xa.later hb4, xb.later hb4, xg, yc, yd, hA, hB, xh⟩
  obtain ⟨⟨y0, y1, y2⟩, z0, z1, z2⟩ := box_cells29 yc
  obtain ⟨⟨p0, p1, p2⟩, q0, q1, q2⟩ := box_cells29 yd
  clear x1 x2 x3 xB xa xb xg xc xd xh hA hB hb4 yc yd H3
  obtain ⟨W4, hW4⟩ : ∃ W4, W4 = ((((((w4.setCell ⟨gqC, 0, none⟩ (.bool s5)).setCell ⟨gqC, 1, none⟩ (.slice ao5 n5 cp5)).setCell ⟨gqC, 2, none⟩ (.int .i64 e5)).setCell ⟨gqC + 1, 0, none⟩ (.bool s6)).setCell ⟨gqC + 1, 1, none⟩ (.slice ao6 n6 cp6)).setCell ⟨gqC + 1, 2, none⟩ (.int .i64 e6)) := ⟨_, rfl⟩
  go_upto_region 12 with fail
  clear y0 y1 y2 z0 z1 z2 p0 p1 p2 q0 q1 q2
  rw [← hW4]
  have H4 : Hid (W4.heap[w.heap.size]? = some (.cells #[.float .f64 a, .float .f64 b] 24 (0, 0)) ∧ W4.heap[w.heap.size + 1]? = some (.cells #[.bool false, .slice none 0 0, .int .i64 0] 27 (0, 0)) ∧ W4.heap[w.heap.size + 1 + 1]? = some (.cells #[.bool false, .slice none 0 0, .int .i64 0] 27 (0, 0)) ∧ Below w.heap.size w W4 ∧ NB W4 gqA s1 ao1 n1 cp1 e1 tA ∧ NB W4 (gqA + 1) s2 ao2 n2 cp2 e2 tB ∧ w.heap.size + 1 + 1 < gqA ∧ NB W4 gqC s5 ao5 n5 cp5 e5 tC ∧ NB W4 (gqC + 1) s6 ao6 n6 cp6 e6 tD ∧ gqA + 1 < gqC) := by
    obtain ⟨x1, x2, x3, xB, xa, xb, xg, xc, xd, yA, yB, xh⟩ := HM.out
    have ot : ∀ k, k ≠ gqC → k ≠ gqC + 1 → W4.heap[k]? = w4.heap[k]? := fun k h1 h2 => by rw [hW4]; exact (store3_oth8 _ _ _ h2).trans (store3_oth8 _ _ _ h1)
    have xd' : (((w4.setCell ⟨gqC, 0, none⟩ (.bool s5)).setCell ⟨gqC, 1, none⟩ (.slice ao5 n5 cp5)).setCell ⟨gqC, 2, none⟩ (.int .i64 e5)).heap[gqC + 1]? = _ := (store3_oth8 _ _ _ (by omega)).trans xd
    have dn : ∀ {A : Value} {t : Bool × Nat × Int}, DN w4 A t → DN W4 A t := fun h => by rw [hW4]; exact dn_store8 (dn_store8 h xc _ _ _) xd' _ _ _
    refine ⟨(ot _ (by omega) (by omega)).trans x1, (ot _ (by omega) (by omega)).trans x2, (ot _ (by omega) (by omega)).trans x3, ?_, ⟨(ot _ (by omega) (by omega)).trans xa.1, dn xa.2⟩, ⟨(ot _ (by omega) (by omega)).trans xb.1, dn xb.2⟩, xg, ⟨?_, dn yA⟩, ⟨?_, dn yB⟩, xh⟩
    · rw [hW4]; exact below_store3 (below_store3 xB (by omega) _ _ _) (by omega) _ _ _
    · rw [hW4]; exact (store3_oth8 _ _ _ (by omega)).trans (store3_29 _ _ _ xc)
    · rw [hW4]; exact store3_29 _ _ _ xd'
  clear hW4 HM
  obtain ⟨x1, x2, x3, xB, xa, xb, xg, xc, xd, xh⟩ := H4.out
  have kk := k4.out s1 ao1 n1 cp1 e1 s2 ao2 n2 cp2 e2 s5 ao5 n5 cp5 e5 s6 ao6 n6 cp6 e6 W4 xB xa.2 xb.2 xc.2 xd.2
  obtain ⟨k0, k1', k2'⟩ := (cells3N xa.1).1
  obtain ⟨l0, l1, l2⟩ := (cells3N xb.1).1
  obtain ⟨m0, m1, m2⟩ := (cells3N xc.1).1
  obtain ⟨y0, y1, y2⟩ := (cells3N xd.1).1
  clear x1 x2 x3 xB xa xb xg xc xd xh
  go_wp2_with fail
  refine kk.mono ?_
  rintro r w5 ⟨s7, ao7, n7, cp7, e7, s8, ao8, n8, cp8, e8, rfl, hA, hB, hb5⟩
  clear kk k0 k1' k2' l0 l1 l2 m0 m1 m2 y0 y1 y2
  obtain ⟨x1, x2, x3, xB, xa, xb, xg, xc, xd, xh⟩ := H4.out
  obtain ⟨W5, hW5⟩ : ∃ W5, W5 = (w5.alloc (.cells #[.bool s7, .slice ao7 n7 cp7, .int .i64 e7] 27)).alloc (.cells #[.bool s8, .slice ao8 n8 cp8, .int .i64 e8] 27) := ⟨_, rfl⟩
  obtain ⟨z1, z2, z3, z4⟩ := two_new _ _ hW5
  have hb45 : Below W4.heap.size W4 W5 := hb5.trans (z4.mono hb5.size)
  go_upto_region 13 with fail
  rw [← hW5]
  clear hW5
  have hsz := hb5.size
  have hl := lt_of_box xd.1
  have hA' := hA.later z4
  have hB' := hB.later z4
  clear z3 z4 hA hB
  generalize w5.heap.size = gqP at *
  have H5 : Hid (W5.heap[w.heap.size]? = some (.cells #[.float .f64 a, .float .f64 b] 24 (0, 0)) ∧ W5.heap[w.heap.size + 1]? = some (.cells #[.bool false, .slice none 0 0, .int .i64 0] 27 (0, 0)) ∧ W5.heap[w.heap.size + 1 + 1]? = some (.cells #[.bool false, .slice none 0 0, .int .i64 0] 27 (0, 0)) ∧ Below w.heap.size w W5 ∧ NB W5 gqP s7 ao7 n7 cp7 e7 tP ∧ NB W5 (gqP + 1) s8 ao8 n8 cp8 e8 tQ ∧ w.heap.size + 1 + 1 < gqP) := ⟨box_later x1 hb45 (lt_of_box x1), box_later x2 hb45 (lt_of_box x2), box_later x3 hb45 (lt_of_box x3), xB.trans (hb45.mono xB.size), ⟨z1, hA'⟩, ⟨z2, hB'⟩, by omega⟩
  clear x1 x2 x3 xB xa xb xg xc xd xh hb5 hb45 z1 z2 hA' hB' hsz hl H4
  have c1 : W5.cell? ⟨w.heap.size, 1, none⟩ = some (.float .f64 b) := by simp [World.cell?, H5.out.1]
  obtain ⟨x1, x2, x3, xB, xa, xb, xg⟩ := H5.out
  have kk := gminus xa.2
  obtain ⟨k0, k1', k2'⟩ := (cells3N xa.1).1
  clear x1 x2 x3 xB xa xb xg
  go_wp2_with fail
  refine kk.mono ?_
  rintro r w6 ⟨A, rfl, hA, hb6⟩
  obtain ⟨s9, ao9, n9, cp9, e9, rfl⟩ := hA.shape
  clear kk k0 k1' k2' c1 hlt
  rw [hP] at hA
  obtain ⟨x1, x2, x3, xB, xa, xb, xg⟩ := H5.out
  have ya := box_later xa.1 hb6 (lt_of_box xa.1)
  have HM : Hid (w6.heap[w.heap.size]? = some (.cells #[.float .f64 a, .float .f64 b] 24 (0, 0)) ∧ w6.heap[w.heap.size + 1]? = some (.cells #[.bool false, .slice none 0 0, .int .i64 0] 27 (0, 0)) ∧ w6.heap[w.heap.size + 1 + 1]? = some (.cells #[.bool false, .slice none 0 0, .int .i64 0] 27 (0, 0)) ∧ Below w.heap.size w w6 ∧ w6.heap[gqP]? = some (.cells #[.bool s7, .slice ao7 n7 cp7, .int .i64 e7] 27 (0, 0)) ∧ NB w6 (gqP + 1) s8 ao8 n8 cp8 e8 tQ ∧ w.heap.size + 1 + 1 < gqP ∧ DN w6 (.agg #[.bool s9, .slice ao9 n9 cp9, .int .i64 e9]) tP') := ⟨box_later x1 hb6 (lt_of_box x1), box_later x2 hb6 (lt_of_box x2), box_later x3 hb6 (lt_of_box x3), xB.trans (hb6.mono xB.size), ya, xb.later hb6, xg, hA⟩
  obtain ⟨⟨y0, y1, y2⟩, z0, z1, z2⟩ := box_cells29 ya
  clear x1 x2 x3 xB xa xb xg hA hb6 ya H5
  obtain ⟨W6, hW6⟩ : ∃ W6, W6 = (((w6.setCell ⟨gqP, 0, none⟩ (.bool s9)).setCell ⟨gqP, 1, none⟩ (.slice ao9 n9 cp9)).setCell ⟨gqP, 2, none⟩ (.int .i64 e9)) := ⟨_, rfl⟩
  go_upto_region 15 with fail
  clear y0 y1 y2 z0 z1 z2
  rw [← hW6]
  have H6 : Hid (W6.heap[w.heap.size]? = some (.cells #[.float .f64 a, .float .f64 b] 24 (0, 0)) ∧ W6.heap[w.heap.size + 1]? = some (.cells #[.bool false, .slice none 0 0, .int .i64 0] 27 (0, 0)) ∧ W6.heap[w.heap.size + 1 + 1]? = some (.cells #[.bool false, .slice none 0 0, .int .i64 0] 27 (0, 0)) ∧ Below w.heap.size w W6 ∧ NB W6 gqP s9 ao9 n9 cp9 e9 tP' ∧ NB W6 (gqP + 1) s8 ao8 n8 cp8 e8 tQ ∧ w.heap.size + 1 + 1 < gqP) := by
    obtain ⟨x1, x2, x3, xB, xa, xb, xg, yA⟩ := HM.out
    have ot : ∀ k, k ≠ gqP → W6.heap[k]? = w6.heap[k]? := fun k h1 => by rw [hW6]; exact store3_oth8 _ _ _ h1
    have dn : ∀ {A : Value} {t : Bool × Nat × Int}, DN w6 A t → DN W6 A t := fun h => by rw [hW6]; exact dn_store8 h xa _ _ _
    refine ⟨(ot _ (by omega)).trans x1, (ot _ (by omega)).trans x2, (ot _ (by omega)).trans x3, ?_, ⟨?_, dn yA⟩, ⟨(ot _ (by omega)).trans xb.1, dn xb.2⟩, xg⟩
    · rw [hW6]; exact below_store3 xB (by omega) _ _ _
    · rw [hW6]; exact store3_29 _ _ _ xa
  clear hW6 HM
  obtain ⟨x1, x5, x6, x7, xp, xq, xg⟩ := H6.out
  have hbx2 : ∀ i, i < 2 → ∃ cs, W6.heap[two (w.heap.size + 1) (w.heap.size + 1 + 1) i]? = some (.cells cs 27 (0, 0)) ∧ NC3 cs := fun i hi => by
    rcases lt2F hi with rfl | rfl
    · exact ⟨_, x5, _, _, _, _, _, rfl⟩
    · exact ⟨_, x6, _, _, _, _, _, rfl⟩
  have ne : ∀ g, w.heap.size + 1 + 1 < g → ∀ i, i < 2 → g ≠ two (w.heap.size + 1) (w.heap.size + 1 + 1) i := fun g h i hi => by
    rcases lt2F hi with rfl | rfl
    · show g ≠ w.heap.size + 1; omega
    · show g ≠ w.heap.size + 1 + 1; omega
  refine q_region follows_mixed [0, 1, 4] [2, 3] [67, 68, 4] [[], [], []] [[0], [1]] [0, 1] (two 2 3) (two (w.heap.size + 1) (w.heap.size + 1 + 1)) w.heap.size 27 NC3 3 W6 _ [isV (.agg #[.bool s9, .slice ao9 n9 cp9, .int .i64 e9]), isV (.agg #[.bool s8, .slice ao8 n8 cp8, .int .i64 e8]), isV (.int .i64 0)] (by kernel_rfl) ⟨isV_stays _, isV_stays _, isV_stays _, trivial⟩ ⟨isV_rows _ _ _, isV_rows _ _ _, isV_rows _ _ _, trivial⟩ (by show ∀ s ∈ [67, 68, 4], s < 69; decide) ?_ ?_ Tryz.info27 ?_ ?_ ?_ (two_inj (by omega)) x7.size ?_
  · intro i hi U u h
    rcases lt2F hi with rfl | rfl
    · obtain rfl : u = _ := h
      exact ⟨_, rfl, rfl, ⟨_, _, _, _, _, rfl⟩, one3 rfl rfl⟩
    · obtain rfl : u = _ := h
      exact ⟨_, rfl, rfl, ⟨_, _, _, _, _, rfl⟩, one3 rfl rfl⟩
  · intro j hj o ho act U hK hoth hdep hrd
    have hj' : j < 3 := hj
    rcases (by omega : j = 0 ∨ j = 1 ∨ j = 2) with rfl | rfl | rfl
    · obtain rfl := Option.some.inj ho
      have tp : act.tmps[(11 : Nat)]? = some (Value.pointer (some ⟨gqP, 0, none⟩)) := (hoth 11 (by decide)).trans rfl
      have cp := (cells3N ((hK.keep gqP (lt_of_box xp.1) (ne gqP (by omega))).trans xp.1)).1
      exact .inl ⟨rfl, owp_ldD rfl tp cp.1 cp.2.1 cp.2.2 ⟨_, rfl, rfl, Below.refl _ _⟩⟩
    · obtain rfl := Option.some.inj ho
      have tp : act.tmps[(12 : Nat)]? = some (Value.pointer (some ⟨gqP + 1, 0, none⟩)) := (hoth 12 (by decide)).trans rfl
      have cp := (cells3N ((hK.keep (gqP + 1) (lt_of_box xq.1) (ne (gqP + 1) (by omega))).trans xq.1)).1
      exact .inl ⟨rfl, owp_ldD rfl tp cp.1 cp.2.1 cp.2.2 ⟨_, rfl, rfl, Below.refl _ _⟩⟩
    · obtain rfl := Option.some.inj ho
      exact .inl ⟨rfl, owp_cst (s := 0) rfl ⟨_, rfl, rfl, Below.refl _ _⟩⟩
  · intro i hi
    rcases lt2F hi with rfl | rfl <;> exact ⟨_, rfl, rfl⟩
  · intro i hi
    rcases lt2F hi with rfl | rfl
    · exact ⟨rfl, by decide⟩
    · exact ⟨rfl, by decide⟩
  · intro i hi
    rcases lt2F hi with rfl | rfl
    · exact ⟨by show w.heap.size ≤ w.heap.size + 1; omega, _, x5, rfl, _, _, _, _, _, rfl⟩
    · exact ⟨by show w.heap.size ≤ w.heap.size + 1 + 1; omega, _, x6, rfl, _, _, _, _, _, rfl⟩
  · intro u U hK hu hcs
    obtain ⟨csb, yb, zb⟩ := hcs 1 (by decide)
    obtain ⟨csa, ya, za⟩ := hcs 0 (by decide)
    have u0 : u 0 = .agg #[.bool s9, .slice ao9 n9 cp9, .int .i64 e9] := hu 0 (by decide)
    have u1 : u 1 = .agg #[.bool s8, .slice ao8 n8 cp8, .int .i64 e8] := hu 1 (by decide)
    have u2 : u 2 = .int .i64 0 := hu 2 (by decide)
    have ya' : u 0 = .agg csa := ya
    have yb' : u 1 = .agg csb := yb
    rw [u0] at ya'
    rw [u1] at yb'
    obtain rfl := Value.agg.inj ya'
    obtain rfl := Value.agg.inj yb'
    have HX : Hid (U.heap[w.heap.size + 1]? = some (.cells #[.bool s9, .slice ao9 n9 cp9, .int .i64 e9] 27 (0, 0)) ∧ U.heap[w.heap.size + 1 + 1]? = some (.cells #[.bool s8, .slice ao8 n8 cp8, .int .i64 e8] 27 (0, 0)) ∧ DN U (.agg #[.bool s9, .slice ao9 n9 cp9, .int .i64 e9]) tP' ∧ DN U (.agg #[.bool s8, .slice ao8 n8 cp8, .int .i64 e8]) tQ ∧ Below w.heap.size w U) := ⟨za, zb, DN.keepN hK hbx2 xp.2, DN.keepN hK hbx2 xq.2, x7.trans hK.below⟩
    clear hu hcs ya yb za zb ya' yb' hK x1 x5 x6 x7 xp xq hbx2 ne H6
    simp only [putL, show List.range 3 = [0, 1, 2] from rfl, List.length_cons, List.length_nil, List.getD_cons_zero, List.getD_cons_succ, List.map_cons, List.map_nil, List.cons_append, List.nil_append, List.foldl_cons, List.foldl_nil, Nat.reduceLT, Nat.reduceMod, Nat.reduceDiv, Nat.reduceMul, Nat.reduceAdd, Nat.reduceEqDiff, reduceIte, Nat.one_ne_zero, Act.put, List.setIfInBounds_toArray, List.set_cons_zero, List.set_cons_succ]
    rw [u2]
    go_wp2_with fail
    refine bodyPost_ret (results_c2t rfl _ _ (w.heap.size + 1) (w.heap.size + 1 + 1) 27 #[.bool s9, .slice ao9 n9 cp9, .int .i64 e9] #[.bool s8, .slice ao8 n8 cp8, .int .i64 e8] (0, 0) (0, 0) _ rfl rfl HX.out.1 HX.out.2.1 Tryz.underlying27 rfl Tryz.info27 Tryz.info27) rfl ?_
    exact ⟨_, _, _, _, _, _, _, _, _, _, rfl, HX.out.2.2.1, HX.out.2.2.2.1, HX.out.2.2.2.2⟩
set_option maxRecDepth 200000 in
theorem dsimp8_10 (a b : Nat) (w : World) (x y : Nat) (tA tB tC tD tP tP' tQ : Bool × Nat × Int) (hz1 : (FloatKind.f64.format.order a 0 == some Ordering.lt) = true) (hz2 : (FloatKind.f64.format.order a 0 == some Ordering.eq) = false) (hz3 : (FloatKind.f64.format.order b 0 == some Ordering.gt) = false) (hz4 : (FloatKind.f64.format.order b 0 == some Ordering.eq) = false) (hx : Op.negFloat .f64 b = x) (hy : Op.negFloat .f64 a = y) (hlt : (FloatKind.f64.format.order b 0 == some Ordering.lt) = true) (hf : (FloatKind.f64.format.order y 9218868437227405311 == some Ordering.lt || FloatKind.f64.format.order y 9218868437227405311 == some Ordering.eq) = false)
    (k1 : ∀ W, Below w.heap.size w W → Calls Tryz.prog 16 #[.agg #[.float .f64 a, .float .f64 b]] W fun r w' => r = .returned (.bool true) ∧ Below W.heap.size W w')
    (k2 : Hid (∀ W, Below w.heap.size w W → Calls Tryz.prog 18 #[.float .f64 x] W fun r w' => Out2D W tA tB r w'))
    (k4 : Hid (∀ (s1 : Bool) (ao1 : Option Addr) (n1 cp1 : Nat) (e1 : Int) (s2 : Bool) (ao2 : Option Addr) (n2 cp2 : Nat) (e2 : Int) (s3 : Bool) (ao3 : Option Addr) (n3 cp3 : Nat) (e3 : Int) (s4 : Bool) (ao4 : Option Addr) (n4 cp4 : Nat) (e4 : Int) W, Below w.heap.size w W → DN W (.agg #[.bool s1, .slice ao1 n1 cp1, .int .i64 e1]) tA → DN W (.agg #[.bool s2, .slice ao2 n2 cp2, .int .i64 e2]) tB → DN W (.agg #[.bool s3, .slice ao3 n3 cp3, .int .i64 e3]) (un 1 0) → DN W (.agg #[.bool s4, .slice ao4 n4 cp4, .int .i64 e4]) nilN → Calls Tryz.prog 19 #[.agg #[.bool s1, .slice ao1 n1 cp1, .int .i64 e1], .agg #[.bool s2, .slice ao2 n2 cp2, .int .i64 e2], .agg #[.bool s3, .slice ao3 n3 cp3, .int .i64 e3], .agg #[.bool s4, .slice ao4 n4 cp4, .int .i64 e4]] W fun r w' => Out2D W tP tQ r w'))
    (hP : gN tP = tP') : Calls Tryz.prog 5 #[.agg #[.float .f64 a, .float .f64 b]] w fun r w' => Out3D w tP' tQ 0 r w' := by
  obtain ⟨W, hW⟩ : ∃ W, W = ((w.alloc (.cells #[.float .f64 a, .float .f64 b] 24)).alloc (.cells #[.bool false, .slice none 0 0, .int .i64 0] 27)).alloc (.cells #[.bool false, .slice none 0 0, .int .i64 0] 27) := ⟨_, rfl⟩
  obtain ⟨hF, hN, hM, hBW⟩ := three_new _ _ _ hW
  have c0 : W.cell? ⟨w.heap.size, 0, none⟩ = some (.float .f64 a) := by simp [World.cell?, hF]
  have c1 : W.cell? ⟨w.heap.size, 1, none⟩ = some (.float .f64 b) := by simp [World.cell?, hF]
  have HF : Hid (W.heap[w.heap.size]? = some (.cells #[.float .f64 a, .float .f64 b] 24 (0, 0)) ∧ W.heap[w.heap.size + 1]? = some (.cells #[.bool false, .slice none 0 0, .int .i64 0] 27 (0, 0)) ∧ W.heap[w.heap.size + 1 + 1]? = some (.cells #[.bool false, .slice none 0 0, .int .i64 0] 27 (0, 0)) ∧ Below w.heap.size w W) := ⟨hF, hN, hM, hBW⟩
  have kk := k1 W hBW
  clear k1 hF hN hM hBW
  go_enter Tryz.func5, Tryz.ntmps5
  go_upto_region 1 with fail
  rw [← hW]
  clear hW
  go_wp2_with fail
  refine kk.mono ?_
  rintro r w1 ⟨rfl, hb1⟩
  clear kk c0 c1
  have HG : Hid (w1.heap[w.heap.size]? = some (.cells #[.float .f64 a, .float .f64 b] 24 (0, 0)) ∧ w1.heap[w.heap.size + 1]? = some (.cells #[.bool false, .slice none 0 0, .int .i64 0] 27 (0, 0)) ∧ w1.heap[w.heap.size + 1 + 1]? = some (.cells #[.bool false, .slice none 0 0, .int .i64 0] 27 (0, 0)) ∧ Below w.heap.size w w1) := ⟨box_later HF.out.1 hb1 (lt_of_box HF.out.1), box_later HF.out.2.1 hb1 (lt_of_box HF.out.2.1), box_later HF.out.2.2.1 hb1 (lt_of_box HF.out.2.2.1), HF.out.2.2.2.trans (hb1.mono HF.out.2.2.2.size)⟩
  clear hb1 HF
  have c0 : w1.cell? ⟨w.heap.size, 0, none⟩ = some (.float .f64 a) := by simp [World.cell?, HG.out.1]
  have c1 : w1.cell? ⟨w.heap.size, 1, none⟩ = some (.float .f64 b) := by simp [World.cell?, HG.out.1]
  go_upto_region 5 with fail
  go_quiet (fail)
  go_upto_region 8 with fail
  clear c0 c1 hz1 hz2 hz3 hz4
  obtain ⟨V1, hV1⟩ : ∃ V1, V1 = w1.drewN nq := ⟨_, rfl⟩
  rw [← hV1]
  have hbV : Below w1.heap.size w1 V1 := by rw [hV1]; exact bdrewN (Below.refl _ _) nq
  have H1 : Hid (V1.heap[w.heap.size]? = some (.cells #[.float .f64 a, .float .f64 b] 24 (0, 0)) ∧ V1.heap[w.heap.size + 1]? = some (.cells #[.bool false, .slice none 0 0, .int .i64 0] 27 (0, 0)) ∧ V1.heap[w.heap.size + 1 + 1]? = some (.cells #[.bool false, .slice none 0 0, .int .i64 0] 27 (0, 0)) ∧ Below w.heap.size w V1) := ⟨box_later HG.out.1 hbV (lt_of_box HG.out.1), box_later HG.out.2.1 hbV (lt_of_box HG.out.2.1), box_later HG.out.2.2.1 hbV (lt_of_box HG.out.2.2.1), HG.out.2.2.2.trans (hbV.mono HG.out.2.2.2.size)⟩
  clear hbV hV1 HG
  have kk := k2.out V1 H1.out.2.2.2
  go_wp2_with fail
  refine kk.mono ?_
  rintro r w2 ⟨s1, ao1, n1, cp1, e1, s2, ao2, n2, cp2, e2, rfl, hA, hB, hb2⟩
  clear kk
  obtain ⟨W2, hW2⟩ : ∃ W2, W2 = (w2.alloc (.cells #[.bool s1, .slice ao1 n1 cp1, .int .i64 e1] 27)).alloc (.cells #[.bool s2, .slice ao2 n2 cp2, .int .i64 e2] 27) := ⟨_, rfl⟩
  obtain ⟨z1, z2, z3, z4⟩ := two_new _ _ hW2
  have hb12 : Below V1.heap.size V1 W2 := hb2.trans (z4.mono hb2.size)
  obtain ⟨x1, x2, x3, xB⟩ := H1.out
  go_upto_region 9 with fail
  rw [← hW2]
  clear hW2
  have hsz := hb2.size
  have hl := lt_of_box x3
  have hA' := hA.later z4
  have hB' := hB.later z4
  clear z3 z4 hA hB
  generalize w2.heap.size = gqA at *
  have H2 : Hid (W2.heap[w.heap.size]? = some (.cells #[.float .f64 a, .float .f64 b] 24 (0, 0)) ∧ W2.heap[w.heap.size + 1]? = some (.cells #[.bool false, .slice none 0 0, .int .i64 0] 27 (0, 0)) ∧ W2.heap[w.heap.size + 1 + 1]? = some (.cells #[.bool false, .slice none 0 0, .int .i64 0] 27 (0, 0)) ∧ Below w.heap.size w W2 ∧ NB W2 gqA s1 ao1 n1 cp1 e1 tA ∧ NB W2 (gqA + 1) s2 ao2 n2 cp2 e2 tB ∧ w.heap.size + 1 + 1 < gqA) := ⟨box_later x1 hb12 (lt_of_box x1), box_later x2 hb12 (lt_of_box x2), box_later x3 hb12 (lt_of_box x3), xB.trans (hb12.mono xB.size), ⟨z1, hA'⟩, ⟨z2, hB'⟩, by omega⟩
  clear x1 x2 x3 xB hb2 hb12 z1 z2 hA' hB' hsz hl H1
  have kk := dwholeU (n := 1) (by omega) W2
  go_wp2_with fail
  refine kk.mono ?_
  rintro r w3 ⟨A, rfl, hA, hb3⟩
  obtain ⟨s3, ao3, n3, cp3, e3, rfl⟩ := hA.shape
  clear kk
  obtain ⟨W3, hW3⟩ : ∃ W3, W3 = (w3.alloc (.cells #[.bool s3, .slice ao3 n3 cp3, .int .i64 e3] 27)).alloc (.cells #[.bool false, .slice none 0 0, .int .i64 0] 27) := ⟨_, rfl⟩
  obtain ⟨z1, z2, z3, z4⟩ := two_new _ _ hW3
  have hb23 : Below W2.heap.size W2 W3 := hb3.trans (z4.mono hb3.size)
  obtain ⟨x1, x2, x3, xB, xa, xb, xg⟩ := H2.out
  go_upto_region 10 with fail
  rw [← hW3]
  clear hW3
  have hsz := hb3.size
  have hl := lt_of_box xb.1
  have hA' := hA.later z4
  clear z3 z4 hA
  generalize w3.heap.size = gqC at *
  have H3 : Hid (W3.heap[w.heap.size]? = some (.cells #[.float .f64 a, .float .f64 b] 24 (0, 0)) ∧ W3.heap[w.heap.size + 1]? = some (.cells #[.bool false, .slice none 0 0, .int .i64 0] 27 (0, 0)) ∧ W3.heap[w.heap.size + 1 + 1]? = some (.cells #[.bool false, .slice none 0 0, .int .i64 0] 27 (0, 0)) ∧ Below w.heap.size w W3 ∧ NB W3 gqA s1 ao1 n1 cp1 e1 tA ∧ NB W3 (gqA + 1) s2 ao2 n2 cp2 e2 tB ∧ w.heap.size + 1 + 1 < gqA ∧ NB W3 gqC s3 ao3 n3 cp3 e3 (un 1 0) ∧ NB W3 (gqC + 1) false none 0 0 0 nilN ∧ gqA + 1 < gqC) := ⟨box_later x1 hb23 (lt_of_box x1), box_later x2 hb23 (lt_of_box x2), box_later x3 hb23 (lt_of_box x3), xB.trans (hb23.mono xB.size), xa.later hb23, xb.later hb23, xg, ⟨z1, hA'⟩, ⟨z2, DN.zero8 _⟩, by omega⟩
  clear x1 x2 x3 xB xa xb xg hb3 hb23 z1 z2 hA' hsz hl H2
  go_upto_region 12 with fail
  clear hf
  have H4 := H3
  obtain ⟨x1, x2, x3, xB, xa, xb, xg, xc, xd, xh⟩ := H4.out
  have kk := k4.out s1 ao1 n1 cp1 e1 s2 ao2 n2 cp2 e2 s3 ao3 n3 cp3 e3 false none 0 0 0 W3 xB xa.2 xb.2 xc.2 xd.2
  obtain ⟨k0, k1', k2'⟩ := (cells3N xa.1).1
  obtain ⟨l0, l1, l2⟩ := (cells3N xb.1).1
  obtain ⟨m0, m1, m2⟩ := (cells3N xc.1).1
  obtain ⟨y0, y1, y2⟩ := (cells3N xd.1).1
  clear x1 x2 x3 xB xa xb xg xc xd xh
  go_wp2_with fail
  refine kk.mono ?_
  rintro r w5 ⟨s7, ao7, n7, cp7, e7, s8, ao8, n8, cp8, e8, rfl, hA, hB, hb5⟩
  clear kk k0 k1' k2' l0 l1 l2 m0 m1 m2 y0 y1 y2
  obtain ⟨x1, x2, x3, xB, xa, xb, xg, xc, xd, xh⟩ := H4.out
  obtain ⟨W5, hW5⟩ : ∃ W5, W5 = (w5.alloc (.cells #[.bool s7, .slice ao7 n7 cp7, .int .i64 e7] 27)).alloc (.cells #[.bool s8, .slice ao8 n8 cp8, .int .i64 e8] 27) := ⟨_, rfl⟩
  obtain ⟨z1, z2, z3, z4⟩ := two_new _ _ hW5
  have hb45 : Below W3.heap.size W3 W5 := hb5.trans (z4.mono hb5.size)
  go_upto_region 13 with fail
  rw [← hW5]
  clear hW5
  have hsz := hb5.size
  have hl := lt_of_box xd.1
  have hA' := hA.later z4
  have hB' := hB.later z4
  clear z3 z4 hA hB
  generalize w5.heap.size = gqP at *
  have H5 : Hid (W5.heap[w.heap.size]? = some (.cells #[.float .f64 a, .float .f64 b] 24 (0, 0)) ∧ W5.heap[w.heap.size + 1]? = some (.cells #[.bool false, .slice none 0 0, .int .i64 0] 27 (0, 0)) ∧ W5.heap[w.heap.size + 1 + 1]? = some (.cells #[.bool false, .slice none 0 0, .int .i64 0] 27 (0, 0)) ∧ Below w.heap.size w W5 ∧ NB W5 gqP s7 ao7 n7 cp7 e7 tP ∧ NB W5 (gqP + 1) s8 ao8 n8 cp8 e8 tQ ∧ w.heap.size + 1 + 1 < gqP) := ⟨box_later x1 hb45 (lt_of_box x1), box_later x2 hb45 (lt_of_box x2), box_later x3 hb45 (lt_of_box x3), xB.trans (hb45.mono xB.size), ⟨z1, hA'⟩, ⟨z2, hB'⟩, by omega⟩
  clear x1 x2 x3 xB xa xb xg xc xd xh hb5 hb45 z1 z2 hA' hB' hsz hl H4
  have c1 : W5.cell? ⟨w.heap.size, 1, none⟩ = some (.float .f64 b) := by simp [World.cell?, H5.out.1]
  obtain ⟨x1, x2, x3, xB, xa, xb, xg⟩ := H5.out
  have kk := gminus xa.2
  obtain ⟨k0, k1', k2'⟩ := (cells3N xa.1).1
  clear x1 x2 x3 xB xa xb xg
  go_wp2_with fail
  refine kk.mono ?_
  rintro r w6 ⟨A, rfl, hA, hb6⟩
  obtain ⟨s9, ao9, n9, cp9, e9, rfl⟩ := hA.shape
  clear kk k0 k1' k2' c1 hlt
  rw [hP] at hA
  obtain ⟨x1, x2, x3, xB, xa, xb, xg⟩ := H5.out
  have ya := box_later xa.1 hb6 (lt_of_box xa.1)
  have HM : Hid (w6.heap[w.heap.size]? = some (.cells #[.float .f64 a, .float .f64 b] 24 (0, 0)) ∧ w6.heap[w.heap.size + 1]? = some (.cells #[.bool false, .slice none 0 0, .int .i64 0] 27 (0, 0)) ∧ w6.heap[w.heap.size + 1 + 1]? = some (.cells #[.bool false, .slice none 0 0, .int .i64 0] 27 (0, 0)) ∧ Below w.heap.size w w6 ∧ w6.heap[gqP]? = some (.cells #[.bool s7, .slice ao7 n7 cp7, .int .i64 e7] 27 (0, 0)) ∧ NB w6 (gqP + 1) s8 ao8 n8 cp8 e8 tQ ∧ w.heap.size + 1 + 1 < gqP ∧ DN w6 (.agg #[.bool s9, .slice ao9 n9 cp9, .int .i64 e9]) tP') := ⟨box_later x1 hb6 (lt_of_box x1), box_later x2 hb6 (lt_of_box x2), box_later x3 hb6 (lt_of_box x3), xB.trans (hb6.mono xB.size), ya, xb.later hb6, xg, hA⟩
  obtain ⟨⟨y0, y1, y2⟩, z0, z1, z2⟩ := box_cells29 ya
  clear x1 x2 x3 xB xa xb xg hA hb6 ya H5
  obtain ⟨W6, hW6⟩ : ∃ W6, W6 = (((w6.setCell ⟨gqP, 0, none⟩ (.bool s9)).setCell ⟨gqP, 1, none⟩ (.slice ao9 n9 cp9)).setCell ⟨gqP, 2, none⟩ (.int .i64 e9)) := ⟨_, rfl⟩
  go_upto_region 15 with fail
  clear y0 y1 y2 z0 z1 z2
  rw [← hW6]
  have H6 : Hid (W6.heap[w.heap.size]? = some (.cells #[.float .f64 a, .float .f64 b] 24 (0, 0)) ∧ W6.heap[w.heap.size + 1]? = some (.cells #[.bool false, .slice none 0 0, .int .i64 0] 27 (0, 0)) ∧ W6.heap[w.heap.size + 1 + 1]? = some (.cells #[.bool false, .slice none 0 0, .int .i64 0] 27 (0, 0)) ∧ Below w.heap.size w W6 ∧ NB W6 gqP s9 ao9 n9 cp9 e9 tP' ∧ NB W6 (gqP + 1) s8 ao8 n8 cp8 e8 tQ ∧ w.heap.size + 1 + 1 < gqP) := by
    obtain ⟨x1, x2, x3, xB, xa, xb, xg, yA⟩ := HM.out
    have ot : ∀ k, k ≠ gqP → W6.heap[k]? = w6.heap[k]? := fun k h1 => by rw [hW6]; exact store3_oth8 _ _ _ h1
    have dn : ∀ {A : Value} {t : Bool × Nat × Int}, DN w6 A t → DN W6 A t := fun h => by rw [hW6]; exact dn_store8 h xa _ _ _
    refine ⟨(ot _ (by omega)).trans x1, (ot _ (by omega)).trans x2, (ot _ (by omega)).trans x3, ?_, ⟨?_, dn yA⟩, ⟨(ot _ (by omega)).trans xb.1, dn xb.2⟩, xg⟩
    · rw [hW6]; exact below_store3 xB (by omega) _ _ _
    · rw [hW6]; exact store3_29 _ _ _ xa
  clear hW6 HM
  obtain ⟨x1, x5, x6, x7, xp, xq, xg⟩ := H6.out
  have hbx2 : ∀ i, i < 2 → ∃ cs, W6.heap[two (w.heap.size + 1) (w.heap.size + 1 + 1) i]? = some (.cells cs 27 (0, 0)) ∧ NC3 cs := fun i hi => by
    rcases lt2F hi with rfl | rfl
    · exact ⟨_, x5, _, _, _, _, _, rfl⟩
    · exact ⟨_, x6, _, _, _, _, _, rfl⟩
  have ne : ∀ g, w.heap.size + 1 + 1 < g → ∀ i, i < 2 → g ≠ two (w.heap.size + 1) (w.heap.size + 1 + 1) i := fun g h i hi => by
    rcases lt2F hi with rfl | rfl
    · show g ≠ w.heap.size + 1; omega
    · show g ≠ w.heap.size + 1 + 1; omega
  refine q_region follows_mixed [0, 1, 4] [2, 3] [67, 68, 4] [[], [], []] [[0], [1]] [0, 1] (two 2 3) (two (w.heap.size + 1) (w.heap.size + 1 + 1)) w.heap.size 27 NC3 3 W6 _ [isV (.agg #[.bool s9, .slice ao9 n9 cp9, .int .i64 e9]), isV (.agg #[.bool s8, .slice ao8 n8 cp8, .int .i64 e8]), isV (.int .i64 0)] (by kernel_rfl) ⟨isV_stays _, isV_stays _, isV_stays _, trivial⟩ ⟨isV_rows _ _ _, isV_rows _ _ _, isV_rows _ _ _, trivial⟩ (by show ∀ s ∈ [67, 68, 4], s < 69; decide) ?_ ?_ Tryz.info27 ?_ ?_ ?_ (two_inj (by omega)) x7.size ?_
  · intro i hi U u h
    rcases lt2F hi with rfl | rfl
    · obtain rfl : u = _ := h
      exact ⟨_, rfl, rfl, ⟨_, _, _, _, _, rfl⟩, one3 rfl rfl⟩
    · obtain rfl : u = _ := h
      exact ⟨_, rfl, rfl, ⟨_, _, _, _, _, rfl⟩, one3 rfl rfl⟩
  · intro j hj o ho act U hK hoth hdep hrd
    have hj' : j < 3 := hj
    rcases (by omega : j = 0 ∨ j = 1 ∨ j = 2) with rfl | rfl | rfl
    · obtain rfl := Option.some.inj ho
      have tp : act.tmps[(11 : Nat)]? = some (Value.pointer (some ⟨gqP, 0, none⟩)) := (hoth 11 (by decide)).trans rfl
      have cp := (cells3N ((hK.keep gqP (lt_of_box xp.1) (ne gqP (by omega))).trans xp.1)).1
      exact .inl ⟨rfl, owp_ldD rfl tp cp.1 cp.2.1 cp.2.2 ⟨_, rfl, rfl, Below.refl _ _⟩⟩
    · obtain rfl := Option.some.inj ho
      have tp : act.tmps[(12 : Nat)]? = some (Value.pointer (some ⟨gqP + 1, 0, none⟩)) := (hoth 12 (by decide)).trans rfl
      have cp := (cells3N ((hK.keep (gqP + 1) (lt_of_box xq.1) (ne (gqP + 1) (by omega))).trans xq.1)).1
      exact .inl ⟨rfl, owp_ldD rfl tp cp.1 cp.2.1 cp.2.2 ⟨_, rfl, rfl, Below.refl _ _⟩⟩
    · obtain rfl := Option.some.inj ho
      exact .inl ⟨rfl, owp_cst (s := 0) rfl ⟨_, rfl, rfl, Below.refl _ _⟩⟩
  · intro i hi
    rcases lt2F hi with rfl | rfl <;> exact ⟨_, rfl, rfl⟩
  · intro i hi
    rcases lt2F hi with rfl | rfl
    · exact ⟨rfl, by decide⟩
    · exact ⟨rfl, by decide⟩
  · intro i hi
    rcases lt2F hi with rfl | rfl
    · exact ⟨by show w.heap.size ≤ w.heap.size + 1; omega, _, x5, rfl, _, _, _, _, _, rfl⟩
    · exact ⟨by show w.heap.size ≤ w.heap.size + 1 + 1; omega, _, x6, rfl, _, _, _, _, _, rfl⟩
  · intro u U hK hu hcs
    obtain ⟨csb, yb, zb⟩ := hcs 1 (by decide)
    obtain ⟨csa, ya, za⟩ := hcs 0 (by decide)
    have u0 : u 0 = .agg #[.bool s9, .slice ao9 n9 cp9, .int .i64 e9] := hu 0 (by decide)
    have u1 : u 1 = .agg #[.bool s8, .slice ao8 n8 cp8, .int .i64 e8] := hu 1 (by decide)
    have u2 : u 2 = .int .i64 0 := hu 2 (by decide)
    have ya' : u 0 = .agg csa := ya
    have yb' : u 1 = .agg csb := yb
    rw [u0] at ya'
    rw [u1] at yb'
    obtain rfl := Value.agg.inj ya'
    obtain rfl := Value.agg.inj yb'
    have HX : Hid (U.heap[w.heap.size + 1]? = some (.cells #[.bool s9, .slice ao9 n9 cp9, .int .i64 e9] 27 (0, 0)) ∧ U.heap[w.heap.size + 1 + 1]? = some (.cells #[.bool s8, .slice ao8 n8 cp8, .int .i64 e8] 27 (0, 0)) ∧ DN U (.agg #[.bool s9, .slice ao9 n9 cp9, .int .i64 e9]) tP' ∧ DN U (.agg #[.bool s8, .slice ao8 n8 cp8, .int .i64 e8]) tQ ∧ Below w.heap.size w U) := ⟨za, zb, DN.keepN hK hbx2 xp.2, DN.keepN hK hbx2 xq.2, x7.trans hK.below⟩
    clear hu hcs ya yb za zb ya' yb' hK x1 x5 x6 x7 xp xq hbx2 ne H6
    simp only [putL, show List.range 3 = [0, 1, 2] from rfl, List.length_cons, List.length_nil, List.getD_cons_zero, List.getD_cons_succ, List.map_cons, List.map_nil, List.cons_append, List.nil_append, List.foldl_cons, List.foldl_nil, Nat.reduceLT, Nat.reduceMod, Nat.reduceDiv, Nat.reduceMul, Nat.reduceAdd, Nat.reduceEqDiff, reduceIte, Nat.one_ne_zero, Act.put, List.setIfInBounds_toArray, List.set_cons_zero, List.set_cons_succ]
    rw [u2]
    go_wp2_with fail
    refine bodyPost_ret (results_c2t rfl _ _ (w.heap.size + 1) (w.heap.size + 1 + 1) 27 #[.bool s9, .slice ao9 n9 cp9, .int .i64 e9] #[.bool s8, .slice ao8 n8 cp8, .int .i64 e8] (0, 0) (0, 0) _ rfl rfl HX.out.1 HX.out.2.1 Tryz.underlying27 rfl Tryz.info27 Tryz.info27) rfl ?_
    exact ⟨_, _, _, _, _, _, _, _, _, _, rfl, HX.out.2.2.1, HX.out.2.2.2.1, HX.out.2.2.2.2⟩
set_option maxRecDepth 200000 in
theorem dsimp8_01 (a b : Nat) (w : World) (tA tB tC tD tP tQ : Bool × Nat × Int) (hz1 : (FloatKind.f64.format.order a 0 == some Ordering.lt) = false) (hz2 : (FloatKind.f64.format.order a 0 == some Ordering.eq) = false) (hlt : (FloatKind.f64.format.order b 0 == some Ordering.lt) = false) (hf : (FloatKind.f64.format.order b 9218868437227405311 == some Ordering.lt || FloatKind.f64.format.order b 9218868437227405311 == some Ordering.eq) = true)
    (k1 : ∀ W, Below w.heap.size w W → Calls Tryz.prog 16 #[.agg #[.float .f64 a, .float .f64 b]] W fun r w' => r = .returned (.bool true) ∧ Below W.heap.size W w')
    (k2 : Hid (∀ W, Below w.heap.size w W → Calls Tryz.prog 18 #[.float .f64 a] W fun r w' => Out2D W tA tB r w'))
    (k3 : Hid (∀ W, Below w.heap.size w W → Calls Tryz.prog 18 #[.float .f64 b] W fun r w' => Out2D W tC tD r w'))
    (k4 : Hid (∀ (s1 : Bool) (ao1 : Option Addr) (n1 cp1 : Nat) (e1 : Int) (s2 : Bool) (ao2 : Option Addr) (n2 cp2 : Nat) (e2 : Int) (s3 : Bool) (ao3 : Option Addr) (n3 cp3 : Nat) (e3 : Int) (s4 : Bool) (ao4 : Option Addr) (n4 cp4 : Nat) (e4 : Int) W, Below w.heap.size w W → DN W (.agg #[.bool s1, .slice ao1 n1 cp1, .int .i64 e1]) tA → DN W (.agg #[.bool s2, .slice ao2 n2 cp2, .int .i64 e2]) tB → DN W (.agg #[.bool s3, .slice ao3 n3 cp3, .int .i64 e3]) tC → DN W (.agg #[.bool s4, .slice ao4 n4 cp4, .int .i64 e4]) tD → Calls Tryz.prog 19 #[.agg #[.bool s1, .slice ao1 n1 cp1, .int .i64 e1], .agg #[.bool s2, .slice ao2 n2 cp2, .int .i64 e2], .agg #[.bool s3, .slice ao3 n3 cp3, .int .i64 e3], .agg #[.bool s4, .slice ao4 n4 cp4, .int .i64 e4]] W fun r w' => Out2D W tP tQ r w')) : Calls Tryz.prog 5 #[.agg #[.float .f64 a, .float .f64 b]] w fun r w' => Out3D w tP tQ 0 r w' := by
  obtain ⟨W, hW⟩ : ∃ W, W = ((w.alloc (.cells #[.float .f64 a, .float .f64 b] 24)).alloc (.cells #[.bool false, .slice none 0 0, .int .i64 0] 27)).alloc (.cells #[.bool false, .slice none 0 0, .int .i64 0] 27) := ⟨_, rfl⟩
  obtain ⟨hF, hN, hM, hBW⟩ := three_new _ _ _ hW
  have c0 : W.cell? ⟨w.heap.size, 0, none⟩ = some (.float .f64 a) := by simp [World.cell?, hF]
  have c1 : W.cell? ⟨w.heap.size, 1, none⟩ = some (.float .f64 b) := by simp [World.cell?, hF]
  have HF : Hid (W.heap[w.heap.size]? = some (.cells #[.float .f64 a, .float .f64 b] 24 (0, 0)) ∧ W.heap[w.heap.size + 1]? = some (.cells #[.bool false, .slice none 0 0, .int .i64 0] 27 (0, 0)) ∧ W.heap[w.heap.size + 1 + 1]? = some (.cells #[.bool false, .slice none 0 0, .int .i64 0] 27 (0, 0)) ∧ Below w.heap.size w W) := ⟨hF, hN, hM, hBW⟩
  have kk := k1 W hBW
  clear k1 hF hN hM hBW
  go_enter Tryz.func5, Tryz.ntmps5
  go_upto_region 1 with fail
  rw [← hW]
  clear hW
  go_wp2_with fail
  refine kk.mono ?_
  rintro r w1 ⟨rfl, hb1⟩
  clear kk c0 c1
  have HG : Hid (w1.heap[w.heap.size]? = some (.cells #[.float .f64 a, .float .f64 b] 24 (0, 0)) ∧ w1.heap[w.heap.size + 1]? = some (.cells #[.bool false, .slice none 0 0, .int .i64 0] 27 (0, 0)) ∧ w1.heap[w.heap.size + 1 + 1]? = some (.cells #[.bool false, .slice none 0 0, .int .i64 0] 27 (0, 0)) ∧ Below w.heap.size w w1) := ⟨box_later HF.out.1 hb1 (lt_of_box HF.out.1), box_later HF.out.2.1 hb1 (lt_of_box HF.out.2.1), box_later HF.out.2.2.1 hb1 (lt_of_box HF.out.2.2.1), HF.out.2.2.2.trans (hb1.mono HF.out.2.2.2.size)⟩
  clear hb1 HF
  have c0 : w1.cell? ⟨w.heap.size, 0, none⟩ = some (.float .f64 a) := by simp [World.cell?, HG.out.1]
  have c1 : w1.cell? ⟨w.heap.size, 1, none⟩ = some (.float .f64 b) := by simp [World.cell?, HG.out.1]
  go_upto_region 5 with fail
  go_quiet (fail)
  go_upto_region 8 with fail
  clear c0 c1 hz1 hz2
  obtain ⟨V1, hV1⟩ : ∃ V1, V1 = w1.drewN nq := ⟨_, rfl⟩
  rw [← hV1]
  have hbV : Below w1.heap.size w1 V1 := by rw [hV1]; exact bdrewN (Below.refl _ _) nq
  have H1 : Hid (V1.heap[w.heap.size]? = some (.cells #[.float .f64 a, .float .f64 b] 24 (0, 0)) ∧ V1.heap[w.heap.size + 1]? = some (.cells #[.bool false, .slice none 0 0, .int .i64 0] 27 (0, 0)) ∧ V1.heap[w.heap.size + 1 + 1]? = some (.cells #[.bool false, .slice none 0 0, .int .i64 0] 27 (0, 0)) ∧ Below w.heap.size w V1) := ⟨box_later HG.out.1 hbV (lt_of_box HG.out.1), box_later HG.out.2.1 hbV (lt_of_box HG.out.2.1), box_later HG.out.2.2.1 hbV (lt_of_box HG.out.2.2.1), HG.out.2.2.2.trans (hbV.mono HG.out.2.2.2.size)⟩
  clear hbV hV1 HG
  have kk := k2.out V1 H1.out.2.2.2
  go_wp2_with fail
  refine kk.mono ?_
  rintro r w2 ⟨s1, ao1, n1, cp1, e1, s2, ao2, n2, cp2, e2, rfl, hA, hB, hb2⟩
  clear kk
  obtain ⟨W2, hW2⟩ : ∃ W2, W2 = (w2.alloc (.cells #[.bool s1, .slice ao1 n1 cp1, .int .i64 e1] 27)).alloc (.cells #[.bool s2, .slice ao2 n2 cp2, .int .i64 e2] 27) := ⟨_, rfl⟩
  obtain ⟨z1, z2, z3, z4⟩ := two_new _ _ hW2
  have hb12 : Below V1.heap.size V1 W2 := hb2.trans (z4.mono hb2.size)
  obtain ⟨x1, x2, x3, xB⟩ := H1.out
  go_upto_region 9 with fail
  rw [← hW2]
  clear hW2
  have hsz := hb2.size
  have hl := lt_of_box x3
  have hA' := hA.later z4
  have hB' := hB.later z4
  clear z3 z4 hA hB
  generalize w2.heap.size = gqA at *
  have H2 : Hid (W2.heap[w.heap.size]? = some (.cells #[.float .f64 a, .float .f64 b] 24 (0, 0)) ∧ W2.heap[w.heap.size + 1]? = some (.cells #[.bool false, .slice none 0 0, .int .i64 0] 27 (0, 0)) ∧ W2.heap[w.heap.size + 1 + 1]? = some (.cells #[.bool false, .slice none 0 0, .int .i64 0] 27 (0, 0)) ∧ Below w.heap.size w W2 ∧ NB W2 gqA s1 ao1 n1 cp1 e1 tA ∧ NB W2 (gqA + 1) s2 ao2 n2 cp2 e2 tB ∧ w.heap.size + 1 + 1 < gqA) := ⟨box_later x1 hb12 (lt_of_box x1), box_later x2 hb12 (lt_of_box x2), box_later x3 hb12 (lt_of_box x3), xB.trans (hb12.mono xB.size), ⟨z1, hA'⟩, ⟨z2, hB'⟩, by omega⟩
  clear x1 x2 x3 xB hb2 hb12 z1 z2 hA' hB' hsz hl H1
  have kk := dwholeU (n := 1) (by omega) W2
  go_wp2_with fail
  refine kk.mono ?_
  rintro r w3 ⟨A, rfl, hA, hb3⟩
  obtain ⟨s3, ao3, n3, cp3, e3, rfl⟩ := hA.shape
  clear kk
  obtain ⟨W3, hW3⟩ : ∃ W3, W3 = (w3.alloc (.cells #[.bool s3, .slice ao3 n3 cp3, .int .i64 e3] 27)).alloc (.cells #[.bool false, .slice none 0 0, .int .i64 0] 27) := ⟨_, rfl⟩
  obtain ⟨z1, z2, z3, z4⟩ := two_new _ _ hW3
  have hb23 : Below W2.heap.size W2 W3 := hb3.trans (z4.mono hb3.size)
  obtain ⟨x1, x2, x3, xB, xa, xb, xg⟩ := H2.out
  go_upto_region 10 with fail
  rw [← hW3]
  clear hW3
  have hsz := hb3.size
  have hl := lt_of_box xb.1
  have hA' := hA.later z4
  clear z3 z4 hA
  generalize w3.heap.size = gqC at *
  have H3 : Hid (W3.heap[w.heap.size]? = some (.cells #[.float .f64 a, .float .f64 b] 24 (0, 0)) ∧ W3.heap[w.heap.size + 1]? = some (.cells #[.bool false, .slice none 0 0, .int .i64 0] 27 (0, 0)) ∧ W3.heap[w.heap.size + 1 + 1]? = some (.cells #[.bool false, .slice none 0 0, .int .i64 0] 27 (0, 0)) ∧ Below w.heap.size w W3 ∧ NB W3 gqA s1 ao1 n1 cp1 e1 tA ∧ NB W3 (gqA + 1) s2 ao2 n2 cp2 e2 tB ∧ w.heap.size + 1 + 1 < gqA ∧ NB W3 gqC s3 ao3 n3 cp3 e3 (un 1 0) ∧ NB W3 (gqC + 1) false none 0 0 0 nilN ∧ gqA + 1 < gqC) := ⟨box_later x1 hb23 (lt_of_box x1), box_later x2 hb23 (lt_of_box x2), box_later x3 hb23 (lt_of_box x3), xB.trans (hb23.mono xB.size), xa.later hb23, xb.later hb23, xg, ⟨z1, hA'⟩, ⟨z2, DN.zero8 _⟩, by omega⟩
  clear x1 x2 x3 xB xa xb xg hb3 hb23 z1 z2 hA' hsz hl H2
  have kk := k3.out W3 H3.out.2.2.2.1
  go_wp2_with fail
  refine kk.mono ?_
  rintro r w4 ⟨s5, ao5, n5, cp5, e5, s6, ao6, n6, cp6, e6, rfl, hA, hB, hb4⟩
  clear kk hf
  obtain ⟨x1, x2, x3, xB, xa, xb, xg, xc, xd, xh⟩ := H3.out
  have yc := box_later xc.1 hb4 (lt_of_box xc.1)
  have yd := box_later xd.1 hb4 (lt_of_box xd.1)
  have HM : Hid (w4.heap[w.heap.size]? = some (.cells #[.float .f64 a, .float .f64 b] 24 (0, 0)) ∧ w4.heap[w.heap.size + 1]? = some (.cells #[.bool false, .slice none 0 0, .int .i64 0] 27 (0, 0)) ∧ w4.heap[w.heap.size + 1 + 1]? = some (.cells #[.bool false, .slice none 0 0, .int .i64 0] 27 (0, 0)) ∧ Below w.heap.size w w4 ∧ NB w4 gqA s1 ao1 n1 cp1 e1 tA ∧ NB w4 (gqA + 1) s2 ao2 n2 cp2 e2 tB ∧ w.heap.size + 1 + 1 < gqA ∧ w4.heap[gqC]? = some (.cells #[.bool s3, .slice ao3 n3 cp3, .int .i64 e3] 27 (0, 0)) ∧ w4.heap[gqC + 1]? = some (.cells #[.bool false, .slice none 0 0, .int .i64 0] 27 (0, 0)) ∧ DN w4 (.agg #[.bool s5, .slice ao5 n5 cp5, .int .i64 e5]) tC ∧ DN w4 (.agg #[.bool s6, .slice ao6 n6 cp6, .int .i64 e6]) tD ∧ gqA + 1 < gqC) := ⟨box_later x1 hb4 (lt_of_box x1), box_later x2 hb4 (lt_of_box x2), box_later x3 hb4 (lt_of_box x3), xB.trans (hb4.mono xB.size), xa.later hb4, xb.later hb4, xg, yc, yd, hA, hB, xh⟩
  obtain ⟨⟨y0, y1, y2⟩, z0, z1, z2⟩ := box_cells29 yc
  obtain ⟨⟨p0, p1, p2⟩, q0, q1, q2⟩ := box_cells29 yd
  clear x1 x2 x3 xB xa xb xg xc xd xh hA hB hb4 yc yd H3
  obtain ⟨W4, hW4⟩ : ∃ W4, W4 = ((((((w4.setCell ⟨gqC, 0, none⟩ (.bool s5)).setCell ⟨gqC, 1, none⟩ (.slice ao5 n5 cp5)).setCell ⟨gqC, 2, none⟩ (.int .i64 e5)).setCell ⟨gqC + 1, 0, none⟩ (.bool s6)).setCell ⟨gqC + 1, 1, none⟩ (.slice ao6 n6 cp6)).setCell ⟨gqC + 1, 2, none⟩ (.int .i64 e6)) := ⟨_, rfl⟩
  go_upto_region 12 with fail
  clear y0 y1 y2 z0 z1 z2 p0 p1 p2 q0 q1 q2
  rw [← hW4]
  have H4 : Hid (W4.heap[w.heap.size]? = some (.cells #[.float .f64 a, .float .f64 b] 24 (0, 0)) ∧ W4.heap[w.heap.size + 1]? = some (.cells #[.bool false, .slice none 0 0, .int .i64 0] 27 (0, 0)) ∧ W4.heap[w.heap.size + 1 + 1]? = some (.cells #[.bool false, .slice none 0 0, .int .i64 0] 27 (0, 0)) ∧ Below w.heap.size w W4 ∧ NB W4 gqA s1 ao1 n1 cp1 e1 tA ∧ NB W4 (gqA + 1) s2 ao2 n2 cp2 e2 tB ∧ w.heap.size + 1 + 1 < gqA ∧ NB W4 gqC s5 ao5 n5 cp5 e5 tC ∧ NB W4 (gqC + 1) s6 ao6 n6 cp6 e6 tD ∧ gqA + 1 < gqC) := by
    obtain ⟨x1, x2, x3, xB, xa, xb, xg, xc, xd, yA, yB, xh⟩ := HM.out
    have ot : ∀ k, k ≠ gqC → k ≠ gqC + 1 → W4.heap[k]? = w4.heap[k]? := fun k h1 h2 => by rw [hW4]; exact (store3_oth8 _ _ _ h2).trans (store3_oth8 _ _ _ h1)
    have xd' : (((w4.setCell ⟨gqC, 0, none⟩ (.bool s5)).setCell ⟨gqC, 1, none⟩ (.slice ao5 n5 cp5)).setCell ⟨gqC, 2, none⟩ (.int .i64 e5)).heap[gqC + 1]? = _ := (store3_oth8 _ _ _ (by omega)).trans xd
    have dn : ∀ {A : Value} {t : Bool × Nat × Int}, DN w4 A t → DN W4 A t := fun h => by rw [hW4]; exact dn_store8 (dn_store8 h xc _ _ _) xd' _ _ _
    refine ⟨(ot _ (by omega) (by omega)).trans x1, (ot _ (by omega) (by omega)).trans x2, (ot _ (by omega) (by omega)).trans x3, ?_, ⟨(ot _ (by omega) (by omega)).trans xa.1, dn xa.2⟩, ⟨(ot _ (by omega) (by omega)).trans xb.1, dn xb.2⟩, xg, ⟨?_, dn yA⟩, ⟨?_, dn yB⟩, xh⟩
    · rw [hW4]; exact below_store3 (below_store3 xB (by omega) _ _ _) (by omega) _ _ _
    · rw [hW4]; exact (store3_oth8 _ _ _ (by omega)).trans (store3_29 _ _ _ xc)
    · rw [hW4]; exact store3_29 _ _ _ xd'
  clear hW4 HM
  obtain ⟨x1, x2, x3, xB, xa, xb, xg, xc, xd, xh⟩ := H4.out
  have kk := k4.out s1 ao1 n1 cp1 e1 s2 ao2 n2 cp2 e2 s5 ao5 n5 cp5 e5 s6 ao6 n6 cp6 e6 W4 xB xa.2 xb.2 xc.2 xd.2
  obtain ⟨k0, k1', k2'⟩ := (cells3N xa.1).1
  obtain ⟨l0, l1, l2⟩ := (cells3N xb.1).1
  obtain ⟨m0, m1, m2⟩ := (cells3N xc.1).1
  obtain ⟨y0, y1, y2⟩ := (cells3N xd.1).1
  clear x1 x2 x3 xB xa xb xg xc xd xh
  go_wp2_with fail
  refine kk.mono ?_
  rintro r w5 ⟨s7, ao7, n7, cp7, e7, s8, ao8, n8, cp8, e8, rfl, hA, hB, hb5⟩
  clear kk k0 k1' k2' l0 l1 l2 m0 m1 m2 y0 y1 y2
  obtain ⟨x1, x2, x3, xB, xa, xb, xg, xc, xd, xh⟩ := H4.out
  obtain ⟨W5, hW5⟩ : ∃ W5, W5 = (w5.alloc (.cells #[.bool s7, .slice ao7 n7 cp7, .int .i64 e7] 27)).alloc (.cells #[.bool s8, .slice ao8 n8 cp8, .int .i64 e8] 27) := ⟨_, rfl⟩
  obtain ⟨z1, z2, z3, z4⟩ := two_new _ _ hW5
  have hb45 : Below W4.heap.size W4 W5 := hb5.trans (z4.mono hb5.size)
  go_upto_region 13 with fail
  rw [← hW5]
  clear hW5
  have hsz := hb5.size
  have hl := lt_of_box xd.1
  have hA' := hA.later z4
  have hB' := hB.later z4
  clear z3 z4 hA hB
  generalize w5.heap.size = gqP at *
  have H5 : Hid (W5.heap[w.heap.size]? = some (.cells #[.float .f64 a, .float .f64 b] 24 (0, 0)) ∧ W5.heap[w.heap.size + 1]? = some (.cells #[.bool false, .slice none 0 0, .int .i64 0] 27 (0, 0)) ∧ W5.heap[w.heap.size + 1 + 1]? = some (.cells #[.bool false, .slice none 0 0, .int .i64 0] 27 (0, 0)) ∧ Below w.heap.size w W5 ∧ NB W5 gqP s7 ao7 n7 cp7 e7 tP ∧ NB W5 (gqP + 1) s8 ao8 n8 cp8 e8 tQ ∧ w.heap.size + 1 + 1 < gqP) := ⟨box_later x1 hb45 (lt_of_box x1), box_later x2 hb45 (lt_of_box x2), box_later x3 hb45 (lt_of_box x3), xB.trans (hb45.mono xB.size), ⟨z1, hA'⟩, ⟨z2, hB'⟩, by omega⟩
  clear x1 x2 x3 xB xa xb xg xc xd xh hb5 hb45 z1 z2 hA' hB' hsz hl H4
  have c1 : W5.cell? ⟨w.heap.size, 1, none⟩ = some (.float .f64 b) := by simp [World.cell?, H5.out.1]
  go_upto_region 15 with fail
  clear c1 hlt
  have H6 := H5
  obtain ⟨x1, x5, x6, x7, xp, xq, xg⟩ := H6.out
  have hbx2 : ∀ i, i < 2 → ∃ cs, W5.heap[two (w.heap.size + 1) (w.heap.size + 1 + 1) i]? = some (.cells cs 27 (0, 0)) ∧ NC3 cs := fun i hi => by
    rcases lt2F hi with rfl | rfl
    · exact ⟨_, x5, _, _, _, _, _, rfl⟩
    · exact ⟨_, x6, _, _, _, _, _, rfl⟩
  have ne : ∀ g, w.heap.size + 1 + 1 < g → ∀ i, i < 2 → g ≠ two (w.heap.size + 1) (w.heap.size + 1 + 1) i := fun g h i hi => by
    rcases lt2F hi with rfl | rfl
    · show g ≠ w.heap.size + 1; omega
    · show g ≠ w.heap.size + 1 + 1; omega
  refine q_region follows_mixed [0, 1, 4] [2, 3] [67, 68, 4] [[], [], []] [[0], [1]] [0, 1] (two 2 3) (two (w.heap.size + 1) (w.heap.size + 1 + 1)) w.heap.size 27 NC3 3 W5 _ [isV (.agg #[.bool s7, .slice ao7 n7 cp7, .int .i64 e7]), isV (.agg #[.bool s8, .slice ao8 n8 cp8, .int .i64 e8]), isV (.int .i64 0)] (by kernel_rfl) ⟨isV_stays _, isV_stays _, isV_stays _, trivial⟩ ⟨isV_rows _ _ _, isV_rows _ _ _, isV_rows _ _ _, trivial⟩ (by show ∀ s ∈ [67, 68, 4], s < 69; decide) ?_ ?_ Tryz.info27 ?_ ?_ ?_ (two_inj (by omega)) x7.size ?_
  · intro i hi U u h
    rcases lt2F hi with rfl | rfl
    · obtain rfl : u = _ := h
      exact ⟨_, rfl, rfl, ⟨_, _, _, _, _, rfl⟩, one3 rfl rfl⟩
    · obtain rfl : u = _ := h
      exact ⟨_, rfl, rfl, ⟨_, _, _, _, _, rfl⟩, one3 rfl rfl⟩
  · intro j hj o ho act U hK hoth hdep hrd
    have hj' : j < 3 := hj
    rcases (by omega : j = 0 ∨ j = 1 ∨ j = 2) with rfl | rfl | rfl
    · obtain rfl := Option.some.inj ho
      have tp : act.tmps[(11 : Nat)]? = some (Value.pointer (some ⟨gqP, 0, none⟩)) := (hoth 11 (by decide)).trans rfl
      have cp := (cells3N ((hK.keep gqP (lt_of_box xp.1) (ne gqP (by omega))).trans xp.1)).1
      exact .inl ⟨rfl, owp_ldD rfl tp cp.1 cp.2.1 cp.2.2 ⟨_, rfl, rfl, Below.refl _ _⟩⟩
    · obtain rfl := Option.some.inj ho
      have tp : act.tmps[(12 : Nat)]? = some (Value.pointer (some ⟨gqP + 1, 0, none⟩)) := (hoth 12 (by decide)).trans rfl
      have cp := (cells3N ((hK.keep (gqP + 1) (lt_of_box xq.1) (ne (gqP + 1) (by omega))).trans xq.1)).1
      exact .inl ⟨rfl, owp_ldD rfl tp cp.1 cp.2.1 cp.2.2 ⟨_, rfl, rfl, Below.refl _ _⟩⟩
    · obtain rfl := Option.some.inj ho
      exact .inl ⟨rfl, owp_cst (s := 0) rfl ⟨_, rfl, rfl, Below.refl _ _⟩⟩
  · intro i hi
    rcases lt2F hi with rfl | rfl <;> exact ⟨_, rfl, rfl⟩
  · intro i hi
    rcases lt2F hi with rfl | rfl
    · exact ⟨rfl, by decide⟩
    · exact ⟨rfl, by decide⟩
  · intro i hi
    rcases lt2F hi with rfl | rfl
    · exact ⟨by show w.heap.size ≤ w.heap.size + 1; omega, _, x5, rfl, _, _, _, _, _, rfl⟩
    · exact ⟨by show w.heap.size ≤ w.heap.size + 1 + 1; omega, _, x6, rfl, _, _, _, _, _, rfl⟩
  · intro u U hK hu hcs
    obtain ⟨csb, yb, zb⟩ := hcs 1 (by decide)
    obtain ⟨csa, ya, za⟩ := hcs 0 (by decide)
    have u0 : u 0 = .agg #[.bool s7, .slice ao7 n7 cp7, .int .i64 e7] := hu 0 (by decide)
    have u1 : u 1 = .agg #[.bool s8, .slice ao8 n8 cp8, .int .i64 e8] := hu 1 (by decide)
    have u2 : u 2 = .int .i64 0 := hu 2 (by decide)
    have ya' : u 0 = .agg csa := ya
    have yb' : u 1 = .agg csb := yb
    rw [u0] at ya'
    rw [u1] at yb'
    obtain rfl := Value.agg.inj ya'
    obtain rfl := Value.agg.inj yb'
    have HX : Hid (U.heap[w.heap.size + 1]? = some (.cells #[.bool s7, .slice ao7 n7 cp7, .int .i64 e7] 27 (0, 0)) ∧ U.heap[w.heap.size + 1 + 1]? = some (.cells #[.bool s8, .slice ao8 n8 cp8, .int .i64 e8] 27 (0, 0)) ∧ DN U (.agg #[.bool s7, .slice ao7 n7 cp7, .int .i64 e7]) tP ∧ DN U (.agg #[.bool s8, .slice ao8 n8 cp8, .int .i64 e8]) tQ ∧ Below w.heap.size w U) := ⟨za, zb, DN.keepN hK hbx2 xp.2, DN.keepN hK hbx2 xq.2, x7.trans hK.below⟩
    clear hu hcs ya yb za zb ya' yb' hK x1 x5 x6 x7 xp xq hbx2 ne H6
    simp only [putL, show List.range 3 = [0, 1, 2] from rfl, List.length_cons, List.length_nil, List.getD_cons_zero, List.getD_cons_succ, List.map_cons, List.map_nil, List.cons_append, List.nil_append, List.foldl_cons, List.foldl_nil, Nat.reduceLT, Nat.reduceMod, Nat.reduceDiv, Nat.reduceMul, Nat.reduceAdd, Nat.reduceEqDiff, reduceIte, Nat.one_ne_zero, Act.put, List.setIfInBounds_toArray, List.set_cons_zero, List.set_cons_succ]
    rw [u2]
    go_wp2_with fail
    refine bodyPost_ret (results_c2t rfl _ _ (w.heap.size + 1) (w.heap.size + 1 + 1) 27 #[.bool s7, .slice ao7 n7 cp7, .int .i64 e7] #[.bool s8, .slice ao8 n8 cp8, .int .i64 e8] (0, 0) (0, 0) _ rfl rfl HX.out.1 HX.out.2.1 Tryz.underlying27 rfl Tryz.info27 Tryz.info27) rfl ?_
    exact ⟨_, _, _, _, _, _, _, _, _, _, rfl, HX.out.2.2.1, HX.out.2.2.2.1, HX.out.2.2.2.2⟩
set_option maxRecDepth 200000 in
theorem dsimp8_00 (a b : Nat) (w : World) (tA tB tC tD tP tQ : Bool × Nat × Int) (hz1 : (FloatKind.f64.format.order a 0 == some Ordering.lt) = false) (hz2 : (FloatKind.f64.format.order a 0 == some Ordering.eq) = false) (hlt : (FloatKind.f64.format.order b 0 == some Ordering.lt) = false) (hf : (FloatKind.f64.format.order b 9218868437227405311 == some Ordering.lt || FloatKind.f64.format.order b 9218868437227405311 == some Ordering.eq) = false)
    (k1 : ∀ W, Below w.heap.size w W → Calls Tryz.prog 16 #[.agg #[.float .f64 a, .float .f64 b]] W fun r w' => r = .returned (.bool true) ∧ Below W.heap.size W w')
    (k2 : Hid (∀ W, Below w.heap.size w W → Calls Tryz.prog 18 #[.float .f64 a] W fun r w' => Out2D W tA tB r w'))
    (k4 : Hid (∀ (s1 : Bool) (ao1 : Option Addr) (n1 cp1 : Nat) (e1 : Int) (s2 : Bool) (ao2 : Option Addr) (n2 cp2 : Nat) (e2 : Int) (s3 : Bool) (ao3 : Option Addr) (n3 cp3 : Nat) (e3 : Int) (s4 : Bool) (ao4 : Option Addr) (n4 cp4 : Nat) (e4 : Int) W, Below w.heap.size w W → DN W (.agg #[.bool s1, .slice ao1 n1 cp1, .int .i64 e1]) tA → DN W (.agg #[.bool s2, .slice ao2 n2 cp2, .int .i64 e2]) tB → DN W (.agg #[.bool s3, .slice ao3 n3 cp3, .int .i64 e3]) (un 1 0) → DN W (.agg #[.bool s4, .slice ao4 n4 cp4, .int .i64 e4]) nilN → Calls Tryz.prog 19 #[.agg #[.bool s1, .slice ao1 n1 cp1, .int .i64 e1], .agg #[.bool s2, .slice ao2 n2 cp2, .int .i64 e2], .agg #[.bool s3, .slice ao3 n3 cp3, .int .i64 e3], .agg #[.bool s4, .slice ao4 n4 cp4, .int .i64 e4]] W fun r w' => Out2D W tP tQ r w')) : Calls Tryz.prog 5 #[.agg #[.float .f64 a, .float .f64 b]] w fun r w' => Out3D w tP tQ 0 r w' := by
  obtain ⟨W, hW⟩ : ∃ W, W = ((w.alloc (.cells #[.float .f64 a, .float .f64 b] 24)).alloc (.cells #[.bool false, .slice none 0 0, .int .i64 0] 27)).alloc (.cells #[.bool false, .slice none 0 0, .int .i64 0] 27) := ⟨_, rfl⟩
  obtain ⟨hF, hN, hM, hBW⟩ := three_new _ _ _ hW
  have c0 : W.cell? ⟨w.heap.size, 0, none⟩ = some (.float .f64 a) := by simp [World.cell?, hF]
  have c1 : W.cell? ⟨w.heap.size, 1, none⟩ = some (.float .f64 b) := by simp [World.cell?, hF]
  have HF : Hid (W.heap[w.heap.size]? = some (.cells #[.float .f64 a, .float .f64 b] 24 (0, 0)) ∧ W.heap[w.heap.size + 1]? = some (.cells #[.bool false, .slice none 0 0, .int .i64 0] 27 (0, 0)) ∧ W.heap[w.heap.size + 1 + 1]? = some (.cells #[.bool false, .slice none 0 0, .int .i64 0] 27 (0, 0)) ∧ Below w.heap.size w W) := ⟨hF, hN, hM, hBW⟩
  have kk := k1 W hBW
  clear k1 hF hN hM hBW
  go_enter Tryz.func5, Tryz.ntmps5
  go_upto_region 1 with fail
  rw [← hW]
  clear hW
  go_wp2_with fail
  refine kk.mono ?_
  rintro r w1 ⟨rfl, hb1⟩
  clear kk c0 c1
  have HG : Hid (w1.heap[w.heap.size]? = some (.cells #[.float .f64 a, .float .f64 b] 24 (0, 0)) ∧ w1.heap[w.heap.size + 1]? = some (.cells #[.bool false, .slice none 0 0, .int .i64 0] 27 (0, 0)) ∧ w1.heap[w.heap.size + 1 + 1]? = some (.cells #[.bool false, .slice none 0 0, .int .i64 0] 27 (0, 0)) ∧ Below w.heap.size w w1) := ⟨box_later HF.out.1 hb1 (lt_of_box HF.out.1), box_later HF.out.2.1 hb1 (lt_of_box HF.out.2.1), box_later HF.out.2.2.1 hb1 (lt_of_box HF.out.2.2.1), HF.out.2.2.2.trans (hb1.mono HF.out.2.2.2.size)⟩
  clear hb1 HF
  have c0 : w1.cell? ⟨w.heap.size, 0, none⟩ = some (.float .f64 a) := by simp [World.cell?, HG.out.1]
  have c1 : w1.cell? ⟨w.heap.size, 1, none⟩ = some (.float .f64 b) := by simp [World.cell?, HG.out.1]
  go_upto_region 5 with fail
  go_quiet (fail)
  go_upto_region 8 with fail
  clear c0 c1 hz1 hz2
  obtain ⟨V1, hV1⟩ : ∃ V1, V1 = w1.drewN nq := ⟨_, rfl⟩
  rw [← hV1]
  have hbV : Below w1.heap.size w1 V1 := by rw [hV1]; exact bdrewN (Below.refl _ _) nq
  have H1 : Hid (V1.heap[w.heap.size]? = some (.cells #[.float .f64 a, .float .f64 b] 24 (0, 0)) ∧ V1.heap[w.heap.size + 1]? = some (.cells #[.bool false, .slice none 0 0, .int .i64 0] 27 (0, 0)) ∧ V1.heap[w.heap.size + 1 + 1]? = some (.cells #[.bool false, .slice none 0 0, .int .i64 0] 27 (0, 0)) ∧ Below w.heap.size w V1) := ⟨box_later HG.out.1 hbV (lt_of_box HG.out.1), box_later HG.out.2.1 hbV (lt_of_box HG.out.2.1), box_later HG.out.2.2.1 hbV (lt_of_box HG.out.2.2.1), HG.out.2.2.2.trans (hbV.mono HG.out.2.2.2.size)⟩
  clear hbV hV1 HG
  have kk := k2.out V1 H1.out.2.2.2
  go_wp2_with fail
  refine kk.mono ?_
  rintro r w2 ⟨s1, ao1, n1, cp1, e1, s2, ao2, n2, cp2, e2, rfl, hA, hB, hb2⟩
  clear kk
  obtain ⟨W2, hW2⟩ : ∃ W2, W2 = (w2.alloc (.cells #[.bool s1, .slice ao1 n1 cp1, .int .i64 e1] 27)).alloc (.cells #[.bool s2, .slice ao2 n2 cp2, .int .i64 e2] 27) := ⟨_, rfl⟩
  obtain ⟨z1, z2, z3, z4⟩ := two_new _ _ hW2
  have hb12 : Below V1.heap.size V1 W2 := hb2.trans (z4.mono hb2.size)
  obtain ⟨x1, x2, x3, xB⟩ := H1.out
  go_upto_region 9 with fail
  rw [← hW2]
  clear hW2
  have hsz := hb2.size
  have hl := lt_of_box x3
  have hA' := hA.later z4
  have hB' := hB.later z4
  clear z3 z4 hA hB
  generalize w2.heap.size = gqA at *
  have H2 : Hid (W2.heap[w.heap.size]? = some (.cells #[.float .f64 a, .float .f64 b] 24 (0, 0)) ∧ W2.heap[w.heap.size + 1]? = some (.cells #[.bool false, .slice none 0 0, .int .i64 0] 27 (0, 0)) ∧ W2.heap[w.heap.size + 1 + 1]? = some (.cells #[.bool false, .slice none 0 0, .int .i64 0] 27 (0, 0)) ∧ Below w.heap.size w W2 ∧ NB W2 gqA s1 ao1 n1 cp1 e1 tA ∧ NB W2 (gqA + 1) s2 ao2 n2 cp2 e2 tB ∧ w.heap.size + 1 + 1 < gqA) := ⟨box_later x1 hb12 (lt_of_box x1), box_later x2 hb12 (lt_of_box x2), box_later x3 hb12 (lt_of_box x3), xB.trans (hb12.mono xB.size), ⟨z1, hA'⟩, ⟨z2, hB'⟩, by omega⟩
  clear x1 x2 x3 xB hb2 hb12 z1 z2 hA' hB' hsz hl H1
  have kk := dwholeU (n := 1) (by omega) W2
  go_wp2_with fail
  refine kk.mono ?_
  rintro r w3 ⟨A, rfl, hA, hb3⟩
  obtain ⟨s3, ao3, n3, cp3, e3, rfl⟩ := hA.shape
  clear kk
  obtain ⟨W3, hW3⟩ : ∃ W3, W3 = (w3.alloc (.cells #[.bool s3, .slice ao3 n3 cp3, .int .i64 e3] 27)).alloc (.cells #[.bool false, .slice none 0 0, .int .i64 0] 27) := ⟨_, rfl⟩
  obtain ⟨z1, z2, z3, z4⟩ := two_new _ _ hW3
  have hb23 : Below W2.heap.size W2 W3 := hb3.trans (z4.mono hb3.size)
  obtain ⟨x1, x2, x3, xB, xa, xb, xg⟩ := H2.out
  go_upto_region 10 with fail
  rw [← hW3]
  clear hW3
  have hsz := hb3.size
  have hl := lt_of_box xb.1
  have hA' := hA.later z4
  clear z3 z4 hA
  generalize w3.heap.size = gqC at *
  have H3 : Hid (W3.heap[w.heap.size]? = some (.cells #[.float .f64 a, .float .f64 b] 24 (0, 0)) ∧ W3.heap[w.heap.size + 1]? = some (.cells #[.bool false, .slice none 0 0, .int .i64 0] 27 (0, 0)) ∧ W3.heap[w.heap.size + 1 + 1]? = some (.cells #[.bool false, .slice none 0 0, .int .i64 0] 27 (0, 0)) ∧ Below w.heap.size w W3 ∧ NB W3 gqA s1 ao1 n1 cp1 e1 tA ∧ NB W3 (gqA + 1) s2 ao2 n2 cp2 e2 tB ∧ w.heap.size + 1 + 1 < gqA ∧ NB W3 gqC s3 ao3 n3 cp3 e3 (un 1 0) ∧ NB W3 (gqC + 1) false none 0 0 0 nilN ∧ gqA + 1 < gqC) := ⟨box_later x1 hb23 (lt_of_box x1), box_later x2 hb23 (lt_of_box x2), box_later x3 hb23 (lt_of_box x3), xB.trans (hb23.mono xB.size), xa.later hb23, xb.later hb23, xg, ⟨z1, hA'⟩, ⟨z2, DN.zero8 _⟩, by omega⟩
  clear x1 x2 x3 xB xa xb xg hb3 hb23 z1 z2 hA' hsz hl H2
  go_upto_region 12 with fail
  clear hf
  have H4 := H3
  obtain ⟨x1, x2, x3, xB, xa, xb, xg, xc, xd, xh⟩ := H4.out
  have kk := k4.out s1 ao1 n1 cp1 e1 s2 ao2 n2 cp2 e2 s3 ao3 n3 cp3 e3 false none 0 0 0 W3 xB xa.2 xb.2 xc.2 xd.2
  obtain ⟨k0, k1', k2'⟩ := (cells3N xa.1).1
  obtain ⟨l0, l1, l2⟩ := (cells3N xb.1).1
  obtain ⟨m0, m1, m2⟩ := (cells3N xc.1).1
  obtain ⟨y0, y1, y2⟩ := (cells3N xd.1).1
  clear x1 x2 x3 xB xa xb xg xc xd xh
  go_wp2_with fail
  refine kk.mono ?_
  rintro r w5 ⟨s7, ao7, n7, cp7, e7, s8, ao8, n8, cp8, e8, rfl, hA, hB, hb5⟩
  clear kk k0 k1' k2' l0 l1 l2 m0 m1 m2 y0 y1 y2
  obtain ⟨x1, x2, x3, xB, xa, xb, xg, xc, xd, xh⟩ := H4.out
  obtain ⟨W5, hW5⟩ : ∃ W5, W5 = (w5.alloc (.cells #[.bool s7, .slice ao7 n7 cp7, .int .i64 e7] 27)).alloc (.cells #[.bool s8, .slice ao8 n8 cp8, .int .i64 e8] 27) := ⟨_, rfl⟩
  obtain ⟨z1, z2, z3, z4⟩ := two_new _ _ hW5
  have hb45 : Below W3.heap.size W3 W5 := hb5.trans (z4.mono hb5.size)
  go_upto_region 13 with fail
  rw [← hW5]
  clear hW5
  have hsz := hb5.size
  have hl := lt_of_box xd.1
  have hA' := hA.later z4
  have hB' := hB.later z4
  clear z3 z4 hA hB
  generalize w5.heap.size = gqP at *
  have H5 : Hid (W5.heap[w.heap.size]? = some (.cells #[.float .f64 a, .float .f64 b] 24 (0, 0)) ∧ W5.heap[w.heap.size + 1]? = some (.cells #[.bool false, .slice none 0 0, .int .i64 0] 27 (0, 0)) ∧ W5.heap[w.heap.size + 1 + 1]? = some (.cells #[.bool false, .slice none 0 0, .int .i64 0] 27 (0, 0)) ∧ Below w.heap.size w W5 ∧ NB W5 gqP s7 ao7 n7 cp7 e7 tP ∧ NB W5 (gqP + 1) s8 ao8 n8 cp8 e8 tQ ∧ w.heap.size + 1 + 1 < gqP) := ⟨box_later x1 hb45 (lt_of_box x1), box_later x2 hb45 (lt_of_box x2), box_later x3 hb45 (lt_of_box x3), xB.trans (hb45.mono xB.size), ⟨z1, hA'⟩, ⟨z2, hB'⟩, by omega⟩
  clear x1 x2 x3 xB xa xb xg xc xd xh hb5 hb45 z1 z2 hA' hB' hsz hl H4
  have c1 : W5.cell? ⟨w.heap.size, 1, none⟩ = some (.float .f64 b) := by simp [World.cell?, H5.out.1]
  go_upto_region 15 with fail
  clear c1 hlt
  have H6 := H5
  obtain ⟨x1, x5, x6, x7, xp, xq, xg⟩ := H6.out
  have hbx2 : ∀ i, i < 2 → ∃ cs, W5.heap[two (w.heap.size + 1) (w.heap.size + 1 + 1) i]? = some (.cells cs 27 (0, 0)) ∧ NC3 cs := fun i hi => by
    rcases lt2F hi with rfl | rfl
    · exact ⟨_, x5, _, _, _, _, _, rfl⟩
    · exact ⟨_, x6, _, _, _, _, _, rfl⟩
  have ne : ∀ g, w.heap.size + 1 + 1 < g → ∀ i, i < 2 → g ≠ two (w.heap.size + 1) (w.heap.size + 1 + 1) i := fun g h i hi => by
    rcases lt2F hi with rfl | rfl
    · show g ≠ w.heap.size + 1; omega
    · show g ≠ w.heap.size + 1 + 1; omega
  refine q_region follows_mixed [0, 1, 4] [2, 3] [67, 68, 4] [[], [], []] [[0], [1]] [0, 1] (two 2 3) (two (w.heap.size + 1) (w.heap.size + 1 + 1)) w.heap.size 27 NC3 3 W5 _ [isV (.agg #[.bool s7, .slice ao7 n7 cp7, .int .i64 e7]), isV (.agg #[.bool s8, .slice ao8 n8 cp8, .int .i64 e8]), isV (.int .i64 0)] (by kernel_rfl) ⟨isV_stays _, isV_stays _, isV_stays _, trivial⟩ ⟨isV_rows _ _ _, isV_rows _ _ _, isV_rows _ _ _, trivial⟩ (by show ∀ s ∈ [67, 68, 4], s < 69; decide) ?_ ?_ Tryz.info27 ?_ ?_ ?_ (two_inj (by omega)) x7.size ?_
  · intro i hi U u h
    rcases lt2F hi with rfl | rfl
    · obtain rfl : u = _ := h
      exact ⟨_, rfl, rfl, ⟨_, _, _, _, _, rfl⟩, one3 rfl rfl⟩
    · obtain rfl : u = _ := h
      exact ⟨_, rfl, rfl, ⟨_, _, _, _, _, rfl⟩, one3 rfl rfl⟩
  · intro j hj o ho act U hK hoth hdep hrd
    have hj' : j < 3 := hj
    rcases (by omega : j = 0 ∨ j = 1 ∨ j = 2) with rfl | rfl | rfl
    · obtain rfl := Option.some.inj ho
      have tp : act.tmps[(11 : Nat)]? = some (Value.pointer (some ⟨gqP, 0, none⟩)) := (hoth 11 (by decide)).trans rfl
      have cp := (cells3N ((hK.keep gqP (lt_of_box xp.1) (ne gqP (by omega))).trans xp.1)).1
      exact .inl ⟨rfl, owp_ldD rfl tp cp.1 cp.2.1 cp.2.2 ⟨_, rfl, rfl, Below.refl _ _⟩⟩
    · obtain rfl := Option.some.inj ho
      have tp : act.tmps[(12 : Nat)]? = some (Value.pointer (some ⟨gqP + 1, 0, none⟩)) := (hoth 12 (by decide)).trans rfl
      have cp := (cells3N ((hK.keep (gqP + 1) (lt_of_box xq.1) (ne (gqP + 1) (by omega))).trans xq.1)).1
      exact .inl ⟨rfl, owp_ldD rfl tp cp.1 cp.2.1 cp.2.2 ⟨_, rfl, rfl, Below.refl _ _⟩⟩
    · obtain rfl := Option.some.inj ho
      exact .inl ⟨rfl, owp_cst (s := 0) rfl ⟨_, rfl, rfl, Below.refl _ _⟩⟩
  · intro i hi
    rcases lt2F hi with rfl | rfl <;> exact ⟨_, rfl, rfl⟩
  · intro i hi
    rcases lt2F hi with rfl | rfl
    · exact ⟨rfl, by decide⟩
    · exact ⟨rfl, by decide⟩
  · intro i hi
    rcases lt2F hi with rfl | rfl
    · exact ⟨by show w.heap.size ≤ w.heap.size + 1; omega, _, x5, rfl, _, _, _, _, _, rfl⟩
    · exact ⟨by show w.heap.size ≤ w.heap.size + 1 + 1; omega, _, x6, rfl, _, _, _, _, _, rfl⟩
  · intro u U hK hu hcs
    obtain ⟨csb, yb, zb⟩ := hcs 1 (by decide)
    obtain ⟨csa, ya, za⟩ := hcs 0 (by decide)
    have u0 : u 0 = .agg #[.bool s7, .slice ao7 n7 cp7, .int .i64 e7] := hu 0 (by decide)
    have u1 : u 1 = .agg #[.bool s8, .slice ao8 n8 cp8, .int .i64 e8] := hu 1 (by decide)
    have u2 : u 2 = .int .i64 0 := hu 2 (by decide)
    have ya' : u 0 = .agg csa := ya
    have yb' : u 1 = .agg csb := yb
    rw [u0] at ya'
    rw [u1] at yb'
    obtain rfl := Value.agg.inj ya'
    obtain rfl := Value.agg.inj yb'
    have HX : Hid (U.heap[w.heap.size + 1]? = some (.cells #[.bool s7, .slice ao7 n7 cp7, .int .i64 e7] 27 (0, 0)) ∧ U.heap[w.heap.size + 1 + 1]? = some (.cells #[.bool s8, .slice ao8 n8 cp8, .int .i64 e8] 27 (0, 0)) ∧ DN U (.agg #[.bool s7, .slice ao7 n7 cp7, .int .i64 e7]) tP ∧ DN U (.agg #[.bool s8, .slice ao8 n8 cp8, .int .i64 e8]) tQ ∧ Below w.heap.size w U) := ⟨za, zb, DN.keepN hK hbx2 xp.2, DN.keepN hK hbx2 xq.2, x7.trans hK.below⟩
    clear hu hcs ya yb za zb ya' yb' hK x1 x5 x6 x7 xp xq hbx2 ne H6
    simp only [putL, show List.range 3 = [0, 1, 2] from rfl, List.length_cons, List.length_nil, List.getD_cons_zero, List.getD_cons_succ, List.map_cons, List.map_nil, List.cons_append, List.nil_append, List.foldl_cons, List.foldl_nil, Nat.reduceLT, Nat.reduceMod, Nat.reduceDiv, Nat.reduceMul, Nat.reduceAdd, Nat.reduceEqDiff, reduceIte, Nat.one_ne_zero, Act.put, List.setIfInBounds_toArray, List.set_cons_zero, List.set_cons_succ]
    rw [u2]
    go_wp2_with fail
    refine bodyPost_ret (results_c2t rfl _ _ (w.heap.size + 1) (w.heap.size + 1 + 1) 27 #[.bool s7, .slice ao7 n7 cp7, .int .i64 e7] #[.bool s8, .slice ao8 n8 cp8, .int .i64 e8] (0, 0) (0, 0) _ rfl rfl HX.out.1 HX.out.2.1 Tryz.underlying27 rfl Tryz.info27 Tryz.info27) rfl ?_
    exact ⟨_, _, _, _, _, _, _, _, _, _, rfl, HX.out.2.2.1, HX.out.2.2.2.1, HX.out.2.2.2.2⟩
end Go.Proofs.YtcdkkpjilgmncaaGreatDoor
