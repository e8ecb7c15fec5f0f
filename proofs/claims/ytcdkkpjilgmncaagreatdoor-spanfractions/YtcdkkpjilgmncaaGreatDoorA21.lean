/- Own work: contracts of the program's functions, part 21: FRB SNR SNN SNS SNK SNT SNU SNV FRC SNW SNX SNY SNZ SO1 FRD FRE FRF FRG FRI FS1. -/
import Derived.Test.YtcdkkpjilgmncaaGreatDoorA20
import Derived.Test.YtcdkkpjilgmncaaGreatDoorA19
import Derived.Test.YtcdkkpjilgmncaaGreatDoorA12
import Derived.Test.YtcdkkpjilgmncaaGreatDoorA11
import Derived.Test.YtcdkkpjilgmncaaGreatDoorA16
import Derived.Test.YtcdkkpjilgmncaaGreatDoorA15
import Derived.Test.YtcdkkpjilgmncaaGreatDoorA13
import Derived.Test.YtcdkkpjilgmncaaGreatDoorA10

set_option maxHeartbeats 16000000
namespace Go.Proofs.YtcdkkpjilgmncaaGreatDoor
set_option linter.unusedVariables false
set_option linter.unusedSimpArgs false
open Go.RowKit Go.Fl64
theorem results_c2t {P : Program} {fn : Func} {p q u : Tmp} {ty : TypeId} (h : fn.results = #[.cell p ty, .cell q ty, .tmp u]) (tmps : Array Value) (w : World) (g k : Nat) (t : TypeId) (cs ds : Array Value) (fr fs : Nat × Nat) (d : TypeDesc)
    (hp : tmps.getD p undef = .pointer (some ⟨g, 0, none⟩)) (hq : tmps.getD q undef = .pointer (some ⟨k, 0, none⟩)) (hg : w.heap[g]? = some (.cells cs t fr)) (hk : w.heap[k]? = some (.cells ds t fs))
    (hu : P.underlying ty = some d) (hd : (match d with | .struct _ | .array _ _ => true | _ => false) = true) (hi : (P.info? ty).map (·.size) = some cs.size) (hj : (P.info? ty).map (·.size) = some ds.size) :
    (results fn tmps).run P w = .ok (.tuple #[.agg cs, .agg ds, tmps.getD u undef]) w := by
  have hp' : tmps[p]?.getD undef = .pointer (some ⟨g, 0, none⟩) := by simpa using hp
  have hq' : tmps[q]?.getD undef = .pointer (some ⟨k, 0, none⟩) := by simpa using hq
  simp [results, h, hp', hq', asAddr, run_loadVar_row w g t ty cs fr d hg hu hd hi, run_loadVar_row w k t ty ds fs d hk hu hd hj, Result.andThen]
def Out2N (W : World) (t1 t2 : Bool × Nat × Int) (E : Int) (r : Ending) (w' : World) : Prop := ∃ (s1 : Bool) (ao1 : Option Addr) (n1 cp1 : Nat) (e1 : Int) (s2 : Bool) (ao2 : Option Addr) (n2 cp2 : Nat) (e2 : Int), r = .returned (.tuple #[.agg #[.bool s1, .slice ao1 n1 cp1, .int .i64 e1], .agg #[.bool s2, .slice ao2 n2 cp2, .int .i64 e2], .int .i64 E]) ∧ PN w' (.agg #[.bool s1, .slice ao1 n1 cp1, .int .i64 e1]) t1 ∧ PN w' (.agg #[.bool s2, .slice ao2 n2 cp2, .int .i64 e2]) t2 ∧ Below W.heap.size W w'
set_option maxRecDepth 200000 in
theorem psimp_no (a b : Nat) (w : World)
    (k1 : ∀ W, Below w.heap.size w W → Calls Tryz.prog 12 #[.agg #[.float .f64 a, .float .f64 b]] W fun r w' => r = .returned (.bool false) ∧ Below W.heap.size W w') :
    Calls Tryz.prog 4 #[.agg #[.float .f64 a, .float .f64 b]] w fun r w' => Out2N w nilN nilN 1 r w' := by
  obtain ⟨W, hW⟩ : ∃ W, W = ((w.alloc (.cells #[.float .f64 a, .float .f64 b] 24)).alloc (.cells #[.bool false, .slice none 0 0, .int .i64 0] 28)).alloc (.cells #[.bool false, .slice none 0 0, .int .i64 0] 28) := ⟨_, rfl⟩
  obtain ⟨hF, hN, hM, hBW⟩ := three_new _ _ _ hW
  have c0 : W.cell? ⟨w.heap.size, 0, none⟩ = some (.float .f64 a) := by simp [World.cell?, hF]
  have c1 : W.cell? ⟨w.heap.size, 1, none⟩ = some (.float .f64 b) := by simp [World.cell?, hF]
  have HF : Hid (W.heap[w.heap.size + 1]? = some (.cells #[.bool false, .slice none 0 0, .int .i64 0] 28 (0, 0)) ∧ W.heap[w.heap.size + 1 + 1]? = some (.cells #[.bool false, .slice none 0 0, .int .i64 0] 28 (0, 0)) ∧ Below w.heap.size w W) := ⟨hN, hM, hBW⟩
  have kk := k1 W hBW
  clear k1 hF hN hM hBW
  go_enter Tryz.func4, Tryz.ntmps4
  go_upto_region 1 with fail
  rw [← hW]
  clear hW
  go_wp2_with fail
  refine kk.mono ?_
  rintro r w1 ⟨rfl, hb1⟩
  clear kk c0 c1
  have HG : Hid (w1.heap[w.heap.size + 1]? = some (.cells #[.bool false, .slice none 0 0, .int .i64 0] 28 (0, 0)) ∧ w1.heap[w.heap.size + 1 + 1]? = some (.cells #[.bool false, .slice none 0 0, .int .i64 0] 28 (0, 0)) ∧ Below w.heap.size w w1) := ⟨box_later HF.out.1 hb1 (lt_of_box HF.out.1), box_later HF.out.2.1 hb1 (lt_of_box HF.out.2.1), HF.out.2.2.trans (hb1.mono HF.out.2.2.size)⟩
  obtain ⟨⟨x0, x1, x2⟩, x3, x4, x5⟩ := cells3N HG.out.1
  obtain ⟨⟨y0, y1, y2⟩, y3, y4, y5⟩ := cells3N HG.out.2.1
  clear hb1 HF
  go_wp2_with fail
  obtain ⟨V, hV⟩ : ∃ V, V = ((w1.setCell ⟨w.heap.size + 1, 0, none⟩ (.bool false)).setCell ⟨w.heap.size + 1, 1, none⟩ (.slice none 0 0)).setCell ⟨w.heap.size + 1, 2, none⟩ (.int .i64 0) := ⟨_, rfl⟩
  have v1 := set3_at (.bool false) (.slice none 0 0) (.int .i64 0) HG.out.1
  have v2 : V.heap[w.heap.size + 1 + 1]? = some (.cells #[.bool false, .slice none 0 0, .int .i64 0] 28 (0, 0)) := by
    rw [hV, set_other _ _ _ _ _ (by omega), set_other _ _ _ _ _ (by omega), set_other _ _ _ _ _ (by omega)]
    exact HG.out.2.1
  rw [← hV] at v1 ⊢
  refine bodyPost_ret (results_c2t rfl _ _ (w.heap.size + 1) (w.heap.size + 1 + 1) 28 #[.bool false, .slice none 0 0, .int .i64 0] #[.bool false, .slice none 0 0, .int .i64 0] (0, 0) (0, 0) _ rfl rfl (by rw [set_other _ _ _ _ _ (by omega), set_other _ _ _ _ _ (by omega), set_other _ _ _ _ _ (by omega)]; exact v1) (set3_at _ _ _ v2) Tryz.underlying28 rfl Tryz.info28 Tryz.info28) rfl ?_
  exact ⟨_, _, _, _, _, _, _, _, _, _, rfl, pn_nilN _, pn_nilN _, below_set3 (by rw [hV]; exact below_set3 HG.out.2.2 (by omega) _ _ _) (by omega) _ _ _⟩
set_option maxRecDepth 200000 in
theorem psimp_pos (a b x y : Nat) (t1 t2 : Bool × Nat × Int) (w : World) (hlt : (FloatKind.f64.format.order b 0 == some Ordering.lt) = false)
    (k1 : ∀ W, Below w.heap.size w W → Calls Tryz.prog 12 #[.agg #[.float .f64 a, .float .f64 b]] W fun r w' => r = .returned (.bool true) ∧ Below W.heap.size W w')
    (k2 : ∀ W, Below w.heap.size w W → Calls Tryz.prog 14 #[.agg #[.float .f64 a, .float .f64 b]] W fun r w' => r = .returned (.agg #[.float .f64 x, .float .f64 y]) ∧ Below W.heap.size W w')
    (k3 : ∀ W, Below w.heap.size w W → Calls Tryz.prog 13 #[.agg #[.float .f64 x, .float .f64 y]] W fun r w' => OutFv W t1 t2 r w') :
    Calls Tryz.prog 4 #[.agg #[.float .f64 a, .float .f64 b]] w fun r w' => Out2N w t1 t2 0 r w' := by
  obtain ⟨W, hW⟩ : ∃ W, W = ((w.alloc (.cells #[.float .f64 a, .float .f64 b] 24)).alloc (.cells #[.bool false, .slice none 0 0, .int .i64 0] 28)).alloc (.cells #[.bool false, .slice none 0 0, .int .i64 0] 28) := ⟨_, rfl⟩
  obtain ⟨hF, hN, hM, hBW⟩ := three_new _ _ _ hW
  have c0 : W.cell? ⟨w.heap.size, 0, none⟩ = some (.float .f64 a) := by simp [World.cell?, hF]
  have c1 : W.cell? ⟨w.heap.size, 1, none⟩ = some (.float .f64 b) := by simp [World.cell?, hF]
  have HF : Hid (W.heap[w.heap.size]? = some (.cells #[.float .f64 a, .float .f64 b] 24 (0, 0)) ∧ W.heap[w.heap.size + 1]? = some (.cells #[.bool false, .slice none 0 0, .int .i64 0] 28 (0, 0)) ∧ W.heap[w.heap.size + 1 + 1]? = some (.cells #[.bool false, .slice none 0 0, .int .i64 0] 28 (0, 0)) ∧ Below w.heap.size w W) := ⟨hF, hN, hM, hBW⟩
  have HK2 : Hid _ := k2
  have HK3 : Hid _ := k3
  have kk := k1 W hBW
  clear k1 k2 k3 hF hN hM hBW
  go_enter Tryz.func4, Tryz.ntmps4
  go_upto_region 1 with fail
  rw [← hW]
  clear hW
  go_wp2_with fail
  refine kk.mono ?_
  rintro r w1 ⟨rfl, hb1⟩
  clear kk c0 c1
  have HG : Hid (w1.heap[w.heap.size]? = some (.cells #[.float .f64 a, .float .f64 b] 24 (0, 0)) ∧ w1.heap[w.heap.size + 1]? = some (.cells #[.bool false, .slice none 0 0, .int .i64 0] 28 (0, 0)) ∧ w1.heap[w.heap.size + 1 + 1]? = some (.cells #[.bool false, .slice none 0 0, .int .i64 0] 28 (0, 0)) ∧ Below w.heap.size w w1) := ⟨box_later HF.out.1 hb1 (lt_of_box HF.out.1), box_later HF.out.2.1 hb1 (lt_of_box HF.out.2.1), box_later HF.out.2.2.1 hb1 (lt_of_box HF.out.2.2.1), HF.out.2.2.2.trans (hb1.mono HF.out.2.2.2.size)⟩
  have c0 : w1.cell? ⟨w.heap.size, 0, none⟩ = some (.float .f64 a) := by simp [World.cell?, HG.out.1]
  have c1 : w1.cell? ⟨w.heap.size, 1, none⟩ = some (.float .f64 b) := by simp [World.cell?, HG.out.1]
  clear hb1 HF
  have kk := HK2.out w1 HG.out.2.2.2
  go_wp2_with fail
  refine kk.mono ?_
  rintro r w2 ⟨rfl, hb2⟩
  clear kk c0 c1
  have HB2 : Hid (Below w1.heap.size w1 w2) := hb2
  have kk := HK3.out w2 (HG.out.2.2.2.trans (hb2.mono HG.out.2.2.2.size))
  clear hb2
  go_wp2_with fail
  refine kk.mono ?_
  rintro r w3 ⟨U, rfl, hU, hb3⟩
  clear kk
  obtain ⟨s1, ao1, n1, cp1, e1, s2, ao2, n2, cp2, e2, rfl, p1, p2⟩ := hU
  obtain ⟨W4, hW4⟩ : ∃ W4, W4 = w3.alloc (.cells #[.bool s1, .slice ao1 n1 cp1, .int .i64 e1, .bool s2, .slice ao2 n2 cp2, .int .i64 e2] 45) := ⟨_, rfl⟩
  obtain ⟨g5, hg5⟩ : ∃ g, g = w3.heap.size := ⟨_, rfl⟩
  have hb4 : Below w3.heap.size w3 W4 := by rw [hW4]; exact (Below.refl _ _).alloc (Nat.le_refl _) _
  have hb14 : Below w1.heap.size w1 W4 := (HB2.out.trans (hb3.mono HB2.out.size)).trans (hb4.mono (HB2.out.trans (hb3.mono HB2.out.size)).size)
  have HM : Hid (W4.heap[w.heap.size]? = some (.cells #[.float .f64 a, .float .f64 b] 24 (0, 0)) ∧ W4.heap[w.heap.size + 1]? = some (.cells #[.bool false, .slice none 0 0, .int .i64 0] 28 (0, 0)) ∧ W4.heap[w.heap.size + 1 + 1]? = some (.cells #[.bool false, .slice none 0 0, .int .i64 0] 28 (0, 0)) ∧ Below w.heap.size w W4 ∧ W4.heap[g5]? = some (.cells #[.bool s1, .slice ao1 n1 cp1, .int .i64 e1, .bool s2, .slice ao2 n2 cp2, .int .i64 e2] 45 (0, 0)) ∧ PN W4 (.agg #[.bool s1, .slice ao1 n1 cp1, .int .i64 e1]) t1 ∧ PN W4 (.agg #[.bool s2, .slice ao2 n2 cp2, .int .i64 e2]) t2 ∧ w1.heap.size ≤ g5) := ⟨box_later HG.out.1 hb14 (lt_of_box HG.out.1), box_later HG.out.2.1 hb14 (lt_of_box HG.out.2.1), box_later HG.out.2.2.1 hb14 (lt_of_box HG.out.2.2.1), HG.out.2.2.2.trans (hb14.mono HG.out.2.2.2.size), by rw [hW4, hg5]; exact heap_alloc_new _ _, p1.later hb4, p2.later hb4, by rw [hg5]; exact Nat.le_trans HB2.out.size hb3.size⟩
  have c1 : W4.cell? ⟨w.heap.size, 1, none⟩ = some (.float .f64 b) := by simp [World.cell?, HM.out.1]
  have HS : Hid (w.heap.size + 1 + 1 < w1.heap.size) := lt_of_box HG.out.2.2.1
  clear p1 p2 hb3 hb4 hb14 HB2 HG
  rw [hW4] at c1
  go_upto_region 6 with fail
  rw [← hW4, ← hg5]
  clear hW4 hg5 c1
  obtain ⟨m1, m2, m3, mB, m5, mP, mQ, mg⟩ := HM.out
  have hg5 : w.heap.size + 1 + 1 < g5 := by have := HS.out; omega
  have hbx2 : ∀ i, i < 2 → ∃ cs, W4.heap[two (w.heap.size + 1) (w.heap.size + 1 + 1) i]? = some (.cells cs 28 (0, 0)) ∧ NC3 cs := fun i hi => by
    rcases lt2F hi with rfl | rfl
    · exact ⟨_, m2, _, _, _, _, _, rfl⟩
    · exact ⟨_, m3, _, _, _, _, _, rfl⟩
  have ne5 : ∀ i, i < 2 → g5 ≠ two (w.heap.size + 1) (w.heap.size + 1 + 1) i := fun i hi => by
    rcases lt2F hi with rfl | rfl
    · show g5 ≠ w.heap.size + 1; omega
    · show g5 ≠ w.heap.size + 1 + 1; omega
  refine q_region follows_mixed [0, 1, 2, 3, 6] [4, 5] [22, 23, 24, 25, 4] [[], [0], [], [2], []] [[1], [3]] [1, 3] (two 2 3) (two (w.heap.size + 1) (w.heap.size + 1 + 1)) w.heap.size 28 NC3 3 W4 _ [isV (.pointer (some ⟨g5, 0, none⟩)), isV (.agg #[.bool s1, .slice ao1 n1 cp1, .int .i64 e1]), isV (.pointer (some ⟨g5, 3, none⟩)), isV (.agg #[.bool s2, .slice ao2 n2 cp2, .int .i64 e2]), isV (.int .i64 0)] (by kernel_rfl) ⟨isV_stays _, isV_stays _, isV_stays _, isV_stays _, isV_stays _, trivial⟩ ⟨isV_rows _ _ _, isV_rows _ _ _, isV_rows _ _ _, isV_rows _ _ _, isV_rows _ _ _, trivial⟩ (by show ∀ s ∈ [22, 23, 24, 25, 4], s < 26; decide) ?_ ?_ Tryz.info28 ?_ ?_ ?_ (two_inj (by omega)) mB.size ?_
  · intro i hi V u h
    rcases lt2F hi with rfl | rfl
    · obtain rfl : u = _ := h
      exact ⟨_, rfl, rfl, ⟨_, _, _, _, _, rfl⟩, one3 rfl rfl⟩
    · obtain rfl : u = _ := h
      exact ⟨_, rfl, rfl, ⟨_, _, _, _, _, rfl⟩, one3 rfl rfl⟩
  · intro j hj o ho act V hK hoth hdep hrd
    have h5 : V.heap[g5]? = some (.cells #[.bool s1, .slice ao1 n1 cp1, .int .i64 e1, .bool s2, .slice ao2 n2 cp2, .int .i64 e2] 45 (0, 0)) := (hK.keep g5 (lt_of_box m5) ne5).trans m5
    have c6 := (cells6F h5).1
    have hp5 : act.tmps[(5 : Nat)]? = some (Value.pointer (some ⟨g5, 0, none⟩)) := (hoth 5 (by decide)).trans rfl
    rcases lt5F hj with rfl | rfl | rfl | rfl | rfl
    · obtain rfl := Option.some.inj ho
      exact .inl ⟨rfl, owp_run1 (w' := V) (v := _) (by simp [execOp, eval_get hp5, run_fr0]) ⟨_, rfl, rfl, Below.refl _ _⟩⟩
    · obtain rfl := Option.some.inj ho
      obtain ⟨u0, z0, v0⟩ := hdep 0 (by simp [dL])
      obtain rfl : u0 = _ := v0
      have z0' : act.tmps[(22 : Nat)]? = _ := z0
      exact .inl ⟨rfl, owp_run1 (w' := V) (v := .agg #[.bool s1, .slice ao1 n1 cp1, .int .i64 e1]) (by simp [execOp, eval_get z0', run_ldN _ 0 s1 ao1 n1 cp1 e1 V c6.1 c6.2.1 c6.2.2.1]) ⟨_, rfl, rfl, Below.refl _ _⟩⟩
    · obtain rfl := Option.some.inj ho
      exact .inl ⟨rfl, owp_run1 (w' := V) (v := _) (by simp [execOp, eval_get hp5, run_fr1]) ⟨_, rfl, rfl, Below.refl _ _⟩⟩
    · obtain rfl := Option.some.inj ho
      obtain ⟨u0, z0, v0⟩ := hdep 2 (by simp [dL])
      obtain rfl : u0 = _ := v0
      have z0' : act.tmps[(24 : Nat)]? = _ := z0
      exact .inl ⟨rfl, owp_run1 (w' := V) (v := .agg #[.bool s2, .slice ao2 n2 cp2, .int .i64 e2]) (by simp [execOp, eval_get z0', run_ldN _ 3 s2 ao2 n2 cp2 e2 V c6.2.2.2.1 c6.2.2.2.2.1 c6.2.2.2.2.2]) ⟨_, rfl, rfl, Below.refl _ _⟩⟩
    · obtain rfl := Option.some.inj ho
      exact .inl ⟨rfl, owp_run1 (w' := V) (v := .int .i64 0) (by simp [execOp, Act.eval]) ⟨_, rfl, rfl, Below.refl _ _⟩⟩
  · intro i hi
    rcases lt2F hi with rfl | rfl <;> exact ⟨_, rfl, rfl⟩
  · intro i hi
    rcases lt2F hi with rfl | rfl
    · exact ⟨rfl, by decide⟩
    · exact ⟨rfl, by decide⟩
  · intro i hi
    rcases lt2F hi with rfl | rfl
    · exact ⟨by show w.heap.size ≤ w.heap.size + 1; omega, _, m2, rfl, _, _, _, _, _, rfl⟩
    · exact ⟨by show w.heap.size ≤ w.heap.size + 1 + 1; omega, _, m3, rfl, _, _, _, _, _, rfl⟩
  · intro u V hK hu hcs
    obtain ⟨csa, ya, za⟩ := hcs 0 (by decide)
    obtain ⟨csb, yb, zb⟩ := hcs 1 (by decide)
    have fa : PN V (u 1) t1 := (by rw [show u 1 = .agg #[.bool s1, .slice ao1 n1 cp1, .int .i64 e1] from hu 1 (by decide)]; exact mP.keep3 hK hbx2)
    have fb : PN V (u 3) t2 := (by rw [show u 3 = .agg #[.bool s2, .slice ao2 n2 cp2, .int .i64 e2] from hu 3 (by decide)]; exact mQ.keep3 hK hbx2)
    have ya' : u 1 = .agg csa := ya
    have yb' : u 3 = .agg csb := yb
    rw [ya'] at fa
    rw [yb'] at fb
    obtain ⟨sa, aoa, na, cpa, ea, ha⟩ := fa.shape
    obtain ⟨sb, aob, nb, cpb, eb, hb⟩ := fb.shape
    obtain rfl := Value.agg.inj ha
    obtain rfl := Value.agg.inj hb
    have u4 : u 4 = .int .i64 0 := hu 4 (by decide)
    have HX : Hid (V.heap[w.heap.size + 1]? = some (.cells #[.bool sa, .slice aoa na cpa, .int .i64 ea] 28 (0, 0)) ∧ V.heap[w.heap.size + 1 + 1]? = some (.cells #[.bool sb, .slice aob nb cpb, .int .i64 eb] 28 (0, 0)) ∧ PN V (.agg #[.bool sa, .slice aoa na cpa, .int .i64 ea]) t1 ∧ PN V (.agg #[.bool sb, .slice aob nb cpb, .int .i64 eb]) t2 ∧ Below w.heap.size w V) := ⟨za, zb, fa, fb, mB.trans hK.below⟩
    clear hu hcs ya yb za zb ya' yb' fa fb ha hb hK m1 m2 m3 mB m5 mP mQ mg hbx2 ne5 HM
    simp only [putL, List.length_cons, List.length_nil, Nat.reduceAdd, show List.range 5 = [0, 1, 2, 3, 4] from rfl, List.getD_cons_zero, List.getD_cons_succ, List.map_cons, List.map_nil, List.cons_append, List.nil_append, List.foldl_cons, List.foldl_nil, Nat.reduceLT, Nat.reduceMod, Nat.reduceDiv, Nat.reduceMul, Nat.reduceEqDiff, reduceIte, Nat.one_ne_zero, Act.put, List.setIfInBounds_toArray, List.set_cons_zero, List.set_cons_succ]
    rw [u4]
    go_wp2_with fail
    refine bodyPost_ret (results_c2t rfl _ _ (w.heap.size + 1) (w.heap.size + 1 + 1) 28 #[.bool sa, .slice aoa na cpa, .int .i64 ea] #[.bool sb, .slice aob nb cpb, .int .i64 eb] (0, 0) (0, 0) _ rfl rfl HX.out.1 HX.out.2.1 Tryz.underlying28 rfl Tryz.info28 Tryz.info28) rfl ?_
    exact ⟨_, _, _, _, _, _, _, _, _, _, rfl, HX.out.2.2.1, HX.out.2.2.2.1, HX.out.2.2.2.2⟩
set_option maxRecDepth 200000 in
theorem psimp_neg (a b x y : Nat) (t1 t2 t3 : Bool × Nat × Int) (w : World) (hlt : (FloatKind.f64.format.order b 0 == some Ordering.lt) = true)
    (k1 : ∀ W, Below w.heap.size w W → Calls Tryz.prog 12 #[.agg #[.float .f64 a, .float .f64 b]] W fun r w' => r = .returned (.bool true) ∧ Below W.heap.size W w')
    (k2 : ∀ W, Below w.heap.size w W → Calls Tryz.prog 14 #[.agg #[.float .f64 a, .float .f64 b]] W fun r w' => r = .returned (.agg #[.float .f64 x, .float .f64 y]) ∧ Below W.heap.size W w')
    (k3 : ∀ W, Below w.heap.size w W → Calls Tryz.prog 13 #[.agg #[.float .f64 x, .float .f64 y]] W fun r w' => OutFv W t1 t2 r w')
    (k4 : ∀ W X, Below w.heap.size w W → PN W X t1 → Calls Tryz.prog 15 #[X] W fun r w' => OutP W t3 r w') :
    Calls Tryz.prog 4 #[.agg #[.float .f64 a, .float .f64 b]] w fun r w' => Out2N w t3 t2 0 r w' := by
  obtain ⟨W, hW⟩ : ∃ W, W = ((w.alloc (.cells #[.float .f64 a, .float .f64 b] 24)).alloc (.cells #[.bool false, .slice none 0 0, .int .i64 0] 28)).alloc (.cells #[.bool false, .slice none 0 0, .int .i64 0] 28) := ⟨_, rfl⟩
  obtain ⟨hF, hN, hM, hBW⟩ := three_new _ _ _ hW
  have c0 : W.cell? ⟨w.heap.size, 0, none⟩ = some (.float .f64 a) := by simp [World.cell?, hF]
  have c1 : W.cell? ⟨w.heap.size, 1, none⟩ = some (.float .f64 b) := by simp [World.cell?, hF]
  have HF : Hid (W.heap[w.heap.size]? = some (.cells #[.float .f64 a, .float .f64 b] 24 (0, 0)) ∧ W.heap[w.heap.size + 1]? = some (.cells #[.bool false, .slice none 0 0, .int .i64 0] 28 (0, 0)) ∧ W.heap[w.heap.size + 1 + 1]? = some (.cells #[.bool false, .slice none 0 0, .int .i64 0] 28 (0, 0)) ∧ Below w.heap.size w W) := ⟨hF, hN, hM, hBW⟩
  have HK2 : Hid _ := k2
  have HK3 : Hid _ := k3
  have HK4 : Hid _ := k4
  clear k4
  have kk := k1 W hBW
  clear k1 k2 k3 hF hN hM hBW
  go_enter Tryz.func4, Tryz.ntmps4
  go_upto_region 1 with fail
  rw [← hW]
  clear hW
  go_wp2_with fail
  refine kk.mono ?_
  rintro r w1 ⟨rfl, hb1⟩
  clear kk c0 c1
  have HG : Hid (w1.heap[w.heap.size]? = some (.cells #[.float .f64 a, .float .f64 b] 24 (0, 0)) ∧ w1.heap[w.heap.size + 1]? = some (.cells #[.bool false, .slice none 0 0, .int .i64 0] 28 (0, 0)) ∧ w1.heap[w.heap.size + 1 + 1]? = some (.cells #[.bool false, .slice none 0 0, .int .i64 0] 28 (0, 0)) ∧ Below w.heap.size w w1) := ⟨box_later HF.out.1 hb1 (lt_of_box HF.out.1), box_later HF.out.2.1 hb1 (lt_of_box HF.out.2.1), box_later HF.out.2.2.1 hb1 (lt_of_box HF.out.2.2.1), HF.out.2.2.2.trans (hb1.mono HF.out.2.2.2.size)⟩
  have c0 : w1.cell? ⟨w.heap.size, 0, none⟩ = some (.float .f64 a) := by simp [World.cell?, HG.out.1]
  have c1 : w1.cell? ⟨w.heap.size, 1, none⟩ = some (.float .f64 b) := by simp [World.cell?, HG.out.1]
  clear hb1 HF
  have kk := HK2.out w1 HG.out.2.2.2
  go_wp2_with fail
  refine kk.mono ?_
  rintro r w2 ⟨rfl, hb2⟩
  clear kk c0 c1
  have HB2 : Hid (Below w1.heap.size w1 w2) := hb2
  have kk := HK3.out w2 (HG.out.2.2.2.trans (hb2.mono HG.out.2.2.2.size))
  clear hb2
  go_wp2_with fail
  refine kk.mono ?_
  rintro r w3 ⟨U, rfl, hU, hb3⟩
  clear kk
  obtain ⟨s1, ao1, n1, cp1, e1, s2, ao2, n2, cp2, e2, rfl, p1, p2⟩ := hU
  obtain ⟨W4, hW4⟩ : ∃ W4, W4 = w3.alloc (.cells #[.bool s1, .slice ao1 n1 cp1, .int .i64 e1, .bool s2, .slice ao2 n2 cp2, .int .i64 e2] 45) := ⟨_, rfl⟩
  obtain ⟨g5, hg5⟩ : ∃ g, g = w3.heap.size := ⟨_, rfl⟩
  have hb4 : Below w3.heap.size w3 W4 := by rw [hW4]; exact (Below.refl _ _).alloc (Nat.le_refl _) _
  have hb14 : Below w1.heap.size w1 W4 := (HB2.out.trans (hb3.mono HB2.out.size)).trans (hb4.mono (HB2.out.trans (hb3.mono HB2.out.size)).size)
  have HM : Hid (W4.heap[w.heap.size]? = some (.cells #[.float .f64 a, .float .f64 b] 24 (0, 0)) ∧ W4.heap[w.heap.size + 1]? = some (.cells #[.bool false, .slice none 0 0, .int .i64 0] 28 (0, 0)) ∧ W4.heap[w.heap.size + 1 + 1]? = some (.cells #[.bool false, .slice none 0 0, .int .i64 0] 28 (0, 0)) ∧ Below w.heap.size w W4 ∧ W4.heap[g5]? = some (.cells #[.bool s1, .slice ao1 n1 cp1, .int .i64 e1, .bool s2, .slice ao2 n2 cp2, .int .i64 e2] 45 (0, 0)) ∧ PN W4 (.agg #[.bool s1, .slice ao1 n1 cp1, .int .i64 e1]) t1 ∧ PN W4 (.agg #[.bool s2, .slice ao2 n2 cp2, .int .i64 e2]) t2 ∧ w1.heap.size ≤ g5) := ⟨box_later HG.out.1 hb14 (lt_of_box HG.out.1), box_later HG.out.2.1 hb14 (lt_of_box HG.out.2.1), box_later HG.out.2.2.1 hb14 (lt_of_box HG.out.2.2.1), HG.out.2.2.2.trans (hb14.mono HG.out.2.2.2.size), by rw [hW4, hg5]; exact heap_alloc_new _ _, p1.later hb4, p2.later hb4, by rw [hg5]; exact Nat.le_trans HB2.out.size hb3.size⟩
  have c1 : W4.cell? ⟨w.heap.size, 1, none⟩ = some (.float .f64 b) := by simp [World.cell?, HM.out.1]
  have HS : Hid (w.heap.size + 1 + 1 < w1.heap.size) := lt_of_box HG.out.2.2.1
  clear p1 p2 hb3 hb4 hb14 HB2 HG
  rw [hW4] at c1
  go_upto_region 5 with fail
  rw [← hW4, ← hg5]
  clear hW4 hg5 c1
  obtain ⟨m1, m2, m3, mB, m5, mP, mQ, mg⟩ := HM.out
  have hg5 : w.heap.size + 1 + 1 < g5 := by have := HS.out; omega
  have hbx2 : ∀ i, i < 2 → ∃ cs, W4.heap[two (w.heap.size + 1) (w.heap.size + 1 + 1) i]? = some (.cells cs 28 (0, 0)) ∧ NC3 cs := fun i hi => by
    rcases lt2F hi with rfl | rfl
    · exact ⟨_, m2, _, _, _, _, _, rfl⟩
    · exact ⟨_, m3, _, _, _, _, _, rfl⟩
  have ne5 : ∀ i, i < 2 → g5 ≠ two (w.heap.size + 1) (w.heap.size + 1 + 1) i := fun i hi => by
    rcases lt2F hi with rfl | rfl
    · show g5 ≠ w.heap.size + 1; omega
    · show g5 ≠ w.heap.size + 1 + 1; omega
  refine q_region follows_mixed [0, 1, 2, 3, 4, 7] [5, 6] [17, 18, 19, 20, 21, 4] [[], [0], [1], [], [3], []] [[2], [4]] [2, 4] (two 2 3) (two (w.heap.size + 1) (w.heap.size + 1 + 1)) w.heap.size 28 NC3 3 W4 _ [isV (.pointer (some ⟨g5, 0, none⟩)), isV (.agg #[.bool s1, .slice ao1 n1 cp1, .int .i64 e1]), isP t3, isV (.pointer (some ⟨g5, 3, none⟩)), isV (.agg #[.bool s2, .slice ao2 n2 cp2, .int .i64 e2]), isV (.int .i64 0)] (by kernel_rfl) ⟨isV_stays _, isV_stays _, isP_stays _, isV_stays _, isV_stays _, isV_stays _, trivial⟩ ⟨isV_rows _ _ _, isV_rows _ _ _, isP_rows3 _, isV_rows _ _ _, isV_rows _ _ _, isV_rows _ _ _, trivial⟩ (by show ∀ s ∈ [17, 18, 19, 20, 21, 4], s < 26; decide) ?_ ?_ Tryz.info28 ?_ ?_ ?_ (two_inj (by omega)) mB.size ?_
  · intro i hi V u h
    rcases lt2F hi with rfl | rfl
    · exact PN.cells3 (show PN V u t3 from h)
    · obtain rfl : u = _ := h
      exact ⟨_, rfl, rfl, ⟨_, _, _, _, _, rfl⟩, one3 rfl rfl⟩
  · intro j hj o ho act V hK hoth hdep hrd
    have h5 : V.heap[g5]? = some (.cells #[.bool s1, .slice ao1 n1 cp1, .int .i64 e1, .bool s2, .slice ao2 n2 cp2, .int .i64 e2] 45 (0, 0)) := (hK.keep g5 (lt_of_box m5) ne5).trans m5
    have c6 := (cells6F h5).1
    have hp5 : act.tmps[(5 : Nat)]? = some (Value.pointer (some ⟨g5, 0, none⟩)) := (hoth 5 (by decide)).trans rfl
    rcases lt6F hj with rfl | rfl | rfl | rfl | rfl | rfl
    · obtain rfl := Option.some.inj ho
      exact .inl ⟨rfl, owp_run1 (w' := V) (v := _) (by simp [execOp, eval_get hp5, run_fr0]) ⟨_, rfl, rfl, Below.refl _ _⟩⟩
    · obtain rfl := Option.some.inj ho
      obtain ⟨u0, z0, v0⟩ := hdep 0 (by simp [dL])
      obtain rfl : u0 = _ := v0
      have z0' : act.tmps[(17 : Nat)]? = _ := z0
      exact .inl ⟨rfl, owp_run1 (w' := V) (v := .agg #[.bool s1, .slice ao1 n1 cp1, .int .i64 e1]) (by simp [execOp, eval_get z0', run_ldN _ 0 s1 ao1 n1 cp1 e1 V c6.1 c6.2.1 c6.2.2.1]) ⟨_, rfl, rfl, Below.refl _ _⟩⟩
    · obtain rfl := Option.some.inj ho
      obtain ⟨u0, z0, v0⟩ := hdep 1 (by simp [dL])
      obtain rfl : u0 = _ := v0
      have z0' : act.tmps[(18 : Nat)]? = _ := z0
      refine .inl ⟨rfl, owp_call rfl (enters Tryz.func15 (by kernel_rfl) (by kernel_rfl)) (vs := #[.agg #[.bool s1, .slice ao1 n1 cp1, .int .i64 e1]]) (by simp only [List.map_toArray, List.map_cons, List.map_nil]; rw [eval_get z0']) ?_⟩
      refine (HK4.out V _ (mB.trans hK.below) (mP.keep3 hK hbx2)).mono ?_
      rintro r w' ⟨s', ao', n', cap', e', rfl, hP, hb'⟩
      exact ⟨_, rfl, _, rfl, hP, hb'⟩
    · obtain rfl := Option.some.inj ho
      exact .inl ⟨rfl, owp_run1 (w' := V) (v := _) (by simp [execOp, eval_get hp5, run_fr1]) ⟨_, rfl, rfl, Below.refl _ _⟩⟩
    · obtain rfl := Option.some.inj ho
      obtain ⟨u0, z0, v0⟩ := hdep 3 (by simp [dL])
      obtain rfl : u0 = _ := v0
      have z0' : act.tmps[(20 : Nat)]? = _ := z0
      exact .inl ⟨rfl, owp_run1 (w' := V) (v := .agg #[.bool s2, .slice ao2 n2 cp2, .int .i64 e2]) (by simp [execOp, eval_get z0', run_ldN _ 3 s2 ao2 n2 cp2 e2 V c6.2.2.2.1 c6.2.2.2.2.1 c6.2.2.2.2.2]) ⟨_, rfl, rfl, Below.refl _ _⟩⟩
    · obtain rfl := Option.some.inj ho
      exact .inl ⟨rfl, owp_run1 (w' := V) (v := .int .i64 0) (by simp [execOp, Act.eval]) ⟨_, rfl, rfl, Below.refl _ _⟩⟩
  · intro i hi
    rcases lt2F hi with rfl | rfl <;> exact ⟨_, rfl, rfl⟩
  · intro i hi
    rcases lt2F hi with rfl | rfl
    · exact ⟨rfl, by decide⟩
    · exact ⟨rfl, by decide⟩
  · intro i hi
    rcases lt2F hi with rfl | rfl
    · exact ⟨by show w.heap.size ≤ w.heap.size + 1; omega, _, m2, rfl, _, _, _, _, _, rfl⟩
    · exact ⟨by show w.heap.size ≤ w.heap.size + 1 + 1; omega, _, m3, rfl, _, _, _, _, _, rfl⟩
  · intro u V hK hu hcs
    obtain ⟨csa, ya, za⟩ := hcs 0 (by decide)
    obtain ⟨csb, yb, zb⟩ := hcs 1 (by decide)
    have fa : PN V (u 2) t3 := hu 2 (by decide)
    have fb : PN V (u 4) t2 := (by rw [show u 4 = .agg #[.bool s2, .slice ao2 n2 cp2, .int .i64 e2] from hu 4 (by decide)]; exact mQ.keep3 hK hbx2)
    have ya' : u 2 = .agg csa := ya
    have yb' : u 4 = .agg csb := yb
    rw [ya'] at fa
    rw [yb'] at fb
    obtain ⟨sa, aoa, na, cpa, ea, ha⟩ := fa.shape
    obtain ⟨sb, aob, nb, cpb, eb, hb⟩ := fb.shape
    obtain rfl := Value.agg.inj ha
    obtain rfl := Value.agg.inj hb
    have u4 : u 5 = .int .i64 0 := hu 5 (by decide)
    have HX : Hid (V.heap[w.heap.size + 1]? = some (.cells #[.bool sa, .slice aoa na cpa, .int .i64 ea] 28 (0, 0)) ∧ V.heap[w.heap.size + 1 + 1]? = some (.cells #[.bool sb, .slice aob nb cpb, .int .i64 eb] 28 (0, 0)) ∧ PN V (.agg #[.bool sa, .slice aoa na cpa, .int .i64 ea]) t3 ∧ PN V (.agg #[.bool sb, .slice aob nb cpb, .int .i64 eb]) t2 ∧ Below w.heap.size w V) := ⟨za, zb, fa, fb, mB.trans hK.below⟩
    clear hu hcs ya yb za zb ya' yb' fa fb ha hb hK m1 m2 m3 mB m5 mP mQ mg hbx2 ne5 HM
    simp only [putL, List.length_cons, List.length_nil, Nat.reduceAdd, show List.range 6 = [0, 1, 2, 3, 4, 5] from rfl, List.getD_cons_zero, List.getD_cons_succ, List.map_cons, List.map_nil, List.cons_append, List.nil_append, List.foldl_cons, List.foldl_nil, Nat.reduceLT, Nat.reduceMod, Nat.reduceDiv, Nat.reduceMul, Nat.reduceEqDiff, reduceIte, Nat.one_ne_zero, Act.put, List.setIfInBounds_toArray, List.set_cons_zero, List.set_cons_succ]
    rw [u4]
    go_wp2_with fail
    refine bodyPost_ret (results_c2t rfl _ _ (w.heap.size + 1) (w.heap.size + 1 + 1) 28 #[.bool sa, .slice aoa na cpa, .int .i64 ea] #[.bool sb, .slice aob nb cpb, .int .i64 eb] (0, 0) (0, 0) _ rfl rfl HX.out.1 HX.out.2.1 Tryz.underlying28 rfl Tryz.info28 Tryz.info28) rfl ?_
    exact ⟨_, _, _, _, _, _, _, _, _, _, rfl, HX.out.2.2.1, HX.out.2.2.2.1, HX.out.2.2.2.2⟩
attribute [local go_sem] run_store_flt
attribute [local go_sem] run_store_flt
attribute [local go_sem] run_store_flt
attribute [local go_sem] run_store_flt
theorem sturned (a b : Nat) (w : World) (ha : a < 18446744073709551616) (hb : b < 18446744073709551616) :
    Calls Tryz.prog 43 #[.agg #[.float .f64 a, .float .f64 b]] w fun r w' => r = .returned (.agg #[.float .f64 (pl (ngt b)), .float .f64 (pl (ngt a))]) ∧ Below w.heap.size w w' := by
  have n1 : ∀ w, (Op.unary UnOp.neg (.float .f64 a)).run Tryz.prog w = .ok (.float .f64 (ngt a)) w := fun w => by rw [← negF a ha]; rfl
  have n2 : ∀ w, (Op.unary UnOp.neg (.float .f64 b)).run Tryz.prog w = .ok (.float .f64 (ngt b)) w := fun w => by rw [← negF b hb]; rfl
  have k := fun W => sbetween (ngt b) (ngt a) W (ngt_lt hb) (ngt_lt ha)
  generalize pl (ngt a) = A at *
  generalize pl (ngt b) = C at *
  obtain ⟨W, hW⟩ : ∃ W, W = ((w.alloc (.cells #[.float .f64 a, .float .f64 b] 24)).alloc (.cells #[.float .f64 0, .float .f64 0] 24)) := ⟨_, rfl⟩
  have HX : Hid (Below w.heap.size w W ∧ IvB W (w.heap.size) a b ∧ IvB W (w.heap.size + 1) 0 0) := by
    rw [hW]
    exact ⟨bxs2_0 w a b 0 0, bxs2_1 w a b 0 0, bxs2_2 w a b 0 0⟩
  have HK : Hid (∀ w', Below W.heap.size W w' → IvF w' (w.heap.size) a b ∧ IvF w' (w.heap.size + 1) 0 0) := fun w' hb => ⟨(HX.out.2.1).later hb, (HX.out.2.2).later hb⟩
  obtain ⟨⟨c0, c1, z0, z1⟩, ⟨c2, c3, z2, z3⟩⟩ := HK.out W (Below.refl _ _)
  have kk := k W
  clear k ha hb
  go_enter Tryz.func43, Tryz.ntmps43
  go_upto_region 1 with fail
  rw [← hW]
  clear hW
  go_wp2_with fail
  refine kk.mono ?_
  rintro r w1 ⟨rfl, hb1⟩
  clear kk c0 c1 c2 c3 z0 z1 z2 z3
  obtain ⟨⟨c0, c1, z0, z1⟩, ⟨c2, c3, z2, z3⟩⟩ := HK.out w1 hb1
  have HB : Hid (Below w.heap.size w w1) := HX.out.1.trans (hb1.mono HX.out.1.size)
  have HR : Hid (IvB w1 (w.heap.size + 1) 0 0) := HX.out.2.2.box hb1
  clear hb1 HK HX n1 n2
  go_wp2
  refine bodyPost_ret (results_cell_row rfl _ _ (w.heap.size + 1) 24 #[.float .f64 C, .float .f64 A] (0, 0) _ rfl (HR.out.set _ _) Tryz.underlying24 rfl iv_info) rfl ?_
  exact ⟨rfl, below_store2 HB.out (by omega) _ _⟩
theorem smag_1 (a b x y m : Nat) (p q : Bool) (w : World) (o1 : (FloatKind.f64.format.order a 0 == some Ordering.gt || FloatKind.f64.format.order a 0 == some Ordering.eq) = p) (o2 : (FloatKind.f64.format.order b 0 == some Ordering.lt || FloatKind.f64.format.order b 0 == some Ordering.eq) = q)
    (n1 : ∀ w, (Op.unary UnOp.neg (.float .f64 a)).run Tryz.prog w = .ok (.float .f64 (ngt a)) w)
    (hm : p = false → q = false → ∀ W ts t, (Builtin.max_ ts t #[.float .f64 (ngt a), .float .f64 b]).run Tryz.prog W = .ok (.float .f64 m) W)
    (k : ∀ W, Calls Tryz.prog 43 #[.agg #[.float .f64 a, .float .f64 b]] W fun r w' => r = .returned (.agg #[.float .f64 x, .float .f64 y]) ∧ Below W.heap.size W w') :
    Calls Tryz.prog 14 #[.agg #[.float .f64 a, .float .f64 b]] w fun r w' => r = .returned (if p then .agg #[.float .f64 a, .float .f64 b] else if q then .agg #[.float .f64 x, .float .f64 y] else .agg #[.float .f64 0, .float .f64 m]) ∧ Below w.heap.size w w' := by
  generalize hR : (if p then .agg #[.float .f64 a, .float .f64 b] else if q then .agg #[.float .f64 x, .float .f64 y] else .agg #[.float .f64 0, .float .f64 m] : Value) = R
  have HRV : Hid ((if p then .agg #[.float .f64 a, .float .f64 b] else if q then .agg #[.float .f64 x, .float .f64 y] else .agg #[.float .f64 0, .float .f64 m] : Value) = R) := hR
  clear hR
  have HM : Hid (p = false → q = false → ∀ W ts t, (Builtin.max_ ts t #[.float .f64 (ngt a), .float .f64 b]).run Tryz.prog W = .ok (.float .f64 m) W) := hm
  obtain ⟨W, hW⟩ : ∃ W, W = ((w.alloc (.cells #[.float .f64 a, .float .f64 b] 24)).alloc (.cells #[.float .f64 0, .float .f64 0] 24)) := ⟨_, rfl⟩
  have HX : Hid (Below w.heap.size w W ∧ IvB W (w.heap.size) a b ∧ IvB W (w.heap.size + 1) 0 0) := by
    rw [hW]
    exact ⟨bxs2_0 w a b 0 0, bxs2_1 w a b 0 0, bxs2_2 w a b 0 0⟩
  have HK : Hid (∀ w', Below W.heap.size W w' → IvF w' (w.heap.size) a b ∧ IvF w' (w.heap.size + 1) 0 0) := fun w' hb => ⟨(HX.out.2.1).later hb, (HX.out.2.2).later hb⟩
  obtain ⟨⟨c0, c1, z0, z1⟩, ⟨c2, c3, z2, z3⟩⟩ := HK.out W (Below.refl _ _)
  have kk := k W
  clear k hm
  go_enter Tryz.func14, Tryz.ntmps14
  go_upto_region 1 with fail
  rw [← hW]
  clear hW
  cases p
  · cases q
    · have hm := HM.out rfl rfl
      have HR : Hid (IvB W (w.heap.size + 1) 0 0) := HX.out.2.2
      go_wp2
      refine bodyPost_ret (results_cell_row rfl _ _ (w.heap.size + 1) 24 #[.float .f64 0, .float .f64 m] (0, 0) _ rfl (HR.out.set _ _) Tryz.underlying24 rfl iv_info) rfl ?_
      exact ⟨congrArg Ending.returned HRV.out, below_store2 HX.out.1 (by omega) _ _⟩
    · clear HM
      go_wp2_with fail
      refine kk.mono ?_
      rintro r w1 ⟨rfl, hb1⟩
      clear kk c0 c1 c2 c3 z0 z1 z2 z3
      obtain ⟨⟨c0, c1, z0, z1⟩, ⟨c2, c3, z2, z3⟩⟩ := HK.out w1 hb1
      have HB : Hid (Below w.heap.size w w1) := HX.out.1.trans (hb1.mono HX.out.1.size)
      have HR : Hid (IvB w1 (w.heap.size + 1) 0 0) := HX.out.2.2.box hb1
      clear hb1 HK HX
      go_wp2
      refine bodyPost_ret (results_cell_row rfl _ _ (w.heap.size + 1) 24 #[.float .f64 x, .float .f64 y] (0, 0) _ rfl (HR.out.set _ _) Tryz.underlying24 rfl iv_info) rfl ?_
      exact ⟨congrArg Ending.returned HRV.out, below_store2 HB.out (by omega) _ _⟩
  · clear HM
    have HR : Hid (IvB W (w.heap.size + 1) 0 0) := HX.out.2.2
    go_wp2
    refine bodyPost_ret (results_cell_row rfl _ _ (w.heap.size + 1) 24 #[.float .f64 a, .float .f64 b] (0, 0) _ rfl (HR.out.set _ _) Tryz.underlying24 rfl iv_info) rfl ?_
    exact ⟨congrArg Ending.returned HRV.out, below_store2 HX.out.1 (by omega) _ _⟩
theorem tF_zero8 {a : Nat} (h : mag a = 0) : tF a = (false, 0, 0) := by
  obtain ⟨-, -, -, f4, -⟩ := (tF_ok a).facts
  refine f4 ?_
  unfold tF cn
  have hm : Ie.mant a = 0 := by
    have e := (val_mant a (by omega)).1
    rw [h, val_zero] at e
    have hp := Nat.two_pow_pos (Ie.lp a + 1074).toNat
    rcases Nat.mul_eq_zero.1 e.symm with h | h
    · exact h
    · omega
  rw [if_pos hm]
theorem cmpI_neg_iff (x y : Int) : (cmpI x y < 0 ↔ x < y) ∧ (0 < cmpI x y ↔ y < x) := by
  unfold cmpI
  constructor
  · split
    · omega
    · split <;> omega
  · split
    · omega
    · split <;> omega
theorem vz_tF8 {a : Nat} (ha : a < 18446744073709551616) (hf : mag a < 9218868437227405312) : vz 5000000 (tF a).1 (tF a).2.1 (tF a).2.2 = vz 5000000 (nN a) (nM a) (Ie.sE a) := by
  obtain ⟨M, hM, hl⟩ := sM_lt a ha
  have hc := cn_parts a M ha hf hM
  have hn : nM a = M := by unfold nM; rw [hM]; rfl
  have hb : 0 ≤ Ie.sE a + (5000000 : Nat) := by
    have := (sE_le a).1
    omega
  rw [← hc, vz_cn hb, hn]
  unfold nN
  by_cases h0 : mag a = 0
  · have : M = 0 := by
      rcases of_parts a M ha hf hM with ⟨h1, h2⟩ | ⟨h1, h2, -, h3, h4⟩
      · omega
      · exfalso
        have e := tF_zero8 h0
        rw [← hc] at e
        unfold cn at e
        by_cases hM0 : M = 0
        · omega
        · rw [if_neg hM0] at e
          have e2 : M / 2 ^ tz M = 0 := congrArg (fun t => t.2.1) e
          have hs := tz_spec M M (Nat.le_refl _) hM0
          rw [e2] at hs
          have := hs.1
          omega
    subst this
    unfold vz
    rw [sv_zero, sv_zero]
  · rw [if_neg h0]
theorem tF_e5000000 (a : Nat) : 0 ≤ (tF a).2.2 + (5000000 : Nat) := by
  obtain ⟨f1, f2, f3, f4, f5⟩ := (tF_ok a).facts
  omega
theorem sE_e5000000 {a : Nat} (ha : a < 18446744073709551616) (hf : mag a < 9218868437227405312) : 0 ≤ Ie.sE a + (5000000 : Nat) := by
  have := (sE_le a).1
  omega
theorem ord_tF8 {a b : Nat} (ha : a < 18446744073709551616) (hb : b < 18446744073709551616) (fa : mag a < 9218868437227405312) (fb : mag b < 9218868437227405312) :
    ordN (tF a).1 (tF a).2.1 (tF a).2.2 (tF b).1 (tF b).2.1 (tF b).2.2 = cmpI (stp a) (stp b) := by
  rw [ordN_vz (tF_e5000000 a) (tF_e5000000 b), vz_tF8 ha fa, vz_tF8 hb fb, ← ordN_vz (sE_e5000000 ha fa) (sE_e5000000 hb fb)]
  exact ord_num fa fb
attribute [local go_sem] run_store_flt
def mgX (a b : Nat) : Nat := if le 0 a then a else if le b 0 then pl (ngt b) else 0
def mgY (a b : Nat) : Nat := if le 0 a then b else if le b 0 then pl (ngt a) else fMax (ngt a) b
theorem smag (a b : Nat) (w : World) (ha : a < 18446744073709551616) (hb : b < 18446744073709551616) (na : isNaN a = false) (nb : isNaN b = false) :
    Calls Tryz.prog 14 #[.agg #[.float .f64 a, .float .f64 b]] w fun r w' => r = .returned (.agg #[.float .f64 (mgX a b), .float .f64 (mgY a b)]) ∧ Below w.heap.size w w' := by
  have k := smag_1 a b (pl (ngt b)) (pl (ngt a)) (fMax (ngt a) b) (le 0 a) (le b 0) w (ord_ge a 0 ha (by omega)) (ord_le b 0 hb (by omega)) (fun w => by rw [← negF a ha]; rfl) (fun _ _ W ts t => run_fmax W ts t _ _ (ngt_lt ha) hb (by rw [ngt_nan8 ha]; exact na) nb) (fun W => sturned a b W ha hb)
  unfold mgX mgY
  cases h1 : le 0 a
  · cases h2 : le b 0
    · rw [h1, h2] at k; exact k
    · rw [h1, h2] at k; exact k
  · rw [h1] at k; exact k
def sU (a : Nat) : Int := if neg a then -((fU a : Nat) : Int) else ((fU a : Nat) : Int)
theorem tF_sU (a : Nat) : tF a = un (sU a) 1074 := by
  have hl := (Ie.lp_bound a).1
  unfold tF
  refine un_eq (K := 1074) (Nat.le_refl _) (by omega) ?_
  unfold sU vz sv fU
  rw [Nat.sub_self, Nat.pow_zero, Int.natCast_mul]
  cases neg a
  · simp
  · simp [Int.neg_mul]
def bU : Nat := 2200
theorem fU_lt (a : Nat) : fU a < 2 ^ bU := by
  unfold fU
  have h1 := Ie.mant_bound a
  have h2 := (Ie.lp_bound a).2
  obtain ⟨e, he⟩ : ∃ e, e = (Ie.lp a + 1074).toNat := ⟨_, rfl⟩
  rw [← he]
  have h3 : Ie.mant a < 2 ^ 53 := by omega
  have h4 : Ie.mant a * 2 ^ e < 2 ^ 53 * 2 ^ e := Nat.mul_lt_mul_of_pos_right h3 (Nat.two_pow_pos _)
  rw [← Nat.pow_add] at h4
  exact Nat.lt_of_lt_of_le h4 (Nat.pow_le_pow_right (by decide) (by unfold bU; omega))
theorem sU_lt (a : Nat) : (sU a).natAbs < 2 ^ bU := by
  have := fU_lt a
  unfold sU
  split
  · rw [Int.natAbs_neg, Int.natAbs_natCast]; exact this
  · rw [Int.natAbs_natCast]; exact this
def pU (n : Nat) : Nat := 2 ^ n
theorem pU_pos (n : Nat) : 0 < pU n := Nat.two_pow_pos n
def kU : Nat := pU 1074
theorem kU_pos : 0 < kU := pU_pos 1074
theorem pU_lt {n m : Nat} (h : n < m) : pU n < 2 ^ m := Nat.pow_lt_pow_right (by decide) h
theorem kU_lt : kU < 2 ^ bU := pU_lt (by unfold bU; decide)
theorem un_pU (Z : Int) (n : Nat) : un Z 0 = un (Z * (pU n : Int)) n := by
  have h := vz_un (K := n) (p := 0) Z (by omega)
  have e1 := (un_e (p := 0) (Nat.lt_two_pow_self (n := Z.natAbs))).2.2
  conv => lhs; rw [show un Z 0 = cn (un Z 0).1 (un Z 0).2.1 (un Z 0).2.2 from (cn_idem _ _ _).symm]
  refine un_eq (K := n) (Nat.le_refl _) (by omega) ?_
  rw [h, Nat.sub_self, Nat.pow_zero, Nat.sub_zero]
  unfold pU
  simp
theorem un_kU (Z : Int) : un Z 0 = un (Z * (kU : Int)) 1074 := un_pU Z 1074
attribute [local go_sem] run_store_flt
attribute [local go_sem] run_store_flt
attribute [local go_sem] run_store_flt
attribute [local go_sem] run_store_flt
attribute [local go_sem] run_store_flt
def V8 (t : Bool × Nat × Int) : Int := vz 5000000 t.1 t.2.1 t.2.2
theorem Ok.e8 {t : Bool × Nat × Int} (h : Ok t) : 0 ≤ t.2.2 + (5000000 : Nat) := by
  have := h.facts
  omega
theorem V8_cmp {a b : Nat} (ha : a < 18446744073709551616) (hb : b < 18446744073709551616) (fa : mag a < 9218868437227405312) (fb : mag b < 9218868437227405312) : V8 (tF a) ≤ V8 (tF b) ↔ stp a ≤ stp b := by
  have k := ord_tF8 ha hb fa fb
  rw [ordN_vz (tF_e5000000 a) (tF_e5000000 b)] at k
  have h1 := (cmpI_neg_iff (V8 (tF a)) (V8 (tF b))).2
  have h2 := (cmpI_neg_iff (stp a) (stp b)).2
  have k : cmpI (V8 (tF a)) (V8 (tF b)) = cmpI (stp a) (stp b) := k
  rw [k] at h1
  constructor
  · intro h
    by_cases h' : stp a ≤ stp b
    · exact h'
    · have := h1.1 (h2.2 (by omega)); omega
  · intro h
    by_cases h' : V8 (tF a) ≤ V8 (tF b)
    · exact h'
    · have := h2.1 (h1.2 (by omega)); omega
theorem un_le_of {K p : Nat} {a b : Int} (hp : p ≤ K) (h : vz K (un a p).1 (un a p).2.1 (un a p).2.2 ≤ vz K (un b p).1 (un b p).2.1 (un b p).2.2) : a ≤ b := by
  rw [vz_un a hp, vz_un b hp] at h
  exact Int.le_of_mul_le_mul_right h (by exact_mod_cast Nat.two_pow_pos (K - p))
theorem sU_le {a b : Nat} (ha : a < 18446744073709551616) (hb : b < 18446744073709551616) (fa : mag a < 9218868437227405312) (fb : mag b < 9218868437227405312) (h : stp a ≤ stp b) : sU a ≤ sU b := by
  have h1 := (V8_cmp ha hb fa fb).2 h
  unfold V8 at h1
  rw [tF_sU a, tF_sU b] at h1
  exact un_le_of (by omega) h1
theorem sU_pos {a : Nat} (h : neg a = false) : sU a = (fU a : Int) := by unfold sU; rw [h]; rfl
def cU (y : Nat) : Nat := if mag y < 9218868437227405312 then fU y else kU
def dU (y : Nat) : Nat := if mag y < 9218868437227405312 then kU else 0
theorem fracOf_un {y : Nat} (hy : y < 18446744073709551616) (hn : neg y = false) (hm : mag y ≤ 9218868437227405312) {W : World} (hT : Tab32 W) (hJ : Ie.Tab W) :
    Calls Tryz.prog 36 #[.float .f64 y] W fun r w' => OutFv W (un (cU y : Int) 1074) (un (dU y : Int) 1074) r w' := by
  have kw : ∀ V, Below W.heap.size W V → Calls Tryz.prog 37 #[.int .i64 1] V fun r w' => OutP V (un (kU : Int) 1074) r w' := fun V hV => by
    have h := whole_pn (n := 1) (hT.later hV) (by omega)
    rw [un_kU, Int.one_mul] at h
    exact h
  unfold cU dU
  by_cases hf : mag y < 9218868437227405312
  · rw [if_pos hf, if_pos hf]
    have ht : tF y = un (fU y : Int) 1074 := tF_un hn (Ie.lp_bound y).1
    exact fracOf_fin y _ _ W (fun V hV => by
      have h := ofN y hy hf V (hT.later hV) (Tab.later hJ hV)
      rw [ht] at h
      exact h) kw
  · rw [if_neg hf, if_neg hf]
    have h0 : un ((0 : Nat) : Int) 1074 = nilN := un_0 1074
    rw [h0]
    exact fracOf_inf y 5 (by omega) _ W (fun V hV => of_inf y hy V (Tab.later hJ hV) (by omega)) kw
theorem simp_un {x y P Q : Nat} (hx : x < 18446744073709551616) (hy : y < 18446744073709551616) (nx : neg x = false) (fx : mag x < 9218868437227405312) (ny : neg y = false) (my : mag y ≤ 9218868437227405312) (hle : fU x * dU y ≤ cU y * kU) (hS : Smp (fU x) kU (cU y) (dU y) P Q) {W : World} (hT : Tab32 W) (hJ : Ie.Tab W) :
    Calls Tryz.prog 13 #[.agg #[.float .f64 x, .float .f64 y]] W fun r w' => OutFv W (un (P : Int) 0) (un (Q : Int) 0) r w' := by
  have hc : cU y < 2 ^ bU := by unfold cU; split; exact fU_lt y; exact kU_lt
  have hd : dU y < 2 ^ bU := by unfold dU; split; exact kU_lt; exact Nat.two_pow_pos _
  have hX : 2 ^ bU - 1 < 2 ^ bU := by have := Nat.two_pow_pos bU; omega
  have e1 : cU x = fU x := by unfold cU; rw [if_pos fx]
  have e2 : dU x = kU := by unfold dU; rw [if_pos fx]
  have f1 := fU_lt x
  have f2 := kU_lt
  refine simp_1 x y (fU x) kU (cU y) (dU y) (2 ^ bU - 1) P Q bU W hT hX (by unfold bU; omega) (SI.start kU_pos hle (by omega) (by omega) (by omega) (by omega) hS) (fun V hV => ?_) (fun V hV => fracOf_un hy ny my (hT.later hV) (Tab.later hJ hV)) (fun V hV => whole_pn (n := 1) (hT.later hV) (by omega))
  have h := fracOf_un hx nx (Nat.le_of_lt fx) (hT.later hV) (Tab.later hJ hV)
  rw [e1, e2] at h
  exact h
structure SV (a b : Nat) (P : Int) (Q : Nat) : Prop where
  q0 : 0 < Q
  qk : Q ≤ kU
  pk : P.natAbs < 2 ^ bU
  lo : mag a < 9218868437227405312 → sU a * Q ≤ P * kU
  hi : mag b < 9218868437227405312 → P * kU ≤ sU b * Q
  mn : ∀ n : Nat, 1 ≤ n → n < Q → mag a < 9218868437227405312 ∧ mag b < 9218868437227405312 ∧ ∀ m : Int, sU a * n ≤ m * kU → ¬ m * kU ≤ sU b * n
theorem smp_end {a b c p q : Nat} (h : Smp a b c 0 p q) : q = 1 := by
  cases h with
  | whole _ _ => rfl
  | above _ _ _ => rfl
  | more _ _ h1 _ => rw [Nat.mul_zero] at h1; omega
theorem smp_sv {x y P Q : Nat} (hle : fU x * dU y ≤ cU y * kU) (hS : Smp (fU x) kU (cU y) (dU y) P Q) : 0 < Q ∧ Q ≤ kU ∧ P < 2 ^ bU ∧ ((fU x : Int) * Q ≤ (P : Int) * kU) ∧ (mag y < 9218868437227405312 → (P : Int) * kU ≤ (fU y : Int) * Q) ∧ ∀ n : Nat, 1 ≤ n → n < Q → mag y < 9218868437227405312 ∧ ∀ m : Int, (fU x : Int) * n ≤ m * kU → ¬ m * kU ≤ (fU y : Int) * n := by
  have h1 := smp_pos hS hle
  have h2 := smp_le hS hle
  obtain ⟨⟨h3, h4⟩, h5⟩ := smp_in hS hle
  have cd : mag y < 9218868437227405312 → cU y = fU y ∧ dU y = kU := fun hf => by unfold cU dU; rw [if_pos hf, if_pos hf]; exact ⟨rfl, rfl⟩
  refine ⟨h1.1, h2.1.2, Nat.lt_of_le_of_lt h2.1.1 (fU_lt x), by exact_mod_cast h3, fun hf => ?_, fun n hn hq => ?_⟩
  · rw [(cd hf).1, (cd hf).2] at h4
    exact_mod_cast h4
  · by_cases hf : mag y < 9218868437227405312
    · refine ⟨hf, fun m g1 g2 => ?_⟩
      rw [(cd hf).1, (cd hf).2] at h5
      have hm : 0 ≤ m := by
        have : (0 : Int) ≤ m * kU := Int.le_trans (Int.mul_nonneg (Int.natCast_nonneg _) (Int.natCast_nonneg _)) g1
        exact Int.nonneg_of_mul_nonneg_left this (by exact_mod_cast kU_pos)
      obtain ⟨m', rfl⟩ := Int.eq_ofNat_of_zero_le hm
      have := (h5 m' n hn (by exact_mod_cast g1) (by exact_mod_cast g2)).2
      omega
    · have : dU y = 0 := by unfold dU; rw [if_neg hf]
      rw [this] at hS
      have := smp_end hS
      omega
theorem pneg_un {Z : Int} {b : Nat} (h : Z.natAbs < 2 ^ b) (hb : b ≤ 60000) {W : World} {X : Value} (hX : PN W X (un Z 0)) : Calls Tryz.prog 15 #[X] W fun r w' => OutP W (un (-Z) 0) r w' := by
  obtain ⟨ao, cap, rfl, hI⟩ := hX
  have ok := ok_un (p := 0) h hb (by omega)
  have f := ok.facts
  refine (negw_ok hI (by omega) ok).mono ?_
  rintro r w' ⟨v, rfl, hO, hB⟩
  have e := gN_un (a := Z) (p := 0)
  obtain ⟨ao', cap', rfl, o1, o2, o3⟩ := hO.is
  have hI' : Is w' (.slice ao' (dlen (un Z 0).2.1) cap') (un Z 0).2.1 := ⟨ao', cap', rfl, o1, o2, o3⟩
  refine ⟨_, _, _, _, _, rfl, ⟨ao', cap', ?_, ?_⟩, hB⟩
  · rw [← e]
    unfold gN
    by_cases h0 : (un Z 0).2.1 = 0
    · have := f.2.2.2.1 h0
      rw [if_pos h0, this, show dlen (false, 0, (0 : Int)).2.1 = 0 from dlen_zero]
      rfl
    · rw [if_neg h0]
      have : 0 < dlen (un Z 0).2.1 := by have := dlen_pos h0; omega
      rw [decide_eq_true this, Bool.and_true]
  · rw [← e]
    unfold gN
    by_cases h0 : (un Z 0).2.1 = 0
    · rw [if_pos h0]; rw [h0] at hI'; exact hI'
    · rw [if_neg h0]; exact hI'
theorem fU_ngt {a : Nat} (h : a < 18446744073709551616) : fU (ngt a) = fU a := by unfold fU Ie.mant Ie.lp; rw [ngt_mag h]
theorem le_0l {a : Nat} (na : isNaN a = false) : le 0 a = decide (0 ≤ stp a) := by unfold le; rw [na, show isNaN 0 = false by decide, show stp 0 = 0 by decide]; simp
theorem le_0r {b : Nat} (nb : isNaN b = false) : le b 0 = decide (stp b ≤ 0) := by unfold le; rw [nb, show isNaN 0 = false by decide, show stp 0 = 0 by decide]; simp
theorem lt_0r {b : Nat} (nb : isNaN b = false) : lt b 0 = decide (stp b < 0) := by unfold lt; rw [nb, show isNaN 0 = false by decide, show stp 0 = 0 by decide]; simp
theorem vI_all {a b : Nat} (h : vI a b = true) : isNaN a = false ∧ isNaN b = false ∧ stp a ≤ stp b ∧ stp a < 9218868437227405312 ∧ -9218868437227405312 < stp b ∧ a ≠ 9223372036854775808 ∧ b ≠ 9223372036854775808 := by
  unfold vI le lt at h
  rw [show stp 9218868437227405312 = 9218868437227405312 by decide, show stp 18442240474082181120 = -9218868437227405312 by decide] at h
  simp only [Bool.and_eq_true, Bool.not_eq_true', decide_eq_true_eq] at h
  obtain ⟨⟨⟨⟨⟨⟨h1, h2⟩, h3⟩, h4⟩, h5⟩, h6⟩, h7⟩ := h
  exact ⟨h1, h2, h3, h4.2, h5.2, h6, h7⟩
theorem flp {a : Nat} (ha : a < 18446744073709551616) (h0 : 0 ≤ stp a) (h1 : a ≠ 9223372036854775808) : neg a = false ∧ (mag a : Int) = stp a := by
  unfold stp sgn neg mag at *
  by_cases h : 9223372036854775808 ≤ a
  · simp only [h, decide_true, if_true] at h0 ⊢; omega
  · simp only [h, decide_false, if_false, Bool.false_eq_true] at h0 ⊢; simp
theorem flq {a : Nat} (h0 : stp a < 0) : neg a = true ∧ (mag a : Int) = -stp a := by
  unfold stp sgn at *
  cases h : neg a
  · rw [h] at h0; simp at h0; omega
  · rw [h] at h0; simp
theorem nn_mag {a : Nat} (h : isNaN a = false) : mag a ≤ 9218868437227405312 := by unfold isNaN at h; have := of_decide_eq_false h; omega
theorem smp_of {x y : Nat} (hx : x < 18446744073709551616) (hy : y < 18446744073709551616) (nx : neg x = false) (fx : mag x < 9218868437227405312) (ny : neg y = false) (h : stp x ≤ stp y) : ∃ P Q, fU x * dU y ≤ cU y * kU ∧ Smp (fU x) kU (cU y) (dU y) P Q := by
  have hle : fU x * dU y ≤ cU y * kU := by
    unfold cU dU
    by_cases hf : mag y < 9218868437227405312
    · rw [if_pos hf, if_pos hf]
      have := sU_le hx hy fx hf h
      rw [sU_pos nx, sU_pos ny] at this
      exact Nat.mul_le_mul_right _ (by exact_mod_cast this)
    · rw [if_neg hf, if_neg hf, Nat.mul_zero]
      exact Nat.zero_le _
  obtain ⟨P, Q, h⟩ := smp_ex (kU + dU y) _ _ _ _ (Nat.le_refl _) kU_pos hle
  exact ⟨P, Q, hle, h⟩
theorem pl_id {x : Nat} (h : stp x ≠ 0) : pl x = x := by
  unfold pl
  rw [if_neg]
  intro e
  rw [e] at h
  exact h (by decide)
theorem fU_0 : fU 0 = 0 := by unfold fU; rw [show Ie.mant 0 = 0 by decide, Nat.zero_mul]
theorem psimple_no {a b : Nat} (ha : a < 18446744073709551616) (hb : b < 18446744073709551616) (hv : vI a b = false) (w : World) : Calls Tryz.prog 4 #[.agg #[.float .f64 a, .float .f64 b]] w fun r w' => Out2N w nilN nilN 1 r w' :=
  psimp_no a b w (fun W _ => by
    have := svalid a b ha hb W
    rw [hv] at this
    exact this)
theorem PN.dn {w : World} {X : Value} {t : Bool × Nat × Int} (h : PN w X t) (h0 : t.2.1 ≠ 0) (hs : dlen t.2.1 ≤ 35184372088832) : DN w X t := by
  obtain ⟨ao, cap, rfl, b, c, e, l, -, i⟩ := h
  obtain ⟨rfl, -, rfl⟩ := Value.slice.inj e
  exact ⟨_, _, rfl, fun h => absurd (dlen_eq_zero.1 h) h0, i, l, hs⟩
def isD (T : Bool × Nat × Int) : World → Value → Prop := fun w u => DN w u T
theorem isD_stays (T : Bool × Nat × Int) : Stays (isD T) := fun _ _ _ hb h => DN.later h hb
theorem rowsF (T : TypeId) : ∀ L : List (World → Value → Prop), RowsAll T (fun _ => False) L
  | [] => trivial
  | _ :: r => ⟨fun _ _ _ _ _ _ h => h.elim, rowsF T r⟩
theorem r_region {ops : Array Oper} {Q : Exit → Act → World → Prop} {id : Nat} (PVL SL : List Nat) (D : List (List Nat))
    (W0 : World) (a0 : Act) (L : List (World → Value → Prop)) (hchk : qchk ops PVL [] SL D [] [] = true)
    (hV1 : StaysAll L) (hsl : ∀ s ∈ SL, s < a0.tmps.size)
    (hA : ∀ j, j < PVL.length → ∀ o, ops[PVL.getD j 0]? = some o → ∀ (a : Act) (w : World), Below W0.heap.size W0 w → (∀ s : Nat, SL.contains s = false → a.tmps[s]? = a0.tmps[s]?) →
      (∀ j' ∈ dL D j, ∃ u, a.tmps[SL.getD j' 0]? = some u ∧ vL L j' w u) →
      (o.guard = none ∧ o.wp Tryz.prog a w (fun a' w' => ∃ u, a' = a.put o.dst u ∧ vL L j w' u ∧ Below w.heap.size w w') Q) ∨ wpOp Tryz.prog ops Q (PVL.getD j 0) (fun a' w' => ∃ u, a' = a.put o.dst u ∧ vL L j w' u ∧ Below w.heap.size w w') a w)
    (hQ : ∀ (u : Nat → Value) (w : World), Below W0.heap.size W0 w → (∀ j, j < PVL.length → vL L j w (u j)) → Q .normal (putL a0 ((List.range PVL.length).map (fun j => (SL.getD j 0, u j)))) w) :
    (Code.region id ops true).wp Tryz.prog Q a0 W0 :=
  q_region follows_mixed PVL [] SL D [] [] (fun _ => 0) (fun _ => 0) W0.heap.size 28 (fun _ => False) 3 W0 a0 L hchk hV1 (rowsF _ L) hsl
    (fun k hk => absurd hk (Nat.not_lt_zero _)) (fun j hj o ho a w hk ho1 hd _ => hA j hj o ho a w hk.below ho1 hd) Tryz.info28
    (fun k hk => absurd hk (Nat.not_lt_zero _)) (fun k hk => absurd hk (Nat.not_lt_zero _)) (fun k hk => absurd hk (Nat.not_lt_zero _)) (fun k k' hk => absurd hk (Nat.not_lt_zero _)) (Nat.le_refl _)
    (fun u w hk hu _ => hQ u w hk.below hu)
theorem run_ldD (g o : Nat) (s : Bool) (ao : Option Addr) (n cp : Nat) (e : Int) (w : World) (h0 : w.cell? ⟨g, o, none⟩ = some (.bool s)) (h1 : w.cell? ⟨g, o + 1, none⟩ = some (.slice ao n cp)) (h2 : w.cell? ⟨g, o + 2, none⟩ = some (.int .i64 e)) : (Instr.loadAt 27 (.pointer (some ⟨g, o, none⟩))).run Tryz.prog w = .ok (.agg #[.bool s, .slice ao n cp, .int .i64 e]) w :=
  run_loadAt_mid w g o 27 [.bool s, .slice ao n cp, .int .i64 e] _ (fun j v hv => by
    match j with
    | 0 => simp at hv; subst hv; exact h0
    | 1 => simp at hv; subst hv; exact h1
    | 2 => simp at hv; subst hv; exact h2
    | k + 3 => simp at hv) Tryz.underlying27 rfl Tryz.info27
theorem dfloatU {a : Nat} (ha : a < 18446744073709551616) (w : World) : Calls Tryz.prog 48 #[.float .f64 a] w fun r w' => ∃ A, r = .returned A ∧ DN w' A (un (sU a) 1074) ∧ Below w.heap.size w w' := by
  have h := float_dn a ha w
  rw [tF_sU] at h
  exact h
theorem dwholeU {n : Int} (hn : 0 ≤ n ∧ n ≤ 9223372036854775807) (w : World) : Calls Tryz.prog 17 #[.int .i64 n] w fun r w' => ∃ A, r = .returned A ∧ DN w' A (un n 0) ∧ Below w.heap.size w w' := by
  have h := gwhole (n := n) (w := w) (by omega)
  rw [un_whole] at h
  exact h
theorem dorderU {x y : Int} {k l p : Nat} {X Y : Value} {w : World} (hx : x.natAbs < 2 ^ k) (hy : y.natAbs < 2 ^ l) (hk : k ≤ 90000) (hl : l ≤ 90000) (hp : p ≤ 90000) (h1 : DN w X (un x p)) (h2 : DN w Y (un y p)) : Calls Tryz.prog 53 #[X, Y] w fun r w' => r = .returned (.int .i64 (cmpI x y)) ∧ Below w.heap.size w w' := by
  have h := gorder (un_gn hx hk hp) (un_gn hy hl hp) h1 h2
  rw [ord_un] at h
  exact h
structure CX (W : World) (a b : Nat) (P : Int) (Qd : Nat) (g0 g6 g7 : Nat) (s1 : Bool) (ao1 : Option Addr) (n1 cp1 : Nat) (e1 : Int) (s2 : Bool) (ao2 : Option Addr) (n2 cp2 : Nat) (e2 : Int) : Prop where
  ha : a < 18446744073709551616
  hb : b < 18446744073709551616
  m0 : W.heap[g0]? = some (.cells #[.float .f64 a, .float .f64 b] 24 (0, 0))
  m6 : W.heap[g6]? = some (.cells #[.bool s1, .slice ao1 n1 cp1, .int .i64 e1] 27 (0, 0))
  m7 : W.heap[g7]? = some (.cells #[.bool s2, .slice ao2 n2 cp2, .int .i64 e2] 27 (0, 0))
  pP : PN W (.agg #[.bool s1, .slice ao1 n1 cp1, .int .i64 e1]) (un P 0)
  pQ : DN W (.agg #[.bool s2, .slice ao2 n2 cp2, .int .i64 e2]) (un (Qd : Int) 0)
  sv : SV a b P Qd
  tb : Tab32 W ∧ Ie.Tab W
theorem CX.later {W V : World} {a b : Nat} {P : Int} {Qd g0 g6 g7 : Nat} {s1 : Bool} {ao1 : Option Addr} {n1 cp1 : Nat} {e1 : Int} {s2 : Bool} {ao2 : Option Addr} {n2 cp2 : Nat} {e2 : Int} (h : CX W a b P Qd g0 g6 g7 s1 ao1 n1 cp1 e1 s2 ao2 n2 cp2 e2) (hb : Below W.heap.size W V) : CX V a b P Qd g0 g6 g7 s1 ao1 n1 cp1 e1 s2 ao2 n2 cp2 e2 :=
  ⟨h.ha, h.hb, box_later h.m0 hb (lt_of_box h.m0), box_later h.m6 hb (lt_of_box h.m6), box_later h.m7 hb (lt_of_box h.m7), PN.later h.pP hb, DN.later h.pQ hb, h.sv, h.tb.1.later hb, Tab.later h.tb.2 hb⟩
theorem cmpI_gt0 {x y : Int} : decide (0 < cmpI x y) = decide (y < x) := by
  rcases cmpI_cases x y with h | h | h <;> rw [h.2] <;> simp <;> omega
theorem cmpI_le0 {x y : Int} : decide (cmpI x y ≤ 0) = decide (x ≤ y) := by
  rcases cmpI_cases x y with h | h | h <;> rw [h.2] <;> simp <;> omega
theorem dV {a : Act} {s : Tmp} {L : List (World → Value → Prop)} {j : Nat} {w : World} {x : Value} (h : ∃ u, a.tmps[s]? = some u ∧ vL L j w u) (e : vL L j = isV x) : a.tmps[s]? = some x := by
  obtain ⟨u, h1, h2⟩ := h
  rw [e] at h2
  obtain rfl : u = x := h2
  exact h1
theorem dD {a : Act} {s : Tmp} {L : List (World → Value → Prop)} {j : Nat} {w : World} {t : Bool × Nat × Int} (h : ∃ u, a.tmps[s]? = some u ∧ vL L j w u) (e : vL L j = isD t) : ∃ u, a.tmps[s]? = some u ∧ DN w u t := by
  obtain ⟨u, h1, h2⟩ := h
  rw [e] at h2
  exact ⟨u, h1, h2⟩
theorem owp_leqI {Q : Exit → Act → World → Prop} {o : Oper} {K : Act → World → Prop} {a : Act} {w : World} {s : Tmp} {x c : Int} (hop : o.op = .binOp .leq 3 (.tmp s) (.const (.int .i64 c)) 3) (hs : a.tmps[s]? = some (.int .i64 x)) (h : K (a.put o.dst (.bool (decide (x ≤ c)))) w) : o.wp Tryz.prog a w K Q :=
  owp_run1 (w' := w) (by simp [execOp, hop, Act.eval, hs, go_sem]) h
theorem owp_ldD {Q : Exit → Act → World → Prop} {o : Oper} {K : Act → World → Prop} {a : Act} {w : World} {s : Tmp} {g : Nat} {s' : Bool} {ao : Option Addr} {n cp : Nat} {e : Int} (hop : o.op = .load 27 (.tmp s)) (hs : a.tmps[s]? = some (.pointer (some ⟨g, 0, none⟩))) (h0 : w.cell? ⟨g, 0, none⟩ = some (.bool s')) (h1 : w.cell? ⟨g, 1, none⟩ = some (.slice ao n cp)) (h2 : w.cell? ⟨g, 2, none⟩ = some (.int .i64 e)) (h : K (a.put o.dst (.agg #[.bool s', .slice ao n cp, .int .i64 e])) w) : o.wp Tryz.prog a w K Q :=
  owp_run1 (w' := w) (by simp [execOp, hop, eval_get hs, run_ldD g 0 s' ao n cp e w h0 h1 h2]) h
theorem map2 {a : Act} {s t : Tmp} {v u : Value} (h : a.tmps[s]? = some v) (h' : a.tmps[t]? = some u) : #[Operand.tmp s, Operand.tmp t].map a.eval = #[v, u] := by simp [eval_get h, eval_get h']
theorem CX.facts {W : World} {a b : Nat} {P : Int} {Qd g0 g6 g7 : Nat} {s1 : Bool} {ao1 : Option Addr} {n1 cp1 : Nat} {e1 : Int} {s2 : Bool} {ao2 : Option Addr} {n2 cp2 : Nat} {e2 : Int} (h : CX W a b P Qd g0 g6 g7 s1 ao1 n1 cp1 e1 s2 ao2 n2 cp2 e2) : s2 = false ∧ n2 ≠ 0 ∧ n2 ≤ 35184372088832 ∧ 0 ≤ e1 ∧ 0 ≤ e2 := by
  obtain ⟨ao, cap, e, -⟩ := h.pP
  obtain ⟨ao', cap', e', i⟩ := h.pQ
  have u1 := (un_e (p := 0) (Nat.lt_two_pow_self (n := P.natAbs))).1
  have u2 := (un_e (p := 0) (Nat.lt_two_pow_self (n := (Qd : Int).natAbs))).1
  have hq0 : (un (Qd : Int) 0).2.1 ≠ 0 := fun h1 => by have := un_sign.2.1 h1; have := h.sv.q0; omega
  have hs : (un (Qd : Int) 0).1 = false := by
    unfold un cn
    rw [decide_eq_false (by omega)]
    split <;> rfl
  have hd := i.small
  simp only [Value.agg.injEq, Array.mk.injEq, List.cons.injEq, Value.bool.injEq, Value.slice.injEq, Value.int.injEq, true_and, and_true] at e e'
  refine ⟨e'.1.trans hs, ?_, ?_, ?_, ?_⟩
  · rw [e'.2.1.2.1]; have := dlen_pos hq0; omega
  · rw [e'.2.1.2.1]; exact hd
  · rw [e.2.2]; omega
  · rw [e'.2.2]; omega
theorem DN.keepN {W0 V : World} {n : Nat} {gs : Nat → Nat} {B : Nat} {A : Value} {t : Bool × Nat × Int} {T : TypeId} (hK : KeepB n gs B W0 V) (hbox : ∀ k, k < n → ∃ cs, W0.heap[gs k]? = some (.cells cs T (0, 0)) ∧ NC3 cs) (h : DN W0 A t) : DN V A t := by
  obtain ⟨ao, cap, rfl, h1⟩ := h
  obtain ⟨bb, o, h4, h5⟩ := h1.at_
  refine ⟨ao, cap, rfl, h1.nil, ⟨bb, o, h4, fun i hi => ?_⟩, h1.le, h1.small⟩
  have hc := h5 i hi
  have hlt : bb < W0.heap.size := World.block_lt_of_cell? _ _ hc
  have hne : ∀ k, k < n → bb ≠ gs k := by
    rintro k hk rfl
    obtain ⟨cs, hE, _, _, _, _, _, rfl⟩ := hbox k hk
    simp only [World.cell?, hE] at hc
    rcases (show o + i = 0 ∨ o + i = 1 ∨ o + i = 2 ∨ 3 ≤ o + i by omega) with e | e | e | e
    · rw [e] at hc; simp at hc
    · rw [e] at hc; simp at hc
    · rw [e] at hc; simp at hc
    · rw [Array.getElem?_eq_none (by simpa using e)] at hc; cases hc
  have := hK.keep bb hlt hne
  unfold World.cell? at hc ⊢
  rw [this]
  exact hc
theorem DN.row3 {W : World} {A : Value} {t : Bool × Nat × Int} {g : Nat} {T : TypeId} {cs : Array Value} (h : DN W A t) (hE : W.heap[g]? = some (.cells cs T (0, 0))) (hC : NC3 cs) (cs' : Array Value) : DN (W.setRow g cs') A t := by
  obtain ⟨ao, cap, rfl, h1⟩ := h
  obtain ⟨bb, o, h4, h5⟩ := h1.at_
  obtain ⟨_, _, _, _, _, rfl⟩ := hC
  refine ⟨ao, cap, rfl, h1.nil, ⟨bb, o, h4, fun i hi => ?_⟩, h1.le, h1.small⟩
  have hc := h5 i hi
  have hne : bb ≠ g := by
    rintro rfl
    simp only [World.cell?, hE] at hc
    rcases (show o + i = 0 ∨ o + i = 1 ∨ o + i = 2 ∨ 3 ≤ o + i by omega) with e | e | e | e
    · rw [e] at hc; simp at hc
    · rw [e] at hc; simp at hc
    · rw [e] at hc; simp at hc
    · rw [Array.getElem?_eq_none (by simpa using e)] at hc; cases hc
  have hs := setRow_other W g bb cs' hne
  unfold World.cell? at hc ⊢
  rw [hs]
  exact hc
theorem DN.cells3 {W : World} {A : Value} {t : Bool × Nat × Int} (h : DN W A t) : ∃ cs : Array Value, A = .agg cs ∧ cs.size = 3 ∧ NC3 cs ∧ cs.all (·.oneCell') = true := by
  obtain ⟨s, ao, n, cap, e, rfl⟩ := h.shape
  exact ⟨_, rfl, rfl, ⟨_, _, _, _, _, rfl⟩, one3 rfl rfl⟩
theorem results_c2 {P : Program} {fn : Func} {p q : Tmp} {ty : TypeId} (h : fn.results = #[.cell p ty, .cell q ty]) (tmps : Array Value) (w : World) (g k : Nat) (t : TypeId) (cs ds : Array Value) (fr fs : Nat × Nat) (d : TypeDesc)
    (hp : tmps.getD p undef = .pointer (some ⟨g, 0, none⟩)) (hq : tmps.getD q undef = .pointer (some ⟨k, 0, none⟩)) (hg : w.heap[g]? = some (.cells cs t fr)) (hk : w.heap[k]? = some (.cells ds t fs))
    (hu : P.underlying ty = some d) (hd : (match d with | .struct _ | .array _ _ => true | _ => false) = true) (hi : (P.info? ty).map (·.size) = some cs.size) (hj : (P.info? ty).map (·.size) = some ds.size) :
    (results fn tmps).run P w = .ok (.tuple #[.agg cs, .agg ds]) w := by
  have hp' : tmps[p]?.getD undef = .pointer (some ⟨g, 0, none⟩) := by simpa using hp
  have hq' : tmps[q]?.getD undef = .pointer (some ⟨k, 0, none⟩) := by simpa using hq
  simp [results, h, hp', hq', asAddr, run_loadVar_row w g t ty cs fr d hg hu hd hi, run_loadVar_row w k t ty ds fs d hk hu hd hj, Result.andThen]
def Out2D (W : World) (t1 t2 : Bool × Nat × Int) (r : Ending) (w' : World) : Prop := ∃ (s1 : Bool) (ao1 : Option Addr) (n1 cp1 : Nat) (e1 : Int) (s2 : Bool) (ao2 : Option Addr) (n2 cp2 : Nat) (e2 : Int), r = .returned (.tuple #[.agg #[.bool s1, .slice ao1 n1 cp1, .int .i64 e1], .agg #[.bool s2, .slice ao2 n2 cp2, .int .i64 e2]]) ∧ DN w' (.agg #[.bool s1, .slice ao1 n1 cp1, .int .i64 e1]) t1 ∧ DN w' (.agg #[.bool s2, .slice ao2 n2 cp2, .int .i64 e2]) t2 ∧ Below W.heap.size W w'
theorem lt6S {j : Nat} (h : j < 6) : j = 0 ∨ j = 1 ∨ j = 2 ∨ j = 3 ∨ j = 4 ∨ j = 5 := by omega
theorem isD_rows3 (t : Bool × Nat × Int) : ∀ w u g cs cs', w.heap[g]? = some (.cells cs 27 (0, 0)) → NC3 cs → isD t w u → isD t (w.setRow g cs') u := fun w u g cs cs' h hC h2 => DN.row3 h2 h hC _
set_option maxRecDepth 200000 in
theorem dfloor8 (a b k : Nat) (s1 : Bool) (ao1 : Option Addr) (n1 cp1 : Nat) (e1 : Int) (s2 : Bool) (ao2 : Option Addr) (n2 cp2 : Nat) (e2 : Int) (w : World) (hb : 0 < b) (hk : k ≤ 20000) (ha : a < 2 ^ k) (hbk : b < 2 ^ k) (d1 : DN w (.agg #[.bool s1, .slice ao1 n1 cp1, .int .i64 e1]) (un (a : Int) 0)) (d2 : DN w (.agg #[.bool s2, .slice ao2 n2 cp2, .int .i64 e2]) (un (b : Int) 0)) :
    Calls Tryz.prog 50 #[.agg #[.bool s1, .slice ao1 n1 cp1, .int .i64 e1], .agg #[.bool s2, .slice ao2 n2 cp2, .int .i64 e2]] w fun r w' => Out2D w (un ((a / b : Nat) : Int) 0) (un ((a % b : Nat) : Int) 0) r w' := by
  obtain ⟨W, hW⟩ : ∃ W, W = (((w.alloc (.cells #[.bool s1, .slice ao1 n1 cp1, .int .i64 e1] 27)).alloc (.cells #[.bool s2, .slice ao2 n2 cp2, .int .i64 e2] 27)).alloc (.cells #[.bool false, .slice none 0 0, .int .i64 0] 27)).alloc (.cells #[.bool false, .slice none 0 0, .int .i64 0] 27) := ⟨_, rfl⟩
  obtain ⟨m1, m2, m3, m4, hBW⟩ := four_new _ _ _ _ hW
  have HF : Hid (W.heap[w.heap.size]? = some (.cells #[.bool s1, .slice ao1 n1 cp1, .int .i64 e1] 27 (0, 0)) ∧ W.heap[w.heap.size + 1]? = some (.cells #[.bool s2, .slice ao2 n2 cp2, .int .i64 e2] 27 (0, 0)) ∧ W.heap[w.heap.size + 1 + 1]? = some (.cells #[.bool false, .slice none 0 0, .int .i64 0] 27 (0, 0)) ∧ W.heap[w.heap.size + 1 + 1 + 1]? = some (.cells #[.bool false, .slice none 0 0, .int .i64 0] 27 (0, 0)) ∧ Below w.heap.size w W ∧ DN W (.agg #[.bool s1, .slice ao1 n1 cp1, .int .i64 e1]) (un (a : Int) 0) ∧ DN W (.agg #[.bool s2, .slice ao2 n2 cp2, .int .i64 e2]) (un (b : Int) 0)) := ⟨m1, m2, m3, m4, hBW, d1.later hBW, d2.later hBW⟩
  obtain ⟨x0, x1, x2⟩ := (cells3N m1).1
  obtain ⟨y0, y1, y2⟩ := (cells3N m2).1
  have aA : ((a : Int)).natAbs < 2 ^ k := by rw [Int.natAbs_natCast]; exact ha
  have bA : ((b : Int)).natAbs < 2 ^ k := by rw [Int.natAbs_natCast]; exact hbk
  have kk := gover1 (p := 0) hb aA hbk (by omega) (by omega) (Nat.zero_le _) HF.out.2.2.2.2.2.1 HF.out.2.2.2.2.2.2
  rw [show ((0 : Nat) : Int) = 0 from rfl] at kk
  clear m1 m2 m3 m4 hBW d1 d2
  go_enter Tryz.func50, Tryz.ntmps50
  go_upto_region 1 with fail
  rw [← hW]
  clear hW
  go_wp2_with fail
  refine kk.mono ?_
  rintro r w1 ⟨A, ex, rfl, hA, hb1⟩
  obtain ⟨s3, ao3, n3, cp3, e3, rfl⟩ := hA.shape
  clear kk x0 x1 x2 y0 y1 y2
  obtain ⟨V, hV⟩ : ∃ V, V = w1.alloc (.cells #[.bool s3, .slice ao3 n3 cp3, .int .i64 e3] 27) := ⟨_, rfl⟩
  go_upto_region 2 with fail
  rw [← hV]
  have hbV : Below w1.heap.size w1 V := by rw [hV]; exact (Below.refl _ _).alloc (Nat.le_refl _) _
  have n6 : V.heap[w1.heap.size]? = some (.cells #[.bool s3, .slice ao3 n3 cp3, .int .i64 e3] 27 (0, 0)) := by rw [hV]; exact heap_alloc_new _ _
  obtain ⟨m1, m2, m3, m4, hBW, q1, q2⟩ := HF.out
  have hWV : Below W.heap.size W V := hb1.trans (hbV.mono hb1.size)
  have l1 := lt_of_box m4
  have l2 := hb1.size
  have M1 := box_later m1 hWV (lt_of_box m1)
  have M2 := box_later m2 hWV (lt_of_box m2)
  have M3 := box_later m3 hWV (lt_of_box m3)
  have M4 := box_later m4 hWV (lt_of_box m4)
  have Q1 := q1.later hWV
  have Q2 := q2.later hWV
  have Q3 := hA.later hbV
  have hBV : Below w.heap.size w V := hBW.trans (hWV.mono hBW.size)
  clear hV m1 m2 m3 m4 q1 q2 hA hb1 hWV hBW hbV
  generalize hg6 : w1.heap.size = g6 at *
  have hg : w.heap.size + 1 + 1 + 1 < g6 := by omega
  have hbx2 : ∀ i, i < 2 → ∃ cs, V.heap[two (w.heap.size + 1 + 1) (w.heap.size + 1 + 1 + 1) i]? = some (.cells cs 27 (0, 0)) ∧ NC3 cs := fun i hi => by
    rcases lt2F hi with rfl | rfl
    · exact ⟨_, M3, _, _, _, _, _, rfl⟩
    · exact ⟨_, M4, _, _, _, _, _, rfl⟩
  have ne : ∀ g, (g < w.heap.size + 1 + 1 ∨ w.heap.size + 1 + 1 + 1 < g) → ∀ i, i < 2 → g ≠ two (w.heap.size + 1 + 1) (w.heap.size + 1 + 1 + 1) i := fun g h i hi => by
    rcases lt2F hi with rfl | rfl
    · show g ≠ w.heap.size + 1 + 1; omega
    · show g ≠ w.heap.size + 1 + 1 + 1; omega
  have nA : (((a / b : Nat) : Int)).natAbs < 2 ^ k := by rw [Int.natAbs_natCast]; exact Nat.lt_of_le_of_lt (Nat.div_le_self _ _) ha
  have Q3' : DN V (.agg #[.bool s3, .slice ao3 n3 cp3, .int .i64 e3]) (un ((a / b : Nat) : Int) 0) := by exact_mod_cast Q3
  refine q_region follows_mixed [0, 1, 2, 3, 4, 5] [6, 7] [14, 15, 16, 17, 18, 19] [[], [], [], [], [2, 3], [1, 4]] [[0], [5]] [0, 5] (two 4 5) (two (w.heap.size + 1 + 1) (w.heap.size + 1 + 1 + 1)) w.heap.size 27 NC3 3 V _ [isV (.agg #[.bool s3, .slice ao3 n3 cp3, .int .i64 e3]), isV (.agg #[.bool s1, .slice ao1 n1 cp1, .int .i64 e1]), isV (.agg #[.bool s3, .slice ao3 n3 cp3, .int .i64 e3]), isV (.agg #[.bool s2, .slice ao2 n2 cp2, .int .i64 e2]), isD (un (((a / b : Nat) : Int) * (b : Int)) 0), isD (un ((a % b : Nat) : Int) 0)] (by kernel_rfl) ⟨isV_stays _, isV_stays _, isV_stays _, isV_stays _, isD_stays _, isD_stays _, trivial⟩ ⟨isV_rows _ _ _, isV_rows _ _ _, isV_rows _ _ _, isV_rows _ _ _, isD_rows3 _, isD_rows3 _, trivial⟩ (by show ∀ s ∈ [14, 15, 16, 17, 18, 19], s < 20; decide) ?_ ?_ Tryz.info27 ?_ ?_ ?_ (two_inj (by omega)) hBV.size ?_
  · intro i hi U u h
    rcases lt2F hi with rfl | rfl
    · obtain rfl : u = _ := h
      exact ⟨_, rfl, rfl, ⟨_, _, _, _, _, rfl⟩, one3 rfl rfl⟩
    · exact DN.cells3 (show DN U u (un ((a % b : Nat) : Int) 0) from h)
  · intro j hj o ho act U hK hoth hdep hrd
    have t6 : act.tmps[(6 : Nat)]? = some (Value.pointer (some ⟨g6, 0, none⟩)) := (hoth 6 (by decide)).trans rfl
    have t2 : act.tmps[(2 : Nat)]? = some (Value.pointer (some ⟨w.heap.size, 0, none⟩)) := (hoth 2 (by decide)).trans rfl
    have t3 : act.tmps[(3 : Nat)]? = some (Value.pointer (some ⟨w.heap.size + 1, 0, none⟩)) := (hoth 3 (by decide)).trans rfl
    have c6 := (cells3N ((hK.keep g6 (lt_of_box n6) (ne g6 (.inr hg))).trans n6)).1
    have c2 := (cells3N ((hK.keep _ (lt_of_box M1) (ne _ (.inl (by omega)))).trans M1)).1
    have c3 := (cells3N ((hK.keep _ (lt_of_box M2) (ne _ (.inl (by omega)))).trans M2)).1
    rcases lt6S hj with rfl | rfl | rfl | rfl | rfl | rfl
    · obtain rfl := Option.some.inj ho
      exact .inl ⟨rfl, owp_ldD rfl t6 c6.1 c6.2.1 c6.2.2 ⟨_, rfl, rfl, Below.refl _ _⟩⟩
    · obtain rfl := Option.some.inj ho
      exact .inl ⟨rfl, owp_ldD rfl t2 c2.1 c2.2.1 c2.2.2 ⟨_, rfl, rfl, Below.refl _ _⟩⟩
    · obtain rfl := Option.some.inj ho
      exact .inl ⟨rfl, owp_ldD rfl t6 c6.1 c6.2.1 c6.2.2 ⟨_, rfl, rfl, Below.refl _ _⟩⟩
    · obtain rfl := Option.some.inj ho
      exact .inl ⟨rfl, owp_ldD rfl t3 c3.1 c3.2.1 c3.2.2 ⟨_, rfl, rfl, Below.refl _ _⟩⟩
    · obtain rfl := Option.some.inj ho
      have y2 : act.tmps[(16 : Nat)]? = _ := dV (hdep 2 (by simp [dL])) rfl
      have y3 : act.tmps[(17 : Nat)]? = _ := dV (hdep 3 (by simp [dL])) rfl
      refine .inl ⟨rfl, owp_call rfl (enters Tryz.func54 (by kernel_rfl) (by kernel_rfl)) (map2 y2 y3) ?_⟩
      have h := gtimes (un_gn nA (by omega) (by omega)) (un_gn bA (by omega) (by omega)) (DN.keepN hK hbx2 Q3') (DN.keepN hK hbx2 Q2)
      rw [gM_un] at h
      refine h.mono ?_
      rintro r w' ⟨A, rfl, hA, hb'⟩
      exact ⟨_, rfl, _, rfl, hA, hb'⟩
    · obtain rfl := Option.some.inj ho
      have y1 : act.tmps[(15 : Nat)]? = _ := dV (hdep 1 (by simp [dL])) rfl
      obtain ⟨u4, y4, v4⟩ := dD (s := 18) (hdep 4 (by simp [dL])) rfl
      refine .inl ⟨rfl, owp_call rfl (enters Tryz.func55 (by kernel_rfl) (by kernel_rfl)) (map2 y1 y4) ?_⟩
      have h := gless (un_gn (pow_grow k aA) (by omega) (by omega)) (un_gn (abs_mul nA bA) (by omega) (by omega)) (DN.keepN hK hbx2 Q1) v4
      rw [gD_un] at h
      have e : (a : Int) - ((a / b : Nat) : Int) * (b : Int) = ((a % b : Nat) : Int) := by
        have := Nat.div_add_mod a b
        rw [Nat.mul_comm] at this
        have : ((a / b * b + a % b : Nat) : Int) = (a : Int) := by rw [this]
        push_cast at this ⊢
        omega
      rw [e] at h
      refine h.mono ?_
      rintro r w' ⟨A, rfl, hA, hb'⟩
      exact ⟨_, rfl, _, rfl, hA, hb'⟩
  · intro i hi
    rcases lt2F hi with rfl | rfl <;> exact ⟨_, rfl, rfl⟩
  · intro i hi
    rcases lt2F hi with rfl | rfl
    · exact ⟨rfl, by decide⟩
    · exact ⟨rfl, by decide⟩
  · intro i hi
    rcases lt2F hi with rfl | rfl
    · exact ⟨by show w.heap.size ≤ w.heap.size + 1 + 1; omega, _, M3, rfl, _, _, _, _, _, rfl⟩
    · exact ⟨by show w.heap.size ≤ w.heap.size + 1 + 1 + 1; omega, _, M4, rfl, _, _, _, _, _, rfl⟩
  · intro u U hK hu hcs
    obtain ⟨csb, yb, zb⟩ := hcs 1 (by decide)
    obtain ⟨csa, ya, za⟩ := hcs 0 (by decide)
    have u0 : u 0 = .agg #[.bool s3, .slice ao3 n3 cp3, .int .i64 e3] := hu 0 (by decide)
    have ya' : u 0 = .agg csa := ya
    rw [u0] at ya'
    obtain rfl := Value.agg.inj ya'
    have fb : DN U (u 5) (un ((a % b : Nat) : Int) 0) := hu 5 (by decide)
    have yb' : u 5 = .agg csb := yb
    rw [yb'] at fb
    obtain ⟨sb, aob, nb, cpb, eb, hb'⟩ := fb.shape
    obtain rfl := Value.agg.inj hb'
    have HX : Hid (U.heap[w.heap.size + 1 + 1]? = some (.cells #[.bool s3, .slice ao3 n3 cp3, .int .i64 e3] 27 (0, 0)) ∧ U.heap[w.heap.size + 1 + 1 + 1]? = some (.cells #[.bool sb, .slice aob nb cpb, .int .i64 eb] 27 (0, 0)) ∧ DN U (.agg #[.bool s3, .slice ao3 n3 cp3, .int .i64 e3]) (un ((a / b : Nat) : Int) 0) ∧ DN U (.agg #[.bool sb, .slice aob nb cpb, .int .i64 eb]) (un ((a % b : Nat) : Int) 0) ∧ Below w.heap.size w U) := ⟨za, zb, DN.keepN hK hbx2 Q3', fb, hBV.trans hK.below⟩
    clear hu hcs ya yb za zb ya' yb' fb hb' hK M1 M2 M3 M4 Q1 Q2 Q3 Q3' hBV hbx2 ne n6
    simp only [putL, List.length_cons, List.length_nil, Nat.reduceAdd, show List.range 6 = [0, 1, 2, 3, 4, 5] from rfl, List.getD_cons_zero, List.getD_cons_succ, List.map_cons, List.map_nil, List.cons_append, List.nil_append, List.foldl_cons, List.foldl_nil, Nat.reduceLT, Nat.reduceMod, Nat.reduceDiv, Nat.reduceMul, Nat.reduceEqDiff, reduceIte, Nat.one_ne_zero, Act.put, List.setIfInBounds_toArray, List.set_cons_zero, List.set_cons_succ]
    go_wp2_with fail
    refine bodyPost_ret (results_c2 rfl _ _ (w.heap.size + 1 + 1) (w.heap.size + 1 + 1 + 1) 27 #[.bool s3, .slice ao3 n3 cp3, .int .i64 e3] #[.bool sb, .slice aob nb cpb, .int .i64 eb] (0, 0) (0, 0) _ rfl rfl HX.out.1 HX.out.2.1 Tryz.underlying27 rfl Tryz.info27 Tryz.info27) rfl ?_
    exact ⟨_, _, _, _, _, _, _, _, _, _, rfl, HX.out.2.2.1, HX.out.2.2.2.1, HX.out.2.2.2.2⟩
end Go.Proofs.YtcdkkpjilgmncaaGreatDoor
