/- Own work: contracts of the program's functions, part 23: FS4 FS5. -/
import Derived.Test.YtcdkkpjilgmncaaGreatDoorA22

set_option maxHeartbeats 16000000
namespace Go.Proofs.YtcdkkpjilgmncaaGreatDoor
set_option linter.unusedVariables false
set_option linter.unusedSimpArgs false
open Go.RowKit Go.Fl64
theorem owp_fldN2 {Q : Exit → Act → World → Prop} {o : Oper} {K : Act → World → Prop} {a : Act} {w : World} {s : Tmp} {g : Nat} (hop : o.op = .fieldAddr 27 (.tmp s) 2) (hs : a.tmps[s]? = some (.pointer (some ⟨g, 0, none⟩))) (h : K (a.put o.dst (.pointer (some ⟨g, 2, none⟩))) w) : o.wp Tryz.prog a w K Q :=
  owp_run1 (w' := w) (by simp [execOp, hop, Act.eval, hs, go_sem]) h
theorem owp_ldI {Q : Exit → Act → World → Prop} {o : Oper} {K : Act → World → Prop} {a : Act} {w : World} {s : Tmp} {g f : Nat} {x : Int} (hop : o.op = .load 3 (.tmp s)) (hs : a.tmps[s]? = some (.pointer (some ⟨g, f, none⟩))) (hc : w.cell? ⟨g, f, none⟩ = some (.int .i64 x)) (h : K (a.put o.dst (.int .i64 x)) w) : o.wp Tryz.prog a w K Q :=
  owp_run1 (w' := w) (by simp [execOp, hop, Act.eval, hs, hc, go_sem]) h
theorem owp_negI {Q : Exit → Act → World → Prop} {o : Oper} {K : Act → World → Prop} {a : Act} {w : World} {s : Tmp} {x : Int} (hx : -4611686018427387904 ≤ x ∧ x ≤ 4611686018427387904) (hop : o.op = .unOp .neg 3 (.tmp s)) (hs : a.tmps[s]? = some (.int .i64 x)) (h : K (a.put o.dst (.int .i64 (-x))) w) : o.wp Tryz.prog a w K Q := by
  have hw : IntKind.i64.wrap (-x) = -x := by simp [IntKind.wrap, IntKind.bits, IntKind.signed]; omega
  exact owp_run1 (w' := w) (by simp [execOp, hop, Act.eval, hs, go_sem, hw]) h
theorem owp_cst {P : Program} {Q : Exit → Act → World → Prop} {o : Oper} {K : Act → World → Prop} {a : Act} {w : World} {s : Tmp} {v : Value} (hop : o.op = .assign (.const v)) (h : K (a.put o.dst v) w) : o.wp P a w K Q :=
  owp_run1 (w' := w) (by simp [execOp, hop, Act.eval, go_sem]) h
theorem map1c {a : Act} {v : Value} : #[Operand.const v].map a.eval = #[v] := by simp [Act.eval]
set_option maxRecDepth 200000 in
theorem dparts_0 (x : Nat) (hx : x < 18446744073709551616) (w : World) (h0 : 0 ≤ (un (sU x) 1074).2.2) : Calls Tryz.prog 18 #[.float .f64 x] w fun r w' => Out2D w (un (sU x) 1074) (un 1 0) r w' := by
  obtain ⟨W, hW⟩ : ∃ W, W = (w.alloc (.cells #[.bool false, .slice none 0 0, .int .i64 0] 27)).alloc (.cells #[.bool false, .slice none 0 0, .int .i64 0] 27) := ⟨_, rfl⟩
  obtain ⟨m1, m2, m3, m4⟩ := two_new _ _ hW
  have HF : Hid (W.heap[w.heap.size]? = some (.cells #[.bool false, .slice none 0 0, .int .i64 0] 27 (0, 0)) ∧ W.heap[w.heap.size + 1]? = some (.cells #[.bool false, .slice none 0 0, .int .i64 0] 27 (0, 0)) ∧ Below w.heap.size w W) := ⟨m1, m2, m4⟩
  have kk := dfloatU hx W
  clear m1 m2 m3 m4
  go_enter Tryz.func18, Tryz.ntmps18
  go_upto_region 1 with fail
  rw [← hW]
  clear hW
  go_wp2_with fail
  refine kk.mono ?_
  rintro r w1 ⟨A, rfl, hA, hb1⟩
  obtain ⟨s1, ao1, n1, cp1, e1, rfl⟩ := hA.shape
  clear kk
  have hE : Hid (e1 = (un (sU x) 1074).2.2) := (DN.all hA).2.2.1
  have hEb : Hid (-4611686018427387904 ≤ e1 ∧ e1 ≤ 4611686018427387904) := by show _ ∧ _; have hEE : e1 = (un (sU x) 1074).2.2 := hE; have := un_e (p := 1074) (sU_lt x); unfold bU at this; omega
  obtain ⟨V, hV⟩ : ∃ V, V = w1.alloc (.cells #[.bool s1, .slice ao1 n1 cp1, .int .i64 e1] 27) := ⟨_, rfl⟩
  have hbV : Below w1.heap.size w1 V := by rw [hV]; exact (Below.refl _ _).alloc (Nat.le_refl _) _
  have n6 : V.heap[w1.heap.size]? = some (.cells #[.bool s1, .slice ao1 n1 cp1, .int .i64 e1] 27 (0, 0)) := by rw [hV]; exact heap_alloc_new _ _
  have hWV : Below W.heap.size W V := hb1.trans (hbV.mono hb1.size)
  obtain ⟨x5, x6, x7⟩ := HF.out
  have H1 : Hid (NB V w1.heap.size s1 ao1 n1 cp1 e1 (un (sU x) 1074) ∧ V.heap[w.heap.size]? = some (.cells #[.bool false, .slice none 0 0, .int .i64 0] 27 (0, 0)) ∧ V.heap[w.heap.size + 1]? = some (.cells #[.bool false, .slice none 0 0, .int .i64 0] 27 (0, 0)) ∧ Below w.heap.size w V ∧ w.heap.size + 1 < w1.heap.size) := ⟨⟨n6, hA.later hbV⟩, box_later x5 hWV (lt_of_box x5), box_later x6 hWV (lt_of_box x6), x7.trans (hWV.mono x7.size), by have := lt_of_box x6; have := hb1.size; omega⟩
  clear x5 x6 x7 hWV n6 hbV hA hb1 HF
  obtain ⟨x0, x1, x2⟩ := (cells3N H1.out.1.1).1
  have hd : decide (e1 ≥ 0) = true := decide_eq_true (by have hEE : e1 = (un (sU x) 1074).2.2 := hE; omega)
  go_upto_region 2 with fail
  rw [← hV]
  clear hV
  generalize w1.heap.size = gqT at *
  go_upto_region 3 with fail
  clear x0 x1 x2 hd
  obtain ⟨y1, x5, x6, x7, x8⟩ := H1.out
  have hbx2 : ∀ i, i < 2 → ∃ cs, V.heap[two (w.heap.size) (w.heap.size + 1) i]? = some (.cells cs 27 (0, 0)) ∧ NC3 cs := fun i hi => by
    rcases lt2F hi with rfl | rfl
    · exact ⟨_, x5, _, _, _, _, _, rfl⟩
    · exact ⟨_, x6, _, _, _, _, _, rfl⟩
  have ne : ∀ g, w.heap.size + 1 < g → ∀ i, i < 2 → g ≠ two (w.heap.size) (w.heap.size + 1) i := fun g h i hi => by
    rcases lt2F hi with rfl | rfl
    · show g ≠ w.heap.size; omega
    · show g ≠ w.heap.size + 1; omega
  have zb := sU_lt x
  have e1b : (1 : Int).natAbs < 2 ^ 1 := by decide
  refine q_region follows_mixed [0, 1] [2, 3] [10, 11] [[], []] [[0], [1]] [0, 1] (two 2 3) (two (w.heap.size) (w.heap.size + 1)) w.heap.size 27 NC3 3 V _ [isV (.agg #[.bool s1, .slice ao1 n1 cp1, .int .i64 e1]), isD (un 1 0)] (by kernel_rfl) ⟨isV_stays _, isD_stays _, trivial⟩ ⟨isV_rows _ _ _, isD_rows3 _, trivial⟩ (by show ∀ s ∈ [10, 11], s < 22; decide) ?_ ?_ Tryz.info27 ?_ ?_ ?_ (two_inj (by omega)) x7.size ?_
  · intro i hi U u h
    rcases lt2F hi with rfl | rfl
    · obtain rfl : u = _ := h
      exact ⟨_, rfl, rfl, ⟨_, _, _, _, _, rfl⟩, one3 rfl rfl⟩
    · exact DN.cells3 (show DN U u (un 1 0) from h)
  · intro j hj o ho act U hK hoth hdep hrd
    have t4 : act.tmps[(4 : Nat)]? = some (Value.pointer (some ⟨gqT, 0, none⟩)) := (hoth 4 (by decide)).trans rfl
    have c4 := (cells3N ((hK.keep gqT (lt_of_box y1.1) (ne gqT (by omega))).trans y1.1)).1
    have hj' : j < 2 := hj
    rcases (by omega : j = 0 ∨ j = 1) with rfl | rfl
    · obtain rfl := Option.some.inj ho
      exact .inl ⟨rfl, owp_ldD rfl t4 c4.1 c4.2.1 c4.2.2 ⟨_, rfl, rfl, Below.refl _ _⟩⟩
    · obtain rfl := Option.some.inj ho
      refine .inl ⟨rfl, owp_call rfl (enters Tryz.func17 (by kernel_rfl) (by kernel_rfl)) map1c ?_⟩
      refine (dwholeU (n := 1) (by omega) U).mono ?_
      rintro r w' ⟨A, rfl, hA, hb'⟩
      exact ⟨_, rfl, _, rfl, hA, hb'⟩
  · intro i hi
    rcases lt2F hi with rfl | rfl <;> exact ⟨_, rfl, rfl⟩
  · intro i hi
    rcases lt2F hi with rfl | rfl
    · exact ⟨rfl, by decide⟩
    · exact ⟨rfl, by decide⟩
  · intro i hi
    rcases lt2F hi with rfl | rfl
    · exact ⟨by show w.heap.size ≤ w.heap.size; omega, _, x5, rfl, _, _, _, _, _, rfl⟩
    · exact ⟨by show w.heap.size ≤ w.heap.size + 1; omega, _, x6, rfl, _, _, _, _, _, rfl⟩
  · intro u U hK hu hcs
    obtain ⟨csb, yb, zb'⟩ := hcs 1 (by decide)
    obtain ⟨csa, ya, za⟩ := hcs 0 (by decide)
    have qa : DN U (u 0) (un (sU x) 1074) := (show u 0 = _ from hu 0 (by decide)) ▸ DN.keepN hK hbx2 y1.2
    have qb : DN U (u 1) (un 1 0) := hu 1 (by decide)
    have ya' : u 0 = .agg csa := ya
    have yb' : u 1 = .agg csb := yb
    rw [ya'] at qa
    rw [yb'] at qb
    obtain ⟨s2, ao2, n2, cp2, e2, h2⟩ := qa.shape
    obtain ⟨s3, ao3, n3, cp3, e3, h3⟩ := qb.shape
    obtain rfl := Value.agg.inj h2
    obtain rfl := Value.agg.inj h3
    have HX : Hid (U.heap[w.heap.size]? = some (.cells #[.bool s2, .slice ao2 n2 cp2, .int .i64 e2] 27 (0, 0)) ∧ U.heap[w.heap.size + 1]? = some (.cells #[.bool s3, .slice ao3 n3 cp3, .int .i64 e3] 27 (0, 0)) ∧ DN U (.agg #[.bool s2, .slice ao2 n2 cp2, .int .i64 e2]) (un (sU x) 1074) ∧ DN U (.agg #[.bool s3, .slice ao3 n3 cp3, .int .i64 e3]) (un 1 0) ∧ Below w.heap.size w U) := ⟨za, zb', qa, qb, x7.trans hK.below⟩
    clear hu hcs ya yb za zb' ya' yb' h2 h3 qa qb hK x5 x6 x7 y1 hbx2 ne H1
    simp only [putL, show List.range 2 = [0, 1] from rfl, List.length_cons, List.length_nil, List.getD_cons_zero, List.getD_cons_succ, List.map_cons, List.map_nil, List.cons_append, List.nil_append, List.foldl_cons, List.foldl_nil, Nat.reduceLT, Nat.reduceMod, Nat.reduceDiv, Nat.reduceMul, Nat.reduceAdd, Nat.reduceEqDiff, reduceIte, Nat.one_ne_zero, Act.put, List.setIfInBounds_toArray, List.set_cons_zero, List.set_cons_succ]
    go_wp2_with fail
    refine bodyPost_ret (results_c2 rfl _ _ (w.heap.size) (w.heap.size + 1) 27 #[.bool s2, .slice ao2 n2 cp2, .int .i64 e2] #[.bool s3, .slice ao3 n3 cp3, .int .i64 e3] (0, 0) (0, 0) _ rfl rfl HX.out.1 HX.out.2.1 Tryz.underlying27 rfl Tryz.info27 Tryz.info27) rfl ?_
    skip
    skip
    exact ⟨_, _, _, _, _, _, _, _, _, _, rfl, HX.out.2.2.1, HX.out.2.2.2.1, HX.out.2.2.2.2⟩
set_option maxRecDepth 200000 in
theorem dparts_1 (x : Nat) (hx : x < 18446744073709551616) (w : World) (h0 : (un (sU x) 1074).2.2 < 0) : Calls Tryz.prog 18 #[.float .f64 x] w fun r w' => Out2D w (gK (-(un (sU x) 1074).2.2) (un (sU x) 1074)) (gK (-(un (sU x) 1074).2.2) (un 1 0)) r w' := by
  obtain ⟨W, hW⟩ : ∃ W, W = (w.alloc (.cells #[.bool false, .slice none 0 0, .int .i64 0] 27)).alloc (.cells #[.bool false, .slice none 0 0, .int .i64 0] 27) := ⟨_, rfl⟩
  obtain ⟨m1, m2, m3, m4⟩ := two_new _ _ hW
  have HF : Hid (W.heap[w.heap.size]? = some (.cells #[.bool false, .slice none 0 0, .int .i64 0] 27 (0, 0)) ∧ W.heap[w.heap.size + 1]? = some (.cells #[.bool false, .slice none 0 0, .int .i64 0] 27 (0, 0)) ∧ Below w.heap.size w W) := ⟨m1, m2, m4⟩
  have kk := dfloatU hx W
  clear m1 m2 m3 m4
  go_enter Tryz.func18, Tryz.ntmps18
  go_upto_region 1 with fail
  rw [← hW]
  clear hW
  go_wp2_with fail
  refine kk.mono ?_
  rintro r w1 ⟨A, rfl, hA, hb1⟩
  obtain ⟨s1, ao1, n1, cp1, e1, rfl⟩ := hA.shape
  clear kk
  have hE : Hid (e1 = (un (sU x) 1074).2.2) := (DN.all hA).2.2.1
  have hEb : Hid (-4611686018427387904 ≤ e1 ∧ e1 ≤ 4611686018427387904) := by show _ ∧ _; have hEE : e1 = (un (sU x) 1074).2.2 := hE; have := un_e (p := 1074) (sU_lt x); unfold bU at this; omega
  obtain ⟨V, hV⟩ : ∃ V, V = w1.alloc (.cells #[.bool s1, .slice ao1 n1 cp1, .int .i64 e1] 27) := ⟨_, rfl⟩
  have hbV : Below w1.heap.size w1 V := by rw [hV]; exact (Below.refl _ _).alloc (Nat.le_refl _) _
  have n6 : V.heap[w1.heap.size]? = some (.cells #[.bool s1, .slice ao1 n1 cp1, .int .i64 e1] 27 (0, 0)) := by rw [hV]; exact heap_alloc_new _ _
  have hWV : Below W.heap.size W V := hb1.trans (hbV.mono hb1.size)
  obtain ⟨x5, x6, x7⟩ := HF.out
  have H1 : Hid (NB V w1.heap.size s1 ao1 n1 cp1 e1 (un (sU x) 1074) ∧ V.heap[w.heap.size]? = some (.cells #[.bool false, .slice none 0 0, .int .i64 0] 27 (0, 0)) ∧ V.heap[w.heap.size + 1]? = some (.cells #[.bool false, .slice none 0 0, .int .i64 0] 27 (0, 0)) ∧ Below w.heap.size w V ∧ w.heap.size + 1 < w1.heap.size) := ⟨⟨n6, hA.later hbV⟩, box_later x5 hWV (lt_of_box x5), box_later x6 hWV (lt_of_box x6), x7.trans (hWV.mono x7.size), by have := lt_of_box x6; have := hb1.size; omega⟩
  clear x5 x6 x7 hWV n6 hbV hA hb1 HF
  obtain ⟨x0, x1, x2⟩ := (cells3N H1.out.1.1).1
  have hd : decide (e1 ≥ 0) = false := decide_eq_false (by have hEE : e1 = (un (sU x) 1074).2.2 := hE; omega)
  go_upto_region 2 with fail
  rw [← hV]
  clear hV
  generalize w1.heap.size = gqT at *
  have hEk : Hid (-1000000 ≤ -e1 ∧ -e1 ≤ 1000000) := by show _ ∧ _; have hEE : e1 = (un (sU x) 1074).2.2 := hE; have := un_e (p := 1074) (sU_lt x); unfold bU at this; omega
  go_upto_region 4 with fail
  clear x0 x1 x2 hd
  obtain ⟨y1, x5, x6, x7, x8⟩ := H1.out
  have hbx2 : ∀ i, i < 2 → ∃ cs, V.heap[two (w.heap.size) (w.heap.size + 1) i]? = some (.cells cs 27 (0, 0)) ∧ NC3 cs := fun i hi => by
    rcases lt2F hi with rfl | rfl
    · exact ⟨_, x5, _, _, _, _, _, rfl⟩
    · exact ⟨_, x6, _, _, _, _, _, rfl⟩
  have ne : ∀ g, w.heap.size + 1 < g → ∀ i, i < 2 → g ≠ two (w.heap.size) (w.heap.size + 1) i := fun g h i hi => by
    rcases lt2F hi with rfl | rfl
    · show g ≠ w.heap.size; omega
    · show g ≠ w.heap.size + 1; omega
  have zb := sU_lt x
  have e1b : (1 : Int).natAbs < 2 ^ 1 := by decide
  refine q_region follows_mixed [0, 1, 2, 3, 4, 5, 6, 7, 8, 9] [10, 11] [12, 13, 14, 15, 16, 17, 18, 19, 20, 21] [[], [], [1], [2], [0, 3], [], [], [6], [7], [5, 8]] [[4], [9]] [4, 9] (two 2 3) (two (w.heap.size) (w.heap.size + 1)) w.heap.size 27 NC3 3 V _ [isV (.agg #[.bool s1, .slice ao1 n1 cp1, .int .i64 e1]), isV (.pointer (some ⟨gqT, 2, none⟩)), isV (.int .i64 e1), isV (.int .i64 (-e1)), isD (gK (-e1) (un (sU x) 1074)), isD (un 1 0), isV (.pointer (some ⟨gqT, 2, none⟩)), isV (.int .i64 e1), isV (.int .i64 (-e1)), isD (gK (-e1) (un 1 0))] (by kernel_rfl) ⟨isV_stays _, isV_stays _, isV_stays _, isV_stays _, isD_stays _, isD_stays _, isV_stays _, isV_stays _, isV_stays _, isD_stays _, trivial⟩ ⟨isV_rows _ _ _, isV_rows _ _ _, isV_rows _ _ _, isV_rows _ _ _, isD_rows3 _, isD_rows3 _, isV_rows _ _ _, isV_rows _ _ _, isV_rows _ _ _, isD_rows3 _, trivial⟩ (by show ∀ s ∈ [12, 13, 14, 15, 16, 17, 18, 19, 20, 21], s < 22; decide) ?_ ?_ Tryz.info27 ?_ ?_ ?_ (two_inj (by omega)) x7.size ?_
  · intro i hi U u h
    rcases lt2F hi with rfl | rfl
    · exact DN.cells3 (show DN U u (gK (-e1) (un (sU x) 1074)) from h)
    · exact DN.cells3 (show DN U u (gK (-e1) (un 1 0)) from h)
  · intro j hj o ho act U hK hoth hdep hrd
    have t4 : act.tmps[(4 : Nat)]? = some (Value.pointer (some ⟨gqT, 0, none⟩)) := (hoth 4 (by decide)).trans rfl
    have c4 := (cells3N ((hK.keep gqT (lt_of_box y1.1) (ne gqT (by omega))).trans y1.1)).1
    have hj' : j < 10 := hj
    rcases (by omega : j = 0 ∨ j = 1 ∨ j = 2 ∨ j = 3 ∨ j = 4 ∨ j = 5 ∨ j = 6 ∨ j = 7 ∨ j = 8 ∨ j = 9) with rfl | rfl | rfl | rfl | rfl | rfl | rfl | rfl | rfl | rfl
    · obtain rfl := Option.some.inj ho
      exact .inl ⟨rfl, owp_ldD rfl t4 c4.1 c4.2.1 c4.2.2 ⟨_, rfl, rfl, Below.refl _ _⟩⟩
    · obtain rfl := Option.some.inj ho
      exact .inl ⟨rfl, owp_fldN2 rfl t4 ⟨_, rfl, rfl, Below.refl _ _⟩⟩
    · obtain rfl := Option.some.inj ho
      have y : act.tmps[(13 : Nat)]? = _ := dV (hdep 1 (by simp [dL])) rfl
      exact .inl ⟨rfl, owp_ldI rfl y c4.2.2 ⟨_, rfl, rfl, Below.refl _ _⟩⟩
    · obtain rfl := Option.some.inj ho
      have y : act.tmps[(14 : Nat)]? = _ := dV (hdep 2 (by simp [dL])) rfl
      exact .inl ⟨rfl, owp_negI hEb.out rfl y ⟨_, rfl, rfl, Below.refl _ _⟩⟩
    · obtain rfl := Option.some.inj ho
      have y0 : act.tmps[(12 : Nat)]? = _ := dV (hdep 0 (by simp [dL])) rfl
      have y3 : act.tmps[(15 : Nat)]? = _ := dV (hdep 3 (by simp [dL])) rfl
      refine .inl ⟨rfl, owp_call rfl (enters Tryz.func49 (by kernel_rfl) (by kernel_rfl)) (map2 y0 y3) ?_⟩
      refine (gscaled (un_gn zb (by unfold bU; omega) (by omega)) (DN.keepN hK hbx2 y1.2) hEk.out).mono ?_
      rintro r w' ⟨A, rfl, hA, hb'⟩
      exact ⟨_, rfl, _, rfl, hA, hb'⟩
    · obtain rfl := Option.some.inj ho
      refine .inl ⟨rfl, owp_call rfl (enters Tryz.func17 (by kernel_rfl) (by kernel_rfl)) map1c ?_⟩
      refine (dwholeU (n := 1) (by omega) U).mono ?_
      rintro r w' ⟨A, rfl, hA, hb'⟩
      exact ⟨_, rfl, _, rfl, hA, hb'⟩
    · obtain rfl := Option.some.inj ho
      exact .inl ⟨rfl, owp_fldN2 rfl t4 ⟨_, rfl, rfl, Below.refl _ _⟩⟩
    · obtain rfl := Option.some.inj ho
      have y : act.tmps[(18 : Nat)]? = _ := dV (hdep 6 (by simp [dL])) rfl
      exact .inl ⟨rfl, owp_ldI rfl y c4.2.2 ⟨_, rfl, rfl, Below.refl _ _⟩⟩
    · obtain rfl := Option.some.inj ho
      have y : act.tmps[(19 : Nat)]? = _ := dV (hdep 7 (by simp [dL])) rfl
      exact .inl ⟨rfl, owp_negI hEb.out rfl y ⟨_, rfl, rfl, Below.refl _ _⟩⟩
    · obtain rfl := Option.some.inj ho
      obtain ⟨u5, y5, v5⟩ := dD (s := 17) (hdep 5 (by simp [dL])) rfl
      have y8 : act.tmps[(20 : Nat)]? = _ := dV (hdep 8 (by simp [dL])) rfl
      refine .inl ⟨rfl, owp_call rfl (enters Tryz.func49 (by kernel_rfl) (by kernel_rfl)) (map2 y5 y8) ?_⟩
      refine (gscaled (un_gn (b := 1) (Z := 1) (by decide) (by omega) (by omega)) v5 hEk.out).mono ?_
      rintro r w' ⟨A, rfl, hA, hb'⟩
      exact ⟨_, rfl, _, rfl, hA, hb'⟩
  · intro i hi
    rcases lt2F hi with rfl | rfl <;> exact ⟨_, rfl, rfl⟩
  · intro i hi
    rcases lt2F hi with rfl | rfl
    · exact ⟨rfl, by decide⟩
    · exact ⟨rfl, by decide⟩
  · intro i hi
    rcases lt2F hi with rfl | rfl
    · exact ⟨by show w.heap.size ≤ w.heap.size; omega, _, x5, rfl, _, _, _, _, _, rfl⟩
    · exact ⟨by show w.heap.size ≤ w.heap.size + 1; omega, _, x6, rfl, _, _, _, _, _, rfl⟩
  · intro u U hK hu hcs
    obtain ⟨csb, yb, zb'⟩ := hcs 1 (by decide)
    obtain ⟨csa, ya, za⟩ := hcs 0 (by decide)
    have qa : DN U (u 4) (gK (-e1) (un (sU x) 1074)) := hu 4 (by decide)
    have qb : DN U (u 9) (gK (-e1) (un 1 0)) := hu 9 (by decide)
    have ya' : u 4 = .agg csa := ya
    have yb' : u 9 = .agg csb := yb
    rw [ya'] at qa
    rw [yb'] at qb
    obtain ⟨s2, ao2, n2, cp2, e2, h2⟩ := qa.shape
    obtain ⟨s3, ao3, n3, cp3, e3, h3⟩ := qb.shape
    obtain rfl := Value.agg.inj h2
    obtain rfl := Value.agg.inj h3
    have HX : Hid (U.heap[w.heap.size]? = some (.cells #[.bool s2, .slice ao2 n2 cp2, .int .i64 e2] 27 (0, 0)) ∧ U.heap[w.heap.size + 1]? = some (.cells #[.bool s3, .slice ao3 n3 cp3, .int .i64 e3] 27 (0, 0)) ∧ DN U (.agg #[.bool s2, .slice ao2 n2 cp2, .int .i64 e2]) (gK (-e1) (un (sU x) 1074)) ∧ DN U (.agg #[.bool s3, .slice ao3 n3 cp3, .int .i64 e3]) (gK (-e1) (un 1 0)) ∧ Below w.heap.size w U) := ⟨za, zb', qa, qb, x7.trans hK.below⟩
    clear hu hcs ya yb za zb' ya' yb' h2 h3 qa qb hK x5 x6 x7 y1 hbx2 ne H1
    simp only [putL, show List.range 10 = [0, 1, 2, 3, 4, 5, 6, 7, 8, 9] from rfl, List.length_cons, List.length_nil, List.getD_cons_zero, List.getD_cons_succ, List.map_cons, List.map_nil, List.cons_append, List.nil_append, List.foldl_cons, List.foldl_nil, Nat.reduceLT, Nat.reduceMod, Nat.reduceDiv, Nat.reduceMul, Nat.reduceAdd, Nat.reduceEqDiff, reduceIte, Nat.one_ne_zero, Act.put, List.setIfInBounds_toArray, List.set_cons_zero, List.set_cons_succ]
    go_wp2_with fail
    refine bodyPost_ret (results_c2 rfl _ _ (w.heap.size) (w.heap.size + 1) 27 #[.bool s2, .slice ao2 n2 cp2, .int .i64 e2] #[.bool s3, .slice ao3 n3 cp3, .int .i64 e3] (0, 0) (0, 0) _ rfl rfl HX.out.1 HX.out.2.1 Tryz.underlying27 rfl Tryz.info27 Tryz.info27) rfl ?_
    have hEE : e1 = _ := hE
    rw [← hEE]
    exact ⟨_, _, _, _, _, _, _, _, _, _, rfl, HX.out.2.2.1, HX.out.2.2.2.1, HX.out.2.2.2.2⟩
theorem pU_add (a b : Nat) : pU (a + b) = pU a * pU b := Nat.pow_add 2 a b
theorem pU_split {t n : Nat} (h : n ≤ t) : pU t = pU (t - n) * pU n := by rw [← pU_add, Nat.sub_add_cancel h]
theorem dparts {x : Nat} (hx : x < 18446744073709551616) (nx : neg x = false) : ∃ A B s : Nat, 0 < B ∧ 0 < s ∧ fU x = A * s ∧ kU = B * s ∧ A < 2 ^ bU ∧ B < 2 ^ bU ∧ ∀ w, Calls Tryz.prog 18 #[.float .f64 x] w fun r w' => Out2D w (un (A : Int) 0) (un (B : Int) 0) r w' := by
  have eS := sU_pos nx
  have eU : un (sU x) 1074 = cn false (fU x) (-1074) := by
    rw [eS]
    unfold un
    rw [decide_eq_false (by omega), Int.natAbs_natCast]
    rfl
  have hlt := fU_lt x
  by_cases h0 : fU x = 0
  · refine ⟨0, 1, kU, by omega, kU_pos, by rw [h0, Nat.zero_mul], by rw [Nat.one_mul], Nat.two_pow_pos _, ?_, fun w => ?_⟩
    · exact Nat.lt_of_le_of_lt (Nat.succ_le_of_lt kU_pos) kU_lt
    · have k := dparts_0 x hx w (by rw [eU, h0]; decide)
      rw [eS, h0] at k
      rw [un_kU, show ((0 : Nat) : Int) * (kU : Int) = ((0 : Nat) : Int) from Int.zero_mul _]
      exact k
  · obtain ⟨t, ht⟩ : ∃ t, t = tz (fU x) := ⟨_, rfl⟩
    obtain ⟨m, hm⟩ : ∃ m, m = fU x / 2 ^ tz (fU x) := ⟨_, rfl⟩
    have sp := (tz_spec _ _ (Nat.le_refl _) h0).1
    rw [← hm, ← ht] at sp
    have e2 : (un (sU x) 1074).2.2 = -1074 + (t : Int) := by rw [eU]; unfold cn; rw [if_neg h0, ← ht]
    have mb : m < 2 ^ bU := by
      refine Nat.lt_of_le_of_lt ?_ hlt
      rw [hm]
      exact Nat.div_le_self _ _
    rcases Nat.lt_or_ge t 1074 with h | h
    · have ek : kU = pU (1074 - t) * pU t := pU_split (Nat.le_of_lt h)
      refine ⟨m, pU (1074 - t), pU t, pU_pos _, pU_pos _, by rw [← sp, Nat.mul_comm]; rfl, ek, mb, pU_lt (by unfold bU; omega), fun w => ?_⟩
      have k := dparts_1 x hx w (by rw [e2]; omega)
      rw [e2] at k
      rw [gK_un (q := t) (by omega), un_pU 1 (1074 - t), gK_un (q := 0) (by omega), Int.one_mul, eS, ← sp, Nat.mul_comm] at k
      rw [un_pU (m : Int) t, ← Int.natCast_mul]
      exact k
    · have e3 : pU t = pU (t - 1074) * kU := pU_split h
      have sp' : pU t * m = fU x := sp
      have e4 : fU x = pU (t - 1074) * m * kU := by
        rw [← sp', e3, Nat.mul_assoc, Nat.mul_assoc, Nat.mul_comm kU]
      refine ⟨pU (t - 1074) * m, 1, kU, by omega, kU_pos, e4, by rw [Nat.one_mul], ?_, ?_, fun w => ?_⟩
      · refine Nat.lt_of_le_of_lt ?_ hlt
        rw [e4]
        exact Nat.le_mul_of_pos_right _ kU_pos
      · exact Nat.lt_of_le_of_lt (Nat.succ_le_of_lt kU_pos) kU_lt
      · have k := dparts_0 x hx w (by rw [e2]; omega)
        rw [un_kU, ← Int.natCast_mul, ← e4, ← eS]
        exact k
theorem smp_down {a b c d s t p q A B C D : Nat} (h : Smp a b c d p q) (hs : 0 < s) (ht : 0 < t) (ha : a = A * s) (hb : b = B * s) (hc : c = C * t) (hd : d = D * t) (hB : 0 < B) (hle : a * d ≤ c * b) : A * D ≤ C * B ∧ Smp A B C D p q := by
  have h1 : A * D ≤ C * B := by
    rw [ha, hb, hc, hd] at hle
    have e1 : A * s * (D * t) = A * D * (s * t) := by rw [Nat.mul_mul_mul_comm]
    have e2 : C * t * (B * s) = C * B * (s * t) := by rw [Nat.mul_mul_mul_comm, Nat.mul_comm t s]
    rw [e1, e2] at hle
    exact Nat.le_of_mul_le_mul_right hle (Nat.mul_pos hs ht)
  refine ⟨h1, ?_⟩
  obtain ⟨p', q', h'⟩ := smp_ex (B + D) _ _ _ _ (Nat.le_refl _) hB h1
  have h2 := smp_scale h' hs ht
  rw [← ha, ← hb, ← hc, ← hd] at h2
  obtain ⟨rfl, rfl⟩ := smp_det h2 h
  exact h'
def SM (a b : Nat) (P : Int) (Q : Nat) : Prop :=
  (0 < stp a ∧ ∃ p : Nat, P = (p : Int) ∧ fU a * dU b ≤ cU b * kU ∧ Smp (fU a) kU (cU b) (dU b) p Q) ∨
  (stp b < 0 ∧ ∃ p : Nat, P = -(p : Int) ∧ fU (ngt b) * dU (ngt a) ≤ cU (ngt a) * kU ∧ Smp (fU (ngt b)) kU (cU (ngt a)) (dU (ngt a)) p Q) ∨
  (stp a ≤ 0 ∧ 0 ≤ stp b ∧ P = 0 ∧ Q = 1)
end Go.Proofs.YtcdkkpjilgmncaaGreatDoor
