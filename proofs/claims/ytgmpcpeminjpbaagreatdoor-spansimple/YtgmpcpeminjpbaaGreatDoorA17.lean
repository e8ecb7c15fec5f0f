/- Own work: contracts of the program's functions, part 17: PQ2 FRB SNR SNN SNS SNK SNT SNU SNV FRC SNW SNX SNY SNZ SO1 FRD FRE FRF. -/
import Derived.Test.YtgmpcpeminjpbaaGreatDoorA16
import Derived.Test.YtgmpcpeminjpbaaGreatDoorA10
import Derived.Test.YtgmpcpeminjpbaaGreatDoorA9
import Derived.Test.YtgmpcpeminjpbaaGreatDoorA13
import Derived.Test.YtgmpcpeminjpbaaGreatDoorA11
import Derived.Test.YtgmpcpeminjpbaaGreatDoorA8

set_option maxHeartbeats 16000000
namespace Go.Proofs.YtgmpcpeminjpbaaGreatDoor
set_option linter.unusedVariables false
set_option linter.unusedSimpArgs false
open Go.RowKit
def qrow (PVL PSL SL : List Nat) (D rd : List (List Nat)) (vs : List Nat) (i : Nat) (o : Oper) : Bool :=
  o.after.all (fun e => !(Region.binds .any e) || decide (e.on < i)) && (PVL.contains i || PSL.contains i)
def qval (ops : Array Oper) (PVL SL : List Nat) (D : List (List Nat)) (j : Nat) : Bool :=
  match ops[PVL.getD j 0]? with
  | some o => o.dst == some (SL.getD j 0) && (dL D j).all (fun j' => decide (j' < PVL.length) && vhas o (PVL.getD j' 0))
  | none => false
def qsto (ops : Array Oper) (PVL PSL : List Nat) (rd : List (List Nat)) (vs : List Nat) (k : Nat) : Bool :=
  match ops[PSL.getD k 0]? with
  | some o => o.dst == none && o.guard.isNone && decide (vs.getD k 0 < PVL.length) && (dL rd k).contains (vs.getD k 0) && (dL rd k).all (fun j => decide (j < PVL.length) && vhas o (PVL.getD j 0))
  | none => false
def qchk (ops : Array Oper) (PVL PSL SL : List Nat) (D rd : List (List Nat)) (vs : List Nat) : Bool :=
  ((List.range ops.size).all fun i => match ops[i]? with | some o => qrow PVL PSL SL D rd vs i o | none => false) && (List.range PVL.length).all (qval ops PVL SL D) && (List.range PSL.length).all (qsto ops PVL PSL rd vs) && decide (PVL ++ PSL).Nodup && decide SL.Nodup && decide (SL.length = PVL.length)
theorem getD_mem {l : List Nat} {j : Nat} (h : j < l.length) : l.getD j 0 ∈ l := by
  rw [List.getD_eq_getElem?_getD, List.getElem?_eq_getElem h]
  exact List.getElem_mem h
theorem getD_inj {l : List Nat} (hn : l.Nodup) {i j : Nat} (hi : i < l.length) (hj : j < l.length) (h : l.getD i 0 = l.getD j 0) : i = j := by
  rw [List.getD_eq_getElem?_getD, List.getD_eq_getElem?_getD, List.getElem?_eq_getElem hi, List.getElem?_eq_getElem hj] at h
  exact (List.getElem_inj hn).1 h
theorem mem_getD {l : List Nat} {x : Nat} (h : x ∈ l) : ∃ j, j < l.length ∧ x = l.getD j 0 := by
  obtain ⟨j, hj, e⟩ := List.mem_iff_getElem.1 h
  exact ⟨j, hj, by rw [List.getD_eq_getElem?_getD, List.getElem?_eq_getElem hj]; exact e.symm⟩
theorem q_region {P : Program} {ops : Array Oper} {Q : Exit → Act → World → Prop} {id : Nat} (hm : P.follows .mixedOrders = true) (PVL PSL SL : List Nat) (D rd : List (List Nat)) (vs : List Nat) (bx gs : Nat → Nat) (B : Nat) (T : TypeId) (C : Array Value → Prop) (z : Nat)
    (W0 : World) (a0 : Act) (L : List (World → Value → Prop)) (hchk : qchk ops PVL PSL SL D rd vs = true)
    (hV1 : StaysAll L) (hV2 : RowsAll T C L) (hsl : ∀ s ∈ SL, s < a0.tmps.size)
    (hVs : ∀ k, k < PSL.length → ∀ w u, vL L (vs.getD k 0) w u → ∃ cs : Array Value, u = .agg cs ∧ cs.size = z ∧ C cs ∧ cs.all (·.oneCell') = true)
    (hA : ∀ j, j < PVL.length → ∀ o, ops[PVL.getD j 0]? = some o → ∀ (a : Act) (w : World), KeepB PSL.length gs B W0 w → (∀ s : Nat, SL.contains s = false → a.tmps[s]? = a0.tmps[s]?) →
      (∀ j' ∈ dL D j, ∃ u, a.tmps[SL.getD j' 0]? = some u ∧ vL L j' w u) → (∀ k, k < PSL.length → j ∈ dL rd k → w.heap[gs k]? = W0.heap[gs k]?) →
      (o.guard = none ∧ o.wp P a w (fun a' w' => ∃ u, a' = a.put o.dst u ∧ vL L j w' u ∧ Below w.heap.size w w') Q) ∨ wpOp P ops Q (PVL.getD j 0) (fun a' w' => ∃ u, a' = a.put o.dst u ∧ vL L j w' u ∧ Below w.heap.size w w') a w)
    (hi : (P.info? T).map (·.size) = some z)
    (hst : ∀ k, k < PSL.length → ∃ o, ops[PSL.getD k 0]? = some o ∧ o.op = .store T (.tmp (bx k)) (.tmp (SL.getD (vs.getD k 0) 0)))
    (hbx : ∀ k, k < PSL.length → a0.tmps[bx k]? = some (.pointer (some ⟨gs k, 0, none⟩)) ∧ SL.contains (bx k) = false)
    (hbox : ∀ k, k < PSL.length → B ≤ gs k ∧ ∃ cs, W0.heap[gs k]? = some (.cells cs T (0, 0)) ∧ cs.size = z ∧ C cs)
    (hgs : ∀ k k', k < PSL.length → k' < PSL.length → gs k = gs k' → k = k') (hB : B ≤ W0.heap.size)
    (hQ : ∀ (u : Nat → Value) (w : World), KeepB PSL.length gs B W0 w → (∀ j, j < PVL.length → vL L j w (u j)) →
      (∀ k, k < PSL.length → ∃ cs, u (vs.getD k 0) = .agg cs ∧ w.heap[gs k]? = some (.cells cs T (0, 0))) → Q .normal (putL a0 ((List.range PVL.length).map (fun j => (SL.getD j 0, u j)))) w) :
    (Code.region id ops true).wp P Q a0 W0 := by
  unfold qchk at hchk
  simp only [Bool.and_eq_true, decide_eq_true_eq] at hchk
  obtain ⟨⟨⟨⟨⟨h1, h2⟩, h3⟩, h4⟩, h5⟩, h6⟩ := hchk
  obtain ⟨n1, n2, n3⟩ := List.nodup_append.1 h4
  have row : ∀ {i o}, ops[i]? = some o → qrow PVL PSL SL D rd vs i o = true := fun {i o} ho => by
    have := List.all_eq_true.1 h1 i (List.mem_range.2 (Array.getElem?_eq_some_iff.1 ho).1)
    simp only [ho] at this
    exact this
  have val : ∀ j, j < PVL.length → ∃ o, ops[PVL.getD j 0]? = some o ∧ o.dst = some (SL.getD j 0) ∧ ∀ j' ∈ dL D j, j' < PVL.length ∧ ∃ e ∈ o.after, e.on = PVL.getD j' 0 ∧ Region.binds .any e = true := fun j hj => by
    have := List.all_eq_true.1 h2 j (List.mem_range.2 hj)
    unfold qval at this
    cases ho : ops[PVL.getD j 0]? with
    | none => rw [ho] at this; cases this
    | some o =>
      rw [ho] at this
      simp only [Bool.and_eq_true] at this
      refine ⟨o, rfl, by simpa using this.1, fun j' hj' => ?_⟩
      have := List.all_eq_true.1 this.2 j' hj'
      rw [Bool.and_eq_true] at this
      exact ⟨of_decide_eq_true this.1, vhas_ex this.2⟩
  have sto : ∀ k, k < PSL.length → ∃ o, ops[PSL.getD k 0]? = some o ∧ o.dst = none ∧ o.guard = none ∧ vs.getD k 0 < PVL.length ∧ vs.getD k 0 ∈ dL rd k ∧ ∀ j ∈ dL rd k, j < PVL.length ∧ ∃ e ∈ o.after, e.on = PVL.getD j 0 ∧ Region.binds .any e = true := fun k hk => by
    have := List.all_eq_true.1 h3 k (List.mem_range.2 hk)
    unfold qsto at this
    cases ho : ops[PSL.getD k 0]? with
    | none => rw [ho] at this; cases this
    | some o =>
      rw [ho] at this
      simp only [Bool.and_eq_true] at this
      obtain ⟨⟨⟨⟨x1, x2⟩, x3⟩, x4⟩, x5⟩ := this
      refine ⟨o, rfl, by simpa using x1, Option.isNone_iff_eq_none.1 x2, of_decide_eq_true x3, by simpa using x4, fun j hj => ?_⟩
      have := List.all_eq_true.1 x5 j hj
      rw [Bool.and_eq_true] at this
      exact ⟨of_decide_eq_true this.1, vhas_ex this.2⟩
  have hoth : ∀ {s : Nat}, SL.contains s = false → ∀ j, j < PVL.length → s ≠ SL.getD j 0 := fun {s} h j hj e => by
    have h7 := getD_mem (l := SL) (j := j) (by omega)
    rw [← e] at h7
    have : SL.contains s = true := by simpa using h7
    rw [h] at this; cases this
  refine parq_region hm (fun j => PVL.getD j 0) (fun k => PSL.getD k 0) PVL.length PSL.length (fun j => SL.getD j 0) bx (fun k => vs.getD k 0) gs B (dL D) (dL rd) T C z W0 a0 (vL L) ?_ ?_ ?_ ?_ (fun j j' hj hj' e => getD_inj n1 hj hj' e) (fun k k' hk hk' e => getD_inj n2 hk hk' e) ?_ (fun j w w' u hb h => vL_stays hV1 j w w' u hb h) (fun j w u g cs cs' y1 y2 h => vL_rows hV2 j w u g cs cs' y1 y2 h) hVs ?_ ?_ hi ?_ ?_ hbox hgs hB (fun j hj => hsl _ (getD_mem (by omega))) (fun j j' hj hj' e => getD_inj h5 (by omega) (by omega) e) ?_
  · intro i hi'
    have ho : ops[i]? = some ops[i] := Array.getElem?_eq_getElem hi'
    have := row ho
    unfold qrow at this
    rw [Bool.and_eq_true, Bool.or_eq_true] at this
    rcases this.2 with h | h
    · exact .inl (mem_getD (by simpa using h))
    · exact .inr (mem_getD (by simpa using h))
  · intro j hj
    obtain ⟨o, ho, -⟩ := val j hj
    exact (Array.getElem?_eq_some_iff.1 ho).1
  · intro k hk
    obtain ⟨o, ho, -⟩ := sto k hk
    exact (Array.getElem?_eq_some_iff.1 ho).1
  · intro j k hj hk
    exact n3 _ (getD_mem hj) _ (getD_mem hk)
  · intro i o ho e he hb
    have := row ho
    unfold qrow at this
    rw [Bool.and_eq_true] at this
    have h7 := Array.all_eq_true_iff_forall_mem.1 this.1 e he
    rw [hb] at h7
    exact of_decide_eq_true (by simpa using h7)
  · intro j hj j' hj'
    obtain ⟨o, ho, -, hd⟩ := val j hj
    obtain ⟨x1, x2⟩ := hd j' hj'
    refine ⟨x1, fun o' ho' => ?_⟩
    obtain rfl : o = o' := Option.some.inj (ho.symm.trans ho')
    exact x2
  · intro j hj a w hk ho1 hd hrd
    obtain ⟨o, ho, hds, -⟩ := val j hj
    have h7 := hA j hj o ho a w hk (fun s hs => ho1 s (hoth hs)) hd hrd
    rw [hds] at h7
    rcases h7 with ⟨hg, h7⟩ | h7
    · exact step_wanted ho hg h7
    · exact h7
  · intro k hk
    obtain ⟨o, ho, hop⟩ := hst k hk
    obtain ⟨o', ho', x1, x2, x3, x4, x5⟩ := sto k hk
    obtain rfl : o' = o := Option.some.inj (ho'.symm.trans ho)
    exact ⟨x3, o', ho, x2, hop, x1, x4, x5⟩
  · intro k hk
    exact ⟨(hbx k hk).1, hoth (hbx k hk).2⟩
  · intro u a w hk hu hcs hs hd ho1
    have q1 : ((List.range PVL.length).map (fun j => ((SL.getD j 0, u j) : Tmp × Value))).map (fun p : Tmp × Value => p.1) = (List.range PVL.length).map (fun j => SL.getD j 0) := by simp [Function.comp_def]
    have ha := act_putL (a := a) (a0 := a0) (l := (List.range PVL.length).map (fun j => ((SL.getD j 0, u j) : Tmp × Value))) (by
        rw [q1]
        refine List.pairwise_map.2 ((List.nodup_range (n := PVL.length)).imp_of_mem ?_)
        intro x y hx hy hne he
        have := List.mem_range.1 hx
        have := List.mem_range.1 hy
        exact hne (getD_inj h5 (by omega) (by omega) he)) hs hd (by
        intro p hp
        obtain ⟨i, hi, rfl⟩ := List.mem_map.1 hp
        exact (hu i (List.mem_range.1 hi)).1) (fun s hsn => ho1 s (fun i hi he => hsn (List.mem_map.2 ⟨_, List.mem_map.2 ⟨i, List.mem_range.2 hi, rfl⟩, he.symm⟩)))
    rw [ha]
    exact hQ u w hk (fun j hj => (hu j hj).2) hcs
theorem wpOp_skip {P : Program} {ops : Array Oper} {Q : Exit → Act → World → Prop} {i : Nat} {o og : Oper} {K : Act → World → Prop} {a : Act} {w : World} {j : Nat} {s : Tmp} {b b' : Bool}
    (ho : ops[i]? = some o) (hg : o.guard = some (j, b)) (hog : ops[j]? = some og) (hd : og.dst = some s) (hs : a.tmps[s]? = some (.bool b')) (hb : b' ≠ b) (h : K (a.put o.dst undef) w) : wpOp P ops Q i K a w := by
  unfold wpOp
  simp only [ho]
  rw [if_neg (by simp [Region.wanted, hg, yielded, hog, hd, hs, hb])]
  exact h
theorem wpOp_take {P : Program} {ops : Array Oper} {Q : Exit → Act → World → Prop} {i : Nat} {o og : Oper} {K : Act → World → Prop} {a : Act} {w : World} {j : Nat} {s : Tmp} {b : Bool}
    (ho : ops[i]? = some o) (hg : o.guard = some (j, b)) (hog : ops[j]? = some og) (hd : og.dst = some s) (hs : a.tmps[s]? = some (.bool b)) (h : o.wp P a w K Q) : wpOp P ops Q i K a w := by
  unfold wpOp
  simp only [ho]
  rw [if_pos (by simp [Region.wanted, hg, yielded, hog, hd, hs])]
  exact .inl h
end Go.Proofs.YtgmpcpeminjpbaaGreatDoor
namespace Go.Proofs.YtgmpcpeminjpbaaGreatDoor
set_option linter.unusedVariables false
set_option linter.unusedSimpArgs false
open Go.RowKit Go.Fl64
theorem results_c2t {P : Program} {fn : Func} {p q u : Tmp} {ty : TypeId} (h : fn.results = #[.cell p ty, .cell q ty, .tmp u]) (tmps : Array Value) (w : World) (g k : Nat) (t : TypeId) (cs ds : Array Value) (fr fs : Nat × Nat) (d : TypeDesc)
    (hp : tmps.getD p undef = .pointer (some ⟨g, 0, none⟩)) (hq : tmps.getD q undef = .pointer (some ⟨k, 0, none⟩)) (hg : w.heap[g]? = some (.cells cs t fr)) (hk : w.heap[k]? = some (.cells ds t fs))
    (hu : P.underlying ty = some d) (hd : (match d with | .struct _ | .array _ _ => true | _ => false) = true) (hi : (P.info? ty).map (·.size) = some cs.size) (hj : (P.info? ty).map (·.size) = some ds.size) :
    (results fn tmps).run P w = .ok (.tuple #[.agg cs, .agg ds, tmps.getD u undef]) w := by
  have hp' : tmps[p]?.getD undef = .pointer (some ⟨g, 0, none⟩) := by simpa using hp
  have hq' : tmps[q]?.getD undef = .pointer (some ⟨k, 0, none⟩) := by simpa using hq
  simp [results, h, hp', hq', asAddr, run_loadVar_row w g t ty cs fr d hg hu hd hi, run_loadVar_row w k t ty ds fs d hk hu hd hj, Result.andThen]
def Out2N (W : World) (t1 t2 : Bool × Nat × Int) (E : Int) (r : Ending) (w' : World) : Prop := ∃ (s1 : Bool) (ao1 : Option Addr) (n1 cp1 : Nat) (e1 : Int) (s2 : Bool) (ao2 : Option Addr) (n2 cp2 : Nat) (e2 : Int), r = .returned (.tuple #[.agg #[.bool s1, .slice ao1 n1 cp1, .int .i64 e1], .agg #[.bool s2, .slice ao2 n2 cp2, .int .i64 e2], .int .i64 E]) ∧ PN w' (.agg #[.bool s1, .slice ao1 n1 cp1, .int .i64 e1]) t1 ∧ PN w' (.agg #[.bool s2, .slice ao2 n2 cp2, .int .i64 e2]) t2 ∧ Below W.heap.size W w'
set_option maxRecDepth 200000 in
theorem psimp_no (a b : Nat) (w : World)
    (k1 : ∀ W, Below w.heap.size w W → Calls Tryz.prog 21 #[.agg #[.float .f64 a, .float .f64 b]] W fun r w' => r = .returned (.bool false) ∧ Below W.heap.size W w') :
    Calls Tryz.prog 5 #[.agg #[.float .f64 a, .float .f64 b]] w fun r w' => Out2N w nilN nilN 1 r w' := by
  obtain ⟨W, hW⟩ : ∃ W, W = ((w.alloc (.cells #[.float .f64 a, .float .f64 b] 24)).alloc (.cells #[.bool false, .slice none 0 0, .int .i64 0] 28)).alloc (.cells #[.bool false, .slice none 0 0, .int .i64 0] 28) := ⟨_, rfl⟩
  obtain ⟨hF, hN, hM, hBW⟩ := three_new _ _ _ hW
  have c0 : W.cell? ⟨w.heap.size, 0, none⟩ = some (.float .f64 a) := by simp [World.cell?, hF]
  have c1 : W.cell? ⟨w.heap.size, 1, none⟩ = some (.float .f64 b) := by simp [World.cell?, hF]
  have HF : Hid (W.heap[w.heap.size + 1]? = some (.cells #[.bool false, .slice none 0 0, .int .i64 0] 28 (0, 0)) ∧ W.heap[w.heap.size + 1 + 1]? = some (.cells #[.bool false, .slice none 0 0, .int .i64 0] 28 (0, 0)) ∧ Below w.heap.size w W) := ⟨hN, hM, hBW⟩
  have kk := k1 W hBW
  clear k1 hF hN hM hBW
  go_enter Tryz.func5, Tryz.ntmps5
  go_upto_region 1 with fail
  rw [← hW]
  clear hW
  go_wp2_with fail
  refine kk.mono ?_
  rintro r w1 ⟨rfl, hb1⟩
  clear kk c0 c1
  have HG : Hid (w1.heap[w.heap.size + 1]? = some (.cells #[.bool false, .slice none 0 0, .int .i64 0] 28 (0, 0)) ∧ w1.heap[w.heap.size + 1 + 1]? = some (.cells #[.bool false, .slice none 0 0, .int .i64 0] 28 (0, 0)) ∧ Below w.heap.size w w1) := ⟨box_later HF.out.1 hb1 (lt_of_box HF.out.1), box_later HF.out.2.1 hb1 (lt_of_box HF.out.2.1), HF.out.2.2.trans (hb1.mono HF.out.2.2.size)⟩
  obtain ⟨⟨x0, x1, x2⟩, x3, x4, x5⟩ := cells3N HG.out.1
  obtain ⟨⟨y0, y1, y2⟩, y3, y4, y5⟩ := cells3N HG.out.2.1
  clear hb1 HF
  go_wp2_with fail
  obtain ⟨V, hV⟩ : ∃ V, V = ((w1.setCell ⟨w.heap.size + 1, 0, none⟩ (.bool false)).setCell ⟨w.heap.size + 1, 1, none⟩ (.slice none 0 0)).setCell ⟨w.heap.size + 1, 2, none⟩ (.int .i64 0) := ⟨_, rfl⟩
  have v1 := set3_at (.bool false) (.slice none 0 0) (.int .i64 0) HG.out.1
  have v2 : V.heap[w.heap.size + 1 + 1]? = some (.cells #[.bool false, .slice none 0 0, .int .i64 0] 28 (0, 0)) := by
    rw [hV, set_other _ _ _ _ _ (by omega), set_other _ _ _ _ _ (by omega), set_other _ _ _ _ _ (by omega)]
    exact HG.out.2.1
  rw [← hV] at v1 ⊢
  refine bodyPost_ret (results_c2t rfl _ _ (w.heap.size + 1) (w.heap.size + 1 + 1) 28 #[.bool false, .slice none 0 0, .int .i64 0] #[.bool false, .slice none 0 0, .int .i64 0] (0, 0) (0, 0) _ rfl rfl (by rw [set_other _ _ _ _ _ (by omega), set_other _ _ _ _ _ (by omega), set_other _ _ _ _ _ (by omega)]; exact v1) (set3_at _ _ _ v2) Tryz.underlying28 rfl Tryz.info28 Tryz.info28) rfl ?_
  exact ⟨_, _, _, _, _, _, _, _, _, _, rfl, pn_nilN _, pn_nilN _, below_set3 (by rw [hV]; exact below_set3 HG.out.2.2 (by omega) _ _ _) (by omega) _ _ _⟩
set_option maxRecDepth 200000 in
theorem psimp_pos (a b x y : Nat) (t1 t2 : Bool × Nat × Int) (w : World) (hlt : (FloatKind.f64.format.order b 0 == some Ordering.lt) = false)
    (k1 : ∀ W, Below w.heap.size w W → Calls Tryz.prog 21 #[.agg #[.float .f64 a, .float .f64 b]] W fun r w' => r = .returned (.bool true) ∧ Below W.heap.size W w')
    (k2 : ∀ W, Below w.heap.size w W → Calls Tryz.prog 23 #[.agg #[.float .f64 a, .float .f64 b]] W fun r w' => r = .returned (.agg #[.float .f64 x, .float .f64 y]) ∧ Below W.heap.size W w')
    (k3 : ∀ W, Below w.heap.size w W → Calls Tryz.prog 22 #[.agg #[.float .f64 x, .float .f64 y]] W fun r w' => OutFv W t1 t2 r w') :
    Calls Tryz.prog 5 #[.agg #[.float .f64 a, .float .f64 b]] w fun r w' => Out2N w t1 t2 0 r w' := by
  obtain ⟨W, hW⟩ : ∃ W, W = ((w.alloc (.cells #[.float .f64 a, .float .f64 b] 24)).alloc (.cells #[.bool false, .slice none 0 0, .int .i64 0] 28)).alloc (.cells #[.bool false, .slice none 0 0, .int .i64 0] 28) := ⟨_, rfl⟩
  obtain ⟨hF, hN, hM, hBW⟩ := three_new _ _ _ hW
  have c0 : W.cell? ⟨w.heap.size, 0, none⟩ = some (.float .f64 a) := by simp [World.cell?, hF]
  have c1 : W.cell? ⟨w.heap.size, 1, none⟩ = some (.float .f64 b) := by simp [World.cell?, hF]
  have HF : Hid (W.heap[w.heap.size]? = some (.cells #[.float .f64 a, .float .f64 b] 24 (0, 0)) ∧ W.heap[w.heap.size + 1]? = some (.cells #[.bool false, .slice none 0 0, .int .i64 0] 28 (0, 0)) ∧ W.heap[w.heap.size + 1 + 1]? = some (.cells #[.bool false, .slice none 0 0, .int .i64 0] 28 (0, 0)) ∧ Below w.heap.size w W) := ⟨hF, hN, hM, hBW⟩
  have HK2 : Hid _ := k2
  have HK3 : Hid _ := k3
  have kk := k1 W hBW
  clear k1 k2 k3 hF hN hM hBW
  go_enter Tryz.func5, Tryz.ntmps5
  go_upto_region 1 with fail
  rw [← hW]
  clear hW
  go_wp2_with fail
  refine kk.mono ?_
  rintro r w1 ⟨rfl, hb1⟩
  clear kk c0 c1
  have HG : Hid (w1.heap[w.heap.size]? = some (.cells #[.float .f64 a, .float .f64 b] 24 (0, 0)) ∧ w1.heap[w.heap.size + 1]? = some (.cells #[.bool false, .slice none 0 0, .int .i64 0] 28 (0, 0)) ∧ w1.heap[w.heap.size + 1 + 1]? = some (.cells #[.bool false, .slice none 0 0, .int .i64 0] 28 (0, 0)) ∧ Below w.heap.size w w1) := ⟨box_later HF.out.1 hb1 (lt_of_box HF.out.1), box_later HF.out.2.1 hb1 (lt_of_box HF.out.2.1), box_later HF.out.2.2.1 hb1 (lt_of_box HF.out.2.2.1), HF.out.2.2.2.trans (hb1.mono HF.out.2.2.2.size)⟩
  have c0 : w1.cell? ⟨w.heap.size, 0, none⟩ = some (.float .f64 a) := by simp [World.cell?, HG.out.1]
  have c1 : w1.cell? ⟨w.heap.size, 1, none⟩ = some (.float .f64 b) := by simp [World.cell?, HG.out.1]
  clear hb1 HF
  have kk := HK2.out w1 HG.out.2.2.2
  go_wp2_with fail
  refine kk.mono ?_
  rintro r w2 ⟨rfl, hb2⟩
  clear kk c0 c1
  have HB2 : Hid (Below w1.heap.size w1 w2) := hb2
  have kk := HK3.out w2 (HG.out.2.2.2.trans (hb2.mono HG.out.2.2.2.size))
  clear hb2
  go_wp2_with fail
  refine kk.mono ?_
  rintro r w3 ⟨U, rfl, hU, hb3⟩
  clear kk
  obtain ⟨s1, ao1, n1, cp1, e1, s2, ao2, n2, cp2, e2, rfl, p1, p2⟩ := hU
  obtain ⟨W4, hW4⟩ : ∃ W4, W4 = w3.alloc (.cells #[.bool s1, .slice ao1 n1 cp1, .int .i64 e1, .bool s2, .slice ao2 n2 cp2, .int .i64 e2] 52) := ⟨_, rfl⟩
  obtain ⟨g5, hg5⟩ : ∃ g, g = w3.heap.size := ⟨_, rfl⟩
  have hb4 : Below w3.heap.size w3 W4 := by rw [hW4]; exact (Below.refl _ _).alloc (Nat.le_refl _) _
  have hb14 : Below w1.heap.size w1 W4 := (HB2.out.trans (hb3.mono HB2.out.size)).trans (hb4.mono (HB2.out.trans (hb3.mono HB2.out.size)).size)
  have HM : Hid (W4.heap[w.heap.size]? = some (.cells #[.float .f64 a, .float .f64 b] 24 (0, 0)) ∧ W4.heap[w.heap.size + 1]? = some (.cells #[.bool false, .slice none 0 0, .int .i64 0] 28 (0, 0)) ∧ W4.heap[w.heap.size + 1 + 1]? = some (.cells #[.bool false, .slice none 0 0, .int .i64 0] 28 (0, 0)) ∧ Below w.heap.size w W4 ∧ W4.heap[g5]? = some (.cells #[.bool s1, .slice ao1 n1 cp1, .int .i64 e1, .bool s2, .slice ao2 n2 cp2, .int .i64 e2] 52 (0, 0)) ∧ PN W4 (.agg #[.bool s1, .slice ao1 n1 cp1, .int .i64 e1]) t1 ∧ PN W4 (.agg #[.bool s2, .slice ao2 n2 cp2, .int .i64 e2]) t2 ∧ w1.heap.size ≤ g5) := ⟨box_later HG.out.1 hb14 (lt_of_box HG.out.1), box_later HG.out.2.1 hb14 (lt_of_box HG.out.2.1), box_later HG.out.2.2.1 hb14 (lt_of_box HG.out.2.2.1), HG.out.2.2.2.trans (hb14.mono HG.out.2.2.2.size), by rw [hW4, hg5]; exact heap_alloc_new _ _, p1.later hb4, p2.later hb4, by rw [hg5]; exact Nat.le_trans HB2.out.size hb3.size⟩
  have c1 : W4.cell? ⟨w.heap.size, 1, none⟩ = some (.float .f64 b) := by simp [World.cell?, HM.out.1]
  have HS : Hid (w.heap.size + 1 + 1 < w1.heap.size) := lt_of_box HG.out.2.2.1
  clear p1 p2 hb3 hb4 hb14 HB2 HG
  rw [hW4] at c1
  go_upto_region 6 with fail
  rw [← hW4, ← hg5]
  clear hW4 hg5 c1
  obtain ⟨m1, m2, m3, mB, m5, mP, mQ, mg⟩ := HM.out
  have hg5 : w.heap.size + 1 + 1 < g5 := by have := HS.out; omega
  have hbx2 : ∀ i, i < 2 → ∃ cs, W4.heap[two (w.heap.size + 1) (w.heap.size + 1 + 1) i]? = some (.cells cs 28 (0, 0)) ∧ NC3 cs := fun i hi => by
    rcases lt2F hi with rfl | rfl
    · exact ⟨_, m2, _, _, _, _, _, rfl⟩
    · exact ⟨_, m3, _, _, _, _, _, rfl⟩
  have ne5 : ∀ i, i < 2 → g5 ≠ two (w.heap.size + 1) (w.heap.size + 1 + 1) i := fun i hi => by
    rcases lt2F hi with rfl | rfl
    · show g5 ≠ w.heap.size + 1; omega
    · show g5 ≠ w.heap.size + 1 + 1; omega
  refine q_region follows_mixed [0, 1, 2, 3, 6] [4, 5] [22, 23, 24, 25, 4] [[], [0], [], [2], []] [[1], [3]] [1, 3] (two 2 3) (two (w.heap.size + 1) (w.heap.size + 1 + 1)) w.heap.size 28 NC3 3 W4 _ [isV (.pointer (some ⟨g5, 0, none⟩)), isV (.agg #[.bool s1, .slice ao1 n1 cp1, .int .i64 e1]), isV (.pointer (some ⟨g5, 3, none⟩)), isV (.agg #[.bool s2, .slice ao2 n2 cp2, .int .i64 e2]), isV (.int .i64 0)] (by kernel_rfl) ⟨isV_stays _, isV_stays _, isV_stays _, isV_stays _, isV_stays _, trivial⟩ ⟨isV_rows _ _ _, isV_rows _ _ _, isV_rows _ _ _, isV_rows _ _ _, isV_rows _ _ _, trivial⟩ (by show ∀ s ∈ [22, 23, 24, 25, 4], s < 26; decide) ?_ ?_ Tryz.info28 ?_ ?_ ?_ (two_inj (by omega)) mB.size ?_
  · intro i hi V u h
    rcases lt2F hi with rfl | rfl
    · obtain rfl : u = _ := h
      exact ⟨_, rfl, rfl, ⟨_, _, _, _, _, rfl⟩, one3 rfl rfl⟩
    · obtain rfl : u = _ := h
      exact ⟨_, rfl, rfl, ⟨_, _, _, _, _, rfl⟩, one3 rfl rfl⟩
  · intro j hj o ho act V hK hoth hdep hrd
    have h5 : V.heap[g5]? = some (.cells #[.bool s1, .slice ao1 n1 cp1, .int .i64 e1, .bool s2, .slice ao2 n2 cp2, .int .i64 e2] 52 (0, 0)) := (hK.keep g5 (lt_of_box m5) ne5).trans m5
    have c6 := (cells6F h5).1
    have hp5 : act.tmps[(5 : Nat)]? = some (Value.pointer (some ⟨g5, 0, none⟩)) := (hoth 5 (by decide)).trans rfl
    rcases lt5F hj with rfl | rfl | rfl | rfl | rfl
    · obtain rfl := Option.some.inj ho
      exact .inl ⟨rfl, owp_run1 (w' := V) (v := _) (by simp [execOp, eval_get hp5, run_fr0]) ⟨_, rfl, rfl, Below.refl _ _⟩⟩
    · obtain rfl := Option.some.inj ho
      obtain ⟨u0, z0, v0⟩ := hdep 0 (by simp [dL])
      obtain rfl : u0 = _ := v0
      have z0' : act.tmps[(22 : Nat)]? = _ := z0
      exact .inl ⟨rfl, owp_run1 (w' := V) (v := .agg #[.bool s1, .slice ao1 n1 cp1, .int .i64 e1]) (by simp [execOp, eval_get z0', run_ldN _ 0 s1 ao1 n1 cp1 e1 V c6.1 c6.2.1 c6.2.2.1]) ⟨_, rfl, rfl, Below.refl _ _⟩⟩
    · obtain rfl := Option.some.inj ho
      exact .inl ⟨rfl, owp_run1 (w' := V) (v := _) (by simp [execOp, eval_get hp5, run_fr1]) ⟨_, rfl, rfl, Below.refl _ _⟩⟩
    · obtain rfl := Option.some.inj ho
      obtain ⟨u0, z0, v0⟩ := hdep 2 (by simp [dL])
      obtain rfl : u0 = _ := v0
      have z0' : act.tmps[(24 : Nat)]? = _ := z0
      exact .inl ⟨rfl, owp_run1 (w' := V) (v := .agg #[.bool s2, .slice ao2 n2 cp2, .int .i64 e2]) (by simp [execOp, eval_get z0', run_ldN _ 3 s2 ao2 n2 cp2 e2 V c6.2.2.2.1 c6.2.2.2.2.1 c6.2.2.2.2.2]) ⟨_, rfl, rfl, Below.refl _ _⟩⟩
    · obtain rfl := Option.some.inj ho
      exact .inl ⟨rfl, owp_run1 (w' := V) (v := .int .i64 0) (by simp [execOp, Act.eval]) ⟨_, rfl, rfl, Below.refl _ _⟩⟩
  · intro i hi
    rcases lt2F hi with rfl | rfl <;> exact ⟨_, rfl, rfl⟩
  · intro i hi
    rcases lt2F hi with rfl | rfl
    · exact ⟨rfl, by decide⟩
    · exact ⟨rfl, by decide⟩
  · intro i hi
    rcases lt2F hi with rfl | rfl
    · exact ⟨by show w.heap.size ≤ w.heap.size + 1; omega, _, m2, rfl, _, _, _, _, _, rfl⟩
    · exact ⟨by show w.heap.size ≤ w.heap.size + 1 + 1; omega, _, m3, rfl, _, _, _, _, _, rfl⟩
  · intro u V hK hu hcs
    obtain ⟨csa, ya, za⟩ := hcs 0 (by decide)
    obtain ⟨csb, yb, zb⟩ := hcs 1 (by decide)
    have fa : PN V (u 1) t1 := (by rw [show u 1 = .agg #[.bool s1, .slice ao1 n1 cp1, .int .i64 e1] from hu 1 (by decide)]; exact mP.keep3 hK hbx2)
    have fb : PN V (u 3) t2 := (by rw [show u 3 = .agg #[.bool s2, .slice ao2 n2 cp2, .int .i64 e2] from hu 3 (by decide)]; exact mQ.keep3 hK hbx2)
    have ya' : u 1 = .agg csa := ya
    have yb' : u 3 = .agg csb := yb
    rw [ya'] at fa
    rw [yb'] at fb
    obtain ⟨sa, aoa, na, cpa, ea, ha⟩ := fa.shape
    obtain ⟨sb, aob, nb, cpb, eb, hb⟩ := fb.shape
    obtain rfl := Value.agg.inj ha
    obtain rfl := Value.agg.inj hb
    have u4 : u 4 = .int .i64 0 := hu 4 (by decide)
    have HX : Hid (V.heap[w.heap.size + 1]? = some (.cells #[.bool sa, .slice aoa na cpa, .int .i64 ea] 28 (0, 0)) ∧ V.heap[w.heap.size + 1 + 1]? = some (.cells #[.bool sb, .slice aob nb cpb, .int .i64 eb] 28 (0, 0)) ∧ PN V (.agg #[.bool sa, .slice aoa na cpa, .int .i64 ea]) t1 ∧ PN V (.agg #[.bool sb, .slice aob nb cpb, .int .i64 eb]) t2 ∧ Below w.heap.size w V) := ⟨za, zb, fa, fb, mB.trans hK.below⟩
    clear hu hcs ya yb za zb ya' yb' fa fb ha hb hK m1 m2 m3 mB m5 mP mQ mg hbx2 ne5 HM
    simp only [putL, List.length_cons, List.length_nil, Nat.reduceAdd, show List.range 5 = [0, 1, 2, 3, 4] from rfl, List.getD_cons_zero, List.getD_cons_succ, List.map_cons, List.map_nil, List.cons_append, List.nil_append, List.foldl_cons, List.foldl_nil, Nat.reduceLT, Nat.reduceMod, Nat.reduceDiv, Nat.reduceMul, Nat.reduceEqDiff, reduceIte, Nat.one_ne_zero, Act.put, List.setIfInBounds_toArray, List.set_cons_zero, List.set_cons_succ]
    rw [u4]
    go_wp2_with fail
    refine bodyPost_ret (results_c2t rfl _ _ (w.heap.size + 1) (w.heap.size + 1 + 1) 28 #[.bool sa, .slice aoa na cpa, .int .i64 ea] #[.bool sb, .slice aob nb cpb, .int .i64 eb] (0, 0) (0, 0) _ rfl rfl HX.out.1 HX.out.2.1 Tryz.underlying28 rfl Tryz.info28 Tryz.info28) rfl ?_
    exact ⟨_, _, _, _, _, _, _, _, _, _, rfl, HX.out.2.2.1, HX.out.2.2.2.1, HX.out.2.2.2.2⟩
set_option maxRecDepth 200000 in
theorem psimp_neg (a b x y : Nat) (t1 t2 t3 : Bool × Nat × Int) (w : World) (hlt : (FloatKind.f64.format.order b 0 == some Ordering.lt) = true)
    (k1 : ∀ W, Below w.heap.size w W → Calls Tryz.prog 21 #[.agg #[.float .f64 a, .float .f64 b]] W fun r w' => r = .returned (.bool true) ∧ Below W.heap.size W w')
    (k2 : ∀ W, Below w.heap.size w W → Calls Tryz.prog 23 #[.agg #[.float .f64 a, .float .f64 b]] W fun r w' => r = .returned (.agg #[.float .f64 x, .float .f64 y]) ∧ Below W.heap.size W w')
    (k3 : ∀ W, Below w.heap.size w W → Calls Tryz.prog 22 #[.agg #[.float .f64 x, .float .f64 y]] W fun r w' => OutFv W t1 t2 r w')
    (k4 : ∀ W X, Below w.heap.size w W → PN W X t1 → Calls Tryz.prog 24 #[X] W fun r w' => OutP W t3 r w') :
    Calls Tryz.prog 5 #[.agg #[.float .f64 a, .float .f64 b]] w fun r w' => Out2N w t3 t2 0 r w' := by
  obtain ⟨W, hW⟩ : ∃ W, W = ((w.alloc (.cells #[.float .f64 a, .float .f64 b] 24)).alloc (.cells #[.bool false, .slice none 0 0, .int .i64 0] 28)).alloc (.cells #[.bool false, .slice none 0 0, .int .i64 0] 28) := ⟨_, rfl⟩
  obtain ⟨hF, hN, hM, hBW⟩ := three_new _ _ _ hW
  have c0 : W.cell? ⟨w.heap.size, 0, none⟩ = some (.float .f64 a) := by simp [World.cell?, hF]
  have c1 : W.cell? ⟨w.heap.size, 1, none⟩ = some (.float .f64 b) := by simp [World.cell?, hF]
  have HF : Hid (W.heap[w.heap.size]? = some (.cells #[.float .f64 a, .float .f64 b] 24 (0, 0)) ∧ W.heap[w.heap.size + 1]? = some (.cells #[.bool false, .slice none 0 0, .int .i64 0] 28 (0, 0)) ∧ W.heap[w.heap.size + 1 + 1]? = some (.cells #[.bool false, .slice none 0 0, .int .i64 0] 28 (0, 0)) ∧ Below w.heap.size w W) := ⟨hF, hN, hM, hBW⟩
  have HK2 : Hid _ := k2
  have HK3 : Hid _ := k3
  have HK4 : Hid _ := k4
  clear k4
  have kk := k1 W hBW
  clear k1 k2 k3 hF hN hM hBW
  go_enter Tryz.func5, Tryz.ntmps5
  go_upto_region 1 with fail
  rw [← hW]
  clear hW
  go_wp2_with fail
  refine kk.mono ?_
  rintro r w1 ⟨rfl, hb1⟩
  clear kk c0 c1
  have HG : Hid (w1.heap[w.heap.size]? = some (.cells #[.float .f64 a, .float .f64 b] 24 (0, 0)) ∧ w1.heap[w.heap.size + 1]? = some (.cells #[.bool false, .slice none 0 0, .int .i64 0] 28 (0, 0)) ∧ w1.heap[w.heap.size + 1 + 1]? = some (.cells #[.bool false, .slice none 0 0, .int .i64 0] 28 (0, 0)) ∧ Below w.heap.size w w1) := ⟨box_later HF.out.1 hb1 (lt_of_box HF.out.1), box_later HF.out.2.1 hb1 (lt_of_box HF.out.2.1), box_later HF.out.2.2.1 hb1 (lt_of_box HF.out.2.2.1), HF.out.2.2.2.trans (hb1.mono HF.out.2.2.2.size)⟩
  have c0 : w1.cell? ⟨w.heap.size, 0, none⟩ = some (.float .f64 a) := by simp [World.cell?, HG.out.1]
  have c1 : w1.cell? ⟨w.heap.size, 1, none⟩ = some (.float .f64 b) := by simp [World.cell?, HG.out.1]
  clear hb1 HF
  have kk := HK2.out w1 HG.out.2.2.2
  go_wp2_with fail
  refine kk.mono ?_
  rintro r w2 ⟨rfl, hb2⟩
  clear kk c0 c1
  have HB2 : Hid (Below w1.heap.size w1 w2) := hb2
  have kk := HK3.out w2 (HG.out.2.2.2.trans (hb2.mono HG.out.2.2.2.size))
  clear hb2
  go_wp2_with fail
  refine kk.mono ?_
  rintro r w3 ⟨U, rfl, hU, hb3⟩
  clear kk
  obtain ⟨s1, ao1, n1, cp1, e1, s2, ao2, n2, cp2, e2, rfl, p1, p2⟩ := hU
  obtain ⟨W4, hW4⟩ : ∃ W4, W4 = w3.alloc (.cells #[.bool s1, .slice ao1 n1 cp1, .int .i64 e1, .bool s2, .slice ao2 n2 cp2, .int .i64 e2] 52) := ⟨_, rfl⟩
  obtain ⟨g5, hg5⟩ : ∃ g, g = w3.heap.size := ⟨_, rfl⟩
  have hb4 : Below w3.heap.size w3 W4 := by rw [hW4]; exact (Below.refl _ _).alloc (Nat.le_refl _) _
  have hb14 : Below w1.heap.size w1 W4 := (HB2.out.trans (hb3.mono HB2.out.size)).trans (hb4.mono (HB2.out.trans (hb3.mono HB2.out.size)).size)
  have HM : Hid (W4.heap[w.heap.size]? = some (.cells #[.float .f64 a, .float .f64 b] 24 (0, 0)) ∧ W4.heap[w.heap.size + 1]? = some (.cells #[.bool false, .slice none 0 0, .int .i64 0] 28 (0, 0)) ∧ W4.heap[w.heap.size + 1 + 1]? = some (.cells #[.bool false, .slice none 0 0, .int .i64 0] 28 (0, 0)) ∧ Below w.heap.size w W4 ∧ W4.heap[g5]? = some (.cells #[.bool s1, .slice ao1 n1 cp1, .int .i64 e1, .bool s2, .slice ao2 n2 cp2, .int .i64 e2] 52 (0, 0)) ∧ PN W4 (.agg #[.bool s1, .slice ao1 n1 cp1, .int .i64 e1]) t1 ∧ PN W4 (.agg #[.bool s2, .slice ao2 n2 cp2, .int .i64 e2]) t2 ∧ w1.heap.size ≤ g5) := ⟨box_later HG.out.1 hb14 (lt_of_box HG.out.1), box_later HG.out.2.1 hb14 (lt_of_box HG.out.2.1), box_later HG.out.2.2.1 hb14 (lt_of_box HG.out.2.2.1), HG.out.2.2.2.trans (hb14.mono HG.out.2.2.2.size), by rw [hW4, hg5]; exact heap_alloc_new _ _, p1.later hb4, p2.later hb4, by rw [hg5]; exact Nat.le_trans HB2.out.size hb3.size⟩
  have c1 : W4.cell? ⟨w.heap.size, 1, none⟩ = some (.float .f64 b) := by simp [World.cell?, HM.out.1]
  have HS : Hid (w.heap.size + 1 + 1 < w1.heap.size) := lt_of_box HG.out.2.2.1
  clear p1 p2 hb3 hb4 hb14 HB2 HG
  rw [hW4] at c1
  go_upto_region 5 with fail
  rw [← hW4, ← hg5]
  clear hW4 hg5 c1
  obtain ⟨m1, m2, m3, mB, m5, mP, mQ, mg⟩ := HM.out
  have hg5 : w.heap.size + 1 + 1 < g5 := by have := HS.out; omega
  have hbx2 : ∀ i, i < 2 → ∃ cs, W4.heap[two (w.heap.size + 1) (w.heap.size + 1 + 1) i]? = some (.cells cs 28 (0, 0)) ∧ NC3 cs := fun i hi => by
    rcases lt2F hi with rfl | rfl
    · exact ⟨_, m2, _, _, _, _, _, rfl⟩
    · exact ⟨_, m3, _, _, _, _, _, rfl⟩
  have ne5 : ∀ i, i < 2 → g5 ≠ two (w.heap.size + 1) (w.heap.size + 1 + 1) i := fun i hi => by
    rcases lt2F hi with rfl | rfl
    · show g5 ≠ w.heap.size + 1; omega
    · show g5 ≠ w.heap.size + 1 + 1; omega
  refine q_region follows_mixed [0, 1, 2, 3, 4, 7] [5, 6] [17, 18, 19, 20, 21, 4] [[], [0], [1], [], [3], []] [[2], [4]] [2, 4] (two 2 3) (two (w.heap.size + 1) (w.heap.size + 1 + 1)) w.heap.size 28 NC3 3 W4 _ [isV (.pointer (some ⟨g5, 0, none⟩)), isV (.agg #[.bool s1, .slice ao1 n1 cp1, .int .i64 e1]), isP t3, isV (.pointer (some ⟨g5, 3, none⟩)), isV (.agg #[.bool s2, .slice ao2 n2 cp2, .int .i64 e2]), isV (.int .i64 0)] (by kernel_rfl) ⟨isV_stays _, isV_stays _, isP_stays _, isV_stays _, isV_stays _, isV_stays _, trivial⟩ ⟨isV_rows _ _ _, isV_rows _ _ _, isP_rows3 _, isV_rows _ _ _, isV_rows _ _ _, isV_rows _ _ _, trivial⟩ (by show ∀ s ∈ [17, 18, 19, 20, 21, 4], s < 26; decide) ?_ ?_ Tryz.info28 ?_ ?_ ?_ (two_inj (by omega)) mB.size ?_
  · intro i hi V u h
    rcases lt2F hi with rfl | rfl
    · exact PN.cells3 (show PN V u t3 from h)
    · obtain rfl : u = _ := h
      exact ⟨_, rfl, rfl, ⟨_, _, _, _, _, rfl⟩, one3 rfl rfl⟩
  · intro j hj o ho act V hK hoth hdep hrd
    have h5 : V.heap[g5]? = some (.cells #[.bool s1, .slice ao1 n1 cp1, .int .i64 e1, .bool s2, .slice ao2 n2 cp2, .int .i64 e2] 52 (0, 0)) := (hK.keep g5 (lt_of_box m5) ne5).trans m5
    have c6 := (cells6F h5).1
    have hp5 : act.tmps[(5 : Nat)]? = some (Value.pointer (some ⟨g5, 0, none⟩)) := (hoth 5 (by decide)).trans rfl
    rcases lt6F hj with rfl | rfl | rfl | rfl | rfl | rfl
    · obtain rfl := Option.some.inj ho
      exact .inl ⟨rfl, owp_run1 (w' := V) (v := _) (by simp [execOp, eval_get hp5, run_fr0]) ⟨_, rfl, rfl, Below.refl _ _⟩⟩
    · obtain rfl := Option.some.inj ho
      obtain ⟨u0, z0, v0⟩ := hdep 0 (by simp [dL])
      obtain rfl : u0 = _ := v0
      have z0' : act.tmps[(17 : Nat)]? = _ := z0
      exact .inl ⟨rfl, owp_run1 (w' := V) (v := .agg #[.bool s1, .slice ao1 n1 cp1, .int .i64 e1]) (by simp [execOp, eval_get z0', run_ldN _ 0 s1 ao1 n1 cp1 e1 V c6.1 c6.2.1 c6.2.2.1]) ⟨_, rfl, rfl, Below.refl _ _⟩⟩
    · obtain rfl := Option.some.inj ho
      obtain ⟨u0, z0, v0⟩ := hdep 1 (by simp [dL])
      obtain rfl : u0 = _ := v0
      have z0' : act.tmps[(18 : Nat)]? = _ := z0
      refine .inl ⟨rfl, owp_call rfl (enters Tryz.func24 (by kernel_rfl) (by kernel_rfl)) (vs := #[.agg #[.bool s1, .slice ao1 n1 cp1, .int .i64 e1]]) (by simp only [List.map_toArray, List.map_cons, List.map_nil]; rw [eval_get z0']) ?_⟩
      refine (HK4.out V _ (mB.trans hK.below) (mP.keep3 hK hbx2)).mono ?_
      rintro r w' ⟨s', ao', n', cap', e', rfl, hP, hb'⟩
      exact ⟨_, rfl, _, rfl, hP, hb'⟩
    · obtain rfl := Option.some.inj ho
      exact .inl ⟨rfl, owp_run1 (w' := V) (v := _) (by simp [execOp, eval_get hp5, run_fr1]) ⟨_, rfl, rfl, Below.refl _ _⟩⟩
    · obtain rfl := Option.some.inj ho
      obtain ⟨u0, z0, v0⟩ := hdep 3 (by simp [dL])
      obtain rfl : u0 = _ := v0
      have z0' : act.tmps[(20 : Nat)]? = _ := z0
      exact .inl ⟨rfl, owp_run1 (w' := V) (v := .agg #[.bool s2, .slice ao2 n2 cp2, .int .i64 e2]) (by simp [execOp, eval_get z0', run_ldN _ 3 s2 ao2 n2 cp2 e2 V c6.2.2.2.1 c6.2.2.2.2.1 c6.2.2.2.2.2]) ⟨_, rfl, rfl, Below.refl _ _⟩⟩
    · obtain rfl := Option.some.inj ho
      exact .inl ⟨rfl, owp_run1 (w' := V) (v := .int .i64 0) (by simp [execOp, Act.eval]) ⟨_, rfl, rfl, Below.refl _ _⟩⟩
  · intro i hi
    rcases lt2F hi with rfl | rfl <;> exact ⟨_, rfl, rfl⟩
  · intro i hi
    rcases lt2F hi with rfl | rfl
    · exact ⟨rfl, by decide⟩
    · exact ⟨rfl, by decide⟩
  · intro i hi
    rcases lt2F hi with rfl | rfl
    · exact ⟨by show w.heap.size ≤ w.heap.size + 1; omega, _, m2, rfl, _, _, _, _, _, rfl⟩
    · exact ⟨by show w.heap.size ≤ w.heap.size + 1 + 1; omega, _, m3, rfl, _, _, _, _, _, rfl⟩
  · intro u V hK hu hcs
    obtain ⟨csa, ya, za⟩ := hcs 0 (by decide)
    obtain ⟨csb, yb, zb⟩ := hcs 1 (by decide)
    have fa : PN V (u 2) t3 := hu 2 (by decide)
    have fb : PN V (u 4) t2 := (by rw [show u 4 = .agg #[.bool s2, .slice ao2 n2 cp2, .int .i64 e2] from hu 4 (by decide)]; exact mQ.keep3 hK hbx2)
    have ya' : u 2 = .agg csa := ya
    have yb' : u 4 = .agg csb := yb
    rw [ya'] at fa
    rw [yb'] at fb
    obtain ⟨sa, aoa, na, cpa, ea, ha⟩ := fa.shape
    obtain ⟨sb, aob, nb, cpb, eb, hb⟩ := fb.shape
    obtain rfl := Value.agg.inj ha
    obtain rfl := Value.agg.inj hb
    have u4 : u 5 = .int .i64 0 := hu 5 (by decide)
    have HX : Hid (V.heap[w.heap.size + 1]? = some (.cells #[.bool sa, .slice aoa na cpa, .int .i64 ea] 28 (0, 0)) ∧ V.heap[w.heap.size + 1 + 1]? = some (.cells #[.bool sb, .slice aob nb cpb, .int .i64 eb] 28 (0, 0)) ∧ PN V (.agg #[.bool sa, .slice aoa na cpa, .int .i64 ea]) t3 ∧ PN V (.agg #[.bool sb, .slice aob nb cpb, .int .i64 eb]) t2 ∧ Below w.heap.size w V) := ⟨za, zb, fa, fb, mB.trans hK.below⟩
    clear hu hcs ya yb za zb ya' yb' fa fb ha hb hK m1 m2 m3 mB m5 mP mQ mg hbx2 ne5 HM
    simp only [putL, List.length_cons, List.length_nil, Nat.reduceAdd, show List.range 6 = [0, 1, 2, 3, 4, 5] from rfl, List.getD_cons_zero, List.getD_cons_succ, List.map_cons, List.map_nil, List.cons_append, List.nil_append, List.foldl_cons, List.foldl_nil, Nat.reduceLT, Nat.reduceMod, Nat.reduceDiv, Nat.reduceMul, Nat.reduceEqDiff, reduceIte, Nat.one_ne_zero, Act.put, List.setIfInBounds_toArray, List.set_cons_zero, List.set_cons_succ]
    rw [u4]
    go_wp2_with fail
    refine bodyPost_ret (results_c2t rfl _ _ (w.heap.size + 1) (w.heap.size + 1 + 1) 28 #[.bool sa, .slice aoa na cpa, .int .i64 ea] #[.bool sb, .slice aob nb cpb, .int .i64 eb] (0, 0) (0, 0) _ rfl rfl HX.out.1 HX.out.2.1 Tryz.underlying28 rfl Tryz.info28 Tryz.info28) rfl ?_
    exact ⟨_, _, _, _, _, _, _, _, _, _, rfl, HX.out.2.2.1, HX.out.2.2.2.1, HX.out.2.2.2.2⟩
attribute [local go_sem] run_store_flt
attribute [local go_sem] run_store_flt
attribute [local go_sem] run_store_flt
attribute [local go_sem] run_store_flt
theorem sturned (a b : Nat) (w : World) (ha : a < 18446744073709551616) (hb : b < 18446744073709551616) :
    Calls Tryz.prog 63 #[.agg #[.float .f64 a, .float .f64 b]] w fun r w' => r = .returned (.agg #[.float .f64 (pl (ngt b)), .float .f64 (pl (ngt a))]) ∧ Below w.heap.size w w' := by
  have n1 : ∀ w, (Op.unary UnOp.neg (.float .f64 a)).run Tryz.prog w = .ok (.float .f64 (ngt a)) w := fun w => by rw [← negF a ha]; rfl
  have n2 : ∀ w, (Op.unary UnOp.neg (.float .f64 b)).run Tryz.prog w = .ok (.float .f64 (ngt b)) w := fun w => by rw [← negF b hb]; rfl
  have k := fun W => sbetween (ngt b) (ngt a) W (ngt_lt hb) (ngt_lt ha)
  generalize pl (ngt a) = A at *
  generalize pl (ngt b) = C at *
  obtain ⟨W, hW⟩ : ∃ W, W = ((w.alloc (.cells #[.float .f64 a, .float .f64 b] 24)).alloc (.cells #[.float .f64 0, .float .f64 0] 24)) := ⟨_, rfl⟩
  have HX : Hid (Below w.heap.size w W ∧ IvB W (w.heap.size) a b ∧ IvB W (w.heap.size + 1) 0 0) := by
    rw [hW]
    exact ⟨bxs2_0 w a b 0 0, bxs2_1 w a b 0 0, bxs2_2 w a b 0 0⟩
  have HK : Hid (∀ w', Below W.heap.size W w' → IvF w' (w.heap.size) a b ∧ IvF w' (w.heap.size + 1) 0 0) := fun w' hb => ⟨(HX.out.2.1).later hb, (HX.out.2.2).later hb⟩
  obtain ⟨⟨c0, c1, z0, z1⟩, ⟨c2, c3, z2, z3⟩⟩ := HK.out W (Below.refl _ _)
  have kk := k W
  clear k ha hb
  go_enter Tryz.func63, Tryz.ntmps63
  go_upto_region 1 with fail
  rw [← hW]
  clear hW
  go_wp2_with fail
  refine kk.mono ?_
  rintro r w1 ⟨rfl, hb1⟩
  clear kk c0 c1 c2 c3 z0 z1 z2 z3
  obtain ⟨⟨c0, c1, z0, z1⟩, ⟨c2, c3, z2, z3⟩⟩ := HK.out w1 hb1
  have HB : Hid (Below w.heap.size w w1) := HX.out.1.trans (hb1.mono HX.out.1.size)
  have HR : Hid (IvB w1 (w.heap.size + 1) 0 0) := HX.out.2.2.box hb1
  clear hb1 HK HX n1 n2
  go_wp2
  refine bodyPost_ret (results_cell_row rfl _ _ (w.heap.size + 1) 24 #[.float .f64 C, .float .f64 A] (0, 0) _ rfl (HR.out.set _ _) Tryz.underlying24 rfl iv_info) rfl ?_
  exact ⟨rfl, below_store2 HB.out (by omega) _ _⟩
theorem smag_1 (a b x y m : Nat) (p q : Bool) (w : World) (o1 : (FloatKind.f64.format.order a 0 == some Ordering.gt || FloatKind.f64.format.order a 0 == some Ordering.eq) = p) (o2 : (FloatKind.f64.format.order b 0 == some Ordering.lt || FloatKind.f64.format.order b 0 == some Ordering.eq) = q)
    (n1 : ∀ w, (Op.unary UnOp.neg (.float .f64 a)).run Tryz.prog w = .ok (.float .f64 (ngt a)) w)
    (hm : p = false → q = false → ∀ W ts t, (Builtin.max_ ts t #[.float .f64 (ngt a), .float .f64 b]).run Tryz.prog W = .ok (.float .f64 m) W)
    (k : ∀ W, Calls Tryz.prog 63 #[.agg #[.float .f64 a, .float .f64 b]] W fun r w' => r = .returned (.agg #[.float .f64 x, .float .f64 y]) ∧ Below W.heap.size W w') :
    Calls Tryz.prog 23 #[.agg #[.float .f64 a, .float .f64 b]] w fun r w' => r = .returned (if p then .agg #[.float .f64 a, .float .f64 b] else if q then .agg #[.float .f64 x, .float .f64 y] else .agg #[.float .f64 0, .float .f64 m]) ∧ Below w.heap.size w w' := by
  generalize hR : (if p then .agg #[.float .f64 a, .float .f64 b] else if q then .agg #[.float .f64 x, .float .f64 y] else .agg #[.float .f64 0, .float .f64 m] : Value) = R
  have HRV : Hid ((if p then .agg #[.float .f64 a, .float .f64 b] else if q then .agg #[.float .f64 x, .float .f64 y] else .agg #[.float .f64 0, .float .f64 m] : Value) = R) := hR
  clear hR
  have HM : Hid (p = false → q = false → ∀ W ts t, (Builtin.max_ ts t #[.float .f64 (ngt a), .float .f64 b]).run Tryz.prog W = .ok (.float .f64 m) W) := hm
  obtain ⟨W, hW⟩ : ∃ W, W = ((w.alloc (.cells #[.float .f64 a, .float .f64 b] 24)).alloc (.cells #[.float .f64 0, .float .f64 0] 24)) := ⟨_, rfl⟩
  have HX : Hid (Below w.heap.size w W ∧ IvB W (w.heap.size) a b ∧ IvB W (w.heap.size + 1) 0 0) := by
    rw [hW]
    exact ⟨bxs2_0 w a b 0 0, bxs2_1 w a b 0 0, bxs2_2 w a b 0 0⟩
  have HK : Hid (∀ w', Below W.heap.size W w' → IvF w' (w.heap.size) a b ∧ IvF w' (w.heap.size + 1) 0 0) := fun w' hb => ⟨(HX.out.2.1).later hb, (HX.out.2.2).later hb⟩
  obtain ⟨⟨c0, c1, z0, z1⟩, ⟨c2, c3, z2, z3⟩⟩ := HK.out W (Below.refl _ _)
  have kk := k W
  clear k hm
  go_enter Tryz.func23, Tryz.ntmps23
  go_upto_region 1 with fail
  rw [← hW]
  clear hW
  cases p
  · cases q
    · have hm := HM.out rfl rfl
      have HR : Hid (IvB W (w.heap.size + 1) 0 0) := HX.out.2.2
      go_wp2
      refine bodyPost_ret (results_cell_row rfl _ _ (w.heap.size + 1) 24 #[.float .f64 0, .float .f64 m] (0, 0) _ rfl (HR.out.set _ _) Tryz.underlying24 rfl iv_info) rfl ?_
      exact ⟨congrArg Ending.returned HRV.out, below_store2 HX.out.1 (by omega) _ _⟩
    · clear HM
      go_wp2_with fail
      refine kk.mono ?_
      rintro r w1 ⟨rfl, hb1⟩
      clear kk c0 c1 c2 c3 z0 z1 z2 z3
      obtain ⟨⟨c0, c1, z0, z1⟩, ⟨c2, c3, z2, z3⟩⟩ := HK.out w1 hb1
      have HB : Hid (Below w.heap.size w w1) := HX.out.1.trans (hb1.mono HX.out.1.size)
      have HR : Hid (IvB w1 (w.heap.size + 1) 0 0) := HX.out.2.2.box hb1
      clear hb1 HK HX
      go_wp2
      refine bodyPost_ret (results_cell_row rfl _ _ (w.heap.size + 1) 24 #[.float .f64 x, .float .f64 y] (0, 0) _ rfl (HR.out.set _ _) Tryz.underlying24 rfl iv_info) rfl ?_
      exact ⟨congrArg Ending.returned HRV.out, below_store2 HB.out (by omega) _ _⟩
  · clear HM
    have HR : Hid (IvB W (w.heap.size + 1) 0 0) := HX.out.2.2
    go_wp2
    refine bodyPost_ret (results_cell_row rfl _ _ (w.heap.size + 1) 24 #[.float .f64 a, .float .f64 b] (0, 0) _ rfl (HR.out.set _ _) Tryz.underlying24 rfl iv_info) rfl ?_
    exact ⟨congrArg Ending.returned HRV.out, below_store2 HX.out.1 (by omega) _ _⟩
theorem tF_zero8 {a : Nat} (h : mag a = 0) : tF a = (false, 0, 0) := by
  obtain ⟨-, -, -, f4, -⟩ := (tF_ok a).facts
  refine f4 ?_
  unfold tF cn
  have hm : Ie.mant a = 0 := by
    have e := (val_mant a (by omega)).1
    rw [h, val_zero] at e
    have hp := Nat.two_pow_pos (Ie.lp a + 1074).toNat
    rcases Nat.mul_eq_zero.1 e.symm with h | h
    · exact h
    · omega
  rw [if_pos hm]
theorem cmpI_neg_iff (x y : Int) : (cmpI x y < 0 ↔ x < y) ∧ (0 < cmpI x y ↔ y < x) := by
  unfold cmpI
  constructor
  · split
    · omega
    · split <;> omega
  · split
    · omega
    · split <;> omega
theorem vz_tF8 {a : Nat} (ha : a < 18446744073709551616) (hf : mag a < 9218868437227405312) : vz 5000000 (tF a).1 (tF a).2.1 (tF a).2.2 = vz 5000000 (nN a) (nM a) (Ie.sE a) := by
  obtain ⟨M, hM, hl⟩ := sM_lt a ha
  have hc := cn_parts a M ha hf hM
  have hn : nM a = M := by unfold nM; rw [hM]; rfl
  have hb : 0 ≤ Ie.sE a + (5000000 : Nat) := by
    have := (sE_le a).1
    omega
  rw [← hc, vz_cn hb, hn]
  unfold nN
  by_cases h0 : mag a = 0
  · have : M = 0 := by
      rcases of_parts a M ha hf hM with ⟨h1, h2⟩ | ⟨h1, h2, -, h3, h4⟩
      · omega
      · exfalso
        have e := tF_zero8 h0
        rw [← hc] at e
        unfold cn at e
        by_cases hM0 : M = 0
        · omega
        · rw [if_neg hM0] at e
          have e2 : M / 2 ^ tz M = 0 := congrArg (fun t => t.2.1) e
          have hs := tz_spec M M (Nat.le_refl _) hM0
          rw [e2] at hs
          have := hs.1
          omega
    subst this
    unfold vz
    rw [sv_zero, sv_zero]
  · rw [if_neg h0]
theorem tF_e5000000 (a : Nat) : 0 ≤ (tF a).2.2 + (5000000 : Nat) := by
  obtain ⟨f1, f2, f3, f4, f5⟩ := (tF_ok a).facts
  omega
theorem sE_e5000000 {a : Nat} (ha : a < 18446744073709551616) (hf : mag a < 9218868437227405312) : 0 ≤ Ie.sE a + (5000000 : Nat) := by
  have := (sE_le a).1
  omega
theorem ord_tF8 {a b : Nat} (ha : a < 18446744073709551616) (hb : b < 18446744073709551616) (fa : mag a < 9218868437227405312) (fb : mag b < 9218868437227405312) :
    ordN (tF a).1 (tF a).2.1 (tF a).2.2 (tF b).1 (tF b).2.1 (tF b).2.2 = cmpI (stp a) (stp b) := by
  rw [ordN_vz (tF_e5000000 a) (tF_e5000000 b), vz_tF8 ha fa, vz_tF8 hb fb, ← ordN_vz (sE_e5000000 ha fa) (sE_e5000000 hb fb)]
  exact ord_num fa fb
attribute [local go_sem] run_store_flt
def mgX (a b : Nat) : Nat := if le 0 a then a else if le b 0 then pl (ngt b) else 0
def mgY (a b : Nat) : Nat := if le 0 a then b else if le b 0 then pl (ngt a) else fMax (ngt a) b
theorem smag (a b : Nat) (w : World) (ha : a < 18446744073709551616) (hb : b < 18446744073709551616) (na : isNaN a = false) (nb : isNaN b = false) :
    Calls Tryz.prog 23 #[.agg #[.float .f64 a, .float .f64 b]] w fun r w' => r = .returned (.agg #[.float .f64 (mgX a b), .float .f64 (mgY a b)]) ∧ Below w.heap.size w w' := by
  have k := smag_1 a b (pl (ngt b)) (pl (ngt a)) (fMax (ngt a) b) (le 0 a) (le b 0) w (ord_ge a 0 ha (by omega)) (ord_le b 0 hb (by omega)) (fun w => by rw [← negF a ha]; rfl) (fun _ _ W ts t => run_fmax W ts t _ _ (ngt_lt ha) hb (by rw [ngt_nan8 ha]; exact na) nb) (fun W => sturned a b W ha hb)
  unfold mgX mgY
  cases h1 : le 0 a
  · cases h2 : le b 0
    · rw [h1, h2] at k; exact k
    · rw [h1, h2] at k; exact k
  · rw [h1] at k; exact k
theorem gcutE {a : Int} {p r bA : Nat} {X : Value} {w : World} (ha : a.natAbs < 2 ^ bA) (hbA : bA ≤ 90000) (hp : p ≤ 90000) (hr : r ≤ p) (h1 : DN w X (un a p)) :
    Calls Tryz.prog 19 #[X, .int .i64 r] w fun res w' => ∃ A ex, res = .returned (.tuple #[A, .bool ex]) ∧ (¬ ((2 ^ (p - r) : Nat) : Int) ∣ a → ex = false) ∧ DN w' A (un (a / ((2 ^ (p - r) : Nat) : Int)) r) ∧ Below w.heap.size w w' := by
  obtain ⟨ao, cap, rfl, a1⟩ := h1
  have ea := un_e (p := p) ha
  have la := dlen_two9 (un_small (p := p) ha)
  by_cases a0 : a = 0
  · subst a0
    rw [un_zero, Int.zero_ediv, un_zero, dlen_zero] at *
    refine (rcut_z false ao 0 cap 0 (r : Int) w (by decide) (by decide) (by omega) (by omega)).mono ?_
    rintro res w' ⟨rfl, hb⟩
    exact ⟨_, _, rfl, (fun h => absurd (Int.dvd_zero _) h), ⟨ao, cap, by rw [dlen_zero], by rw [dlen_zero]; exact a1.later hb⟩, hb⟩
  · have hx0 : (un a p).2.1 ≠ 0 := fun h => a0 (un_sign.2.1 h)
    obtain ⟨pa1, pa2, pa3⟩ := un_parts (a := a) (p := p) a0
    have hodd : (un a p).2.1 % 2 = 1 := by
      unfold un cn
      rw [if_neg (by omega)]
      exact (tz_spec a.natAbs a.natAbs (Nat.le_refl _) (by omega)).2
    have hd0 : dlen (un a p).2.1 ≠ 0 := fun e => hx0 (dlen_eq_zero.1 e)
    have e2r : (2 : Nat) ^ (p - r) > 0 := Nat.two_pow_pos _
    rcases Int.lt_or_le 0 (-(r : Int) - (un a p).2.2) with hk | hk
    · obtain ⟨k, hk'⟩ : ∃ k : Nat, -(r : Int) - (un a p).2.2 = k := ⟨(-(r : Int) - (un a p).2.2).toNat, by omega⟩
      have hpr : p - r = tz a.natAbs + k := by omega
      have hdiv : a.natAbs / 2 ^ (p - r) = (un a p).2.1 / 2 ^ k := by
        rw [hpr, Nat.pow_add]
        generalize tz a.natAbs = t at *
        rw [← pa2, ← Nat.div_div_eq_div_mul, Nat.mul_div_cancel _ (Nat.two_pow_pos _)]
      by_cases hneg : a < 0
      · rw [show (un a p).1 = true by rw [pa1]; exact decide_eq_true hneg]
        refine (rcut_n ao cap (un a p).2.1 k (un a p).2.2 (r : Int) w a1.at_ a1.le hx0 (by omega) (by omega) (by omega) (by omega) (by omega) hk' (by omega) (by omega)).mono ?_
        rintro res w' ⟨A, e, hN, hb⟩
        refine ⟨A, _, e, fun _ => rfl, ?_, hb⟩
        have hd := hN.dn
        have key : cn true ((un a p).2.1 / 2 ^ k + 1) (-(r : Int)) = un (a / ((2 ^ (p - r) : Nat) : Int)) r := by
          refine un_eq (K := r) (Nat.le_refl _) (by omega) ?_
          unfold vz
          rw [show (-(r : Int) + (r : Int)).toNat = 0 by omega, Nat.sub_self, Nat.pow_zero]
          have ea2 : a = -((a.natAbs : Nat) : Int) := by omega
          have hm : a.natAbs % 2 ^ (p - r) ≠ 0 := fun h => by
            have h3 : 2 ^ (tz a.natAbs + k) ∣ (un a p).2.1 * 2 ^ tz a.natAbs := by rw [pa2, ← hpr]; exact Nat.dvd_of_mod_eq_zero h
            rw [Nat.add_comm, Nat.pow_add] at h3
            have h4 := Nat.dvd_of_mul_dvd_mul_right (Nat.two_pow_pos _) h3
            have h5 : 2 ∣ (un a p).2.1 := Nat.dvd_trans (⟨2 ^ (k - 1), by rw [Nat.mul_comm, ← Nat.pow_succ]; congr 1; omega⟩) h4
            omega
          conv => rhs; rw [ea2]
          rw [fl_neg e2r, if_neg hm, hdiv]
          simp [sv]
        rw [← key]; exact hd
      · rw [show (un a p).1 = false by rw [pa1]; exact decide_eq_false hneg]
        refine (rcut_p ao cap (un a p).2.1 k (un a p).2.2 (r : Int) w a1.at_ a1.le hx0 (by omega) (by omega) (by omega) (by omega) (by omega) hk' (by omega) (by omega)).mono ?_
        rintro res w' ⟨A, e, hN, hb⟩
        refine ⟨A, _, e, fun _ => rfl, ?_, hb⟩
        have hd := hN.dn
        have key : cn false ((un a p).2.1 / 2 ^ k) (-(r : Int)) = un (a / ((2 ^ (p - r) : Nat) : Int)) r := by
          refine un_eq (K := r) (Nat.le_refl _) (by omega) ?_
          unfold vz
          rw [show (-(r : Int) + (r : Int)).toNat = 0 by omega, Nat.sub_self, Nat.pow_zero]
          have ea2 : a = ((a.natAbs : Nat) : Int) := by omega
          conv => rhs; rw [ea2]
          rw [fl_pos, hdiv]
          simp [sv]
        rw [← key]; exact hd
    · refine (rcut_w (un a p).1 ao (dlen (un a p).2.1) cap (un a p).2.2 (r : Int) w (by omega) (by omega) (by omega) (by omega) (by rw [beq_eq_false_iff_ne]; omega) (by omega) (by omega)).mono ?_
      rintro res w' ⟨rfl, hb⟩
      have hdv0 : ((2 ^ (p - r) : Nat) : Int) ∣ a := by
        rw [Int.ofNat_dvd_left]
        rw [← pa2]
        exact Nat.dvd_trans (Nat.pow_dvd_pow 2 (by omega)) (Nat.dvd_mul_left _ _)
      refine ⟨_, _, rfl, (fun h => absurd hdv0 h), ?_, hb⟩
      have key : un a p = un (a / ((2 ^ (p - r) : Nat) : Int)) r := by
        conv => lhs; rw [show un a p = cn (un a p).1 (un a p).2.1 (un a p).2.2 from (cn_idem _ _ _).symm]
        refine un_eq (K := p) hr (by omega) ?_
        rw [vz_un a (Nat.le_refl _), Nat.sub_self, Nat.pow_zero]
        have hdv : ((2 ^ (p - r) : Nat) : Int) ∣ a := by
          rw [Int.ofNat_dvd_left]
          rw [← pa2]
          exact Nat.dvd_trans (Nat.pow_dvd_pow 2 (by omega)) (Nat.dvd_mul_left _ _)
        rw [Int.ediv_mul_cancel hdv]
        simp
      rw [← key]
      exact ⟨ao, cap, rfl, a1.later hb⟩
def sU (a : Nat) : Int := if neg a then -((fU a : Nat) : Int) else ((fU a : Nat) : Int)
theorem tF_sU (a : Nat) : tF a = un (sU a) 1074 := by
  have hl := (Ie.lp_bound a).1
  unfold tF
  refine un_eq (K := 1074) (Nat.le_refl _) (by omega) ?_
  unfold sU vz sv fU
  rw [Nat.sub_self, Nat.pow_zero, Int.natCast_mul]
  cases neg a
  · simp
  · simp [Int.neg_mul]
def bU : Nat := 2200
theorem fU_lt (a : Nat) : fU a < 2 ^ bU := by
  unfold fU
  have h1 := Ie.mant_bound a
  have h2 := (Ie.lp_bound a).2
  obtain ⟨e, he⟩ : ∃ e, e = (Ie.lp a + 1074).toNat := ⟨_, rfl⟩
  rw [← he]
  have h3 : Ie.mant a < 2 ^ 53 := by omega
  have h4 : Ie.mant a * 2 ^ e < 2 ^ 53 * 2 ^ e := Nat.mul_lt_mul_of_pos_right h3 (Nat.two_pow_pos _)
  rw [← Nat.pow_add] at h4
  exact Nat.lt_of_lt_of_le h4 (Nat.pow_le_pow_right (by decide) (by unfold bU; omega))
theorem sU_lt (a : Nat) : (sU a).natAbs < 2 ^ bU := by
  have := fU_lt a
  unfold sU
  split
  · rw [Int.natAbs_neg, Int.natAbs_natCast]; exact this
  · rw [Int.natAbs_natCast]; exact this
def pU (n : Nat) : Nat := 2 ^ n
theorem pU_pos (n : Nat) : 0 < pU n := Nat.two_pow_pos n
def kU : Nat := pU 1074
theorem kU_pos : 0 < kU := pU_pos 1074
theorem pU_lt {n m : Nat} (h : n < m) : pU n < 2 ^ m := Nat.pow_lt_pow_right (by decide) h
theorem kU_lt : kU < 2 ^ bU := pU_lt (by unfold bU; decide)
theorem un_pU (Z : Int) (n : Nat) : un Z 0 = un (Z * (pU n : Int)) n := by
  have h := vz_un (K := n) (p := 0) Z (by omega)
  have e1 := (un_e (p := 0) (Nat.lt_two_pow_self (n := Z.natAbs))).2.2
  conv => lhs; rw [show un Z 0 = cn (un Z 0).1 (un Z 0).2.1 (un Z 0).2.2 from (cn_idem _ _ _).symm]
  refine un_eq (K := n) (Nat.le_refl _) (by omega) ?_
  rw [h, Nat.sub_self, Nat.pow_zero, Nat.sub_zero]
  unfold pU
  simp
theorem un_kU (Z : Int) : un Z 0 = un (Z * (kU : Int)) 1074 := un_pU Z 1074
attribute [local go_sem] run_store_flt
attribute [local go_sem] run_store_flt
attribute [local go_sem] run_store_flt
attribute [local go_sem] run_store_flt
attribute [local go_sem] run_store_flt
def V8 (t : Bool × Nat × Int) : Int := vz 5000000 t.1 t.2.1 t.2.2
theorem V8_cmp {a b : Nat} (ha : a < 18446744073709551616) (hb : b < 18446744073709551616) (fa : mag a < 9218868437227405312) (fb : mag b < 9218868437227405312) : V8 (tF a) ≤ V8 (tF b) ↔ stp a ≤ stp b := by
  have k := ord_tF8 ha hb fa fb
  rw [ordN_vz (tF_e5000000 a) (tF_e5000000 b)] at k
  have h1 := (cmpI_neg_iff (V8 (tF a)) (V8 (tF b))).2
  have h2 := (cmpI_neg_iff (stp a) (stp b)).2
  have k : cmpI (V8 (tF a)) (V8 (tF b)) = cmpI (stp a) (stp b) := k
  rw [k] at h1
  constructor
  · intro h
    by_cases h' : stp a ≤ stp b
    · exact h'
    · have := h1.1 (h2.2 (by omega)); omega
  · intro h
    by_cases h' : V8 (tF a) ≤ V8 (tF b)
    · exact h'
    · have := h2.1 (h1.2 (by omega)); omega
theorem un_le_of {K p : Nat} {a b : Int} (hp : p ≤ K) (h : vz K (un a p).1 (un a p).2.1 (un a p).2.2 ≤ vz K (un b p).1 (un b p).2.1 (un b p).2.2) : a ≤ b := by
  rw [vz_un a hp, vz_un b hp] at h
  exact Int.le_of_mul_le_mul_right h (by exact_mod_cast Nat.two_pow_pos (K - p))
theorem sU_le {a b : Nat} (ha : a < 18446744073709551616) (hb : b < 18446744073709551616) (fa : mag a < 9218868437227405312) (fb : mag b < 9218868437227405312) (h : stp a ≤ stp b) : sU a ≤ sU b := by
  have h1 := (V8_cmp ha hb fa fb).2 h
  unfold V8 at h1
  rw [tF_sU a, tF_sU b] at h1
  exact un_le_of (by omega) h1
theorem sU_pos {a : Nat} (h : neg a = false) : sU a = (fU a : Int) := by unfold sU; rw [h]; rfl
theorem sU_neg {a : Nat} (h : neg a = true) : sU a = -(fU a : Int) := by unfold sU; rw [h]; rfl
def cU (y : Nat) : Nat := if mag y < 9218868437227405312 then fU y else kU
def dU (y : Nat) : Nat := if mag y < 9218868437227405312 then kU else 0
theorem fracOf_un {y : Nat} (hy : y < 18446744073709551616) (hn : neg y = false) (hm : mag y ≤ 9218868437227405312) {W : World} (hT : Tab32 W) (hJ : Ie.Tab W) :
    Calls Tryz.prog 56 #[.float .f64 y] W fun r w' => OutFv W (un (cU y : Int) 1074) (un (dU y : Int) 1074) r w' := by
  have kw : ∀ V, Below W.heap.size W V → Calls Tryz.prog 57 #[.int .i64 1] V fun r w' => OutP V (un (kU : Int) 1074) r w' := fun V hV => by
    have h := whole_pn (n := 1) (hT.later hV) (by omega)
    rw [un_kU, Int.one_mul] at h
    exact h
  unfold cU dU
  by_cases hf : mag y < 9218868437227405312
  · rw [if_pos hf, if_pos hf]
    have ht : tF y = un (fU y : Int) 1074 := tF_un hn (Ie.lp_bound y).1
    exact fracOf_fin y _ _ W (fun V hV => by
      have h := ofN y hy hf V (hT.later hV) (Tab.later hJ hV)
      rw [ht] at h
      exact h) kw
  · rw [if_neg hf, if_neg hf]
    have h0 : un ((0 : Nat) : Int) 1074 = nilN := un_0 1074
    rw [h0]
    exact fracOf_inf y 5 (by omega) _ W (fun V hV => of_inf y hy V (Tab.later hJ hV) (by omega)) kw
theorem simp_un {x y P Q : Nat} (hx : x < 18446744073709551616) (hy : y < 18446744073709551616) (nx : neg x = false) (fx : mag x < 9218868437227405312) (ny : neg y = false) (my : mag y ≤ 9218868437227405312) (hle : fU x * dU y ≤ cU y * kU) (hS : Smp (fU x) kU (cU y) (dU y) P Q) {W : World} (hT : Tab32 W) (hJ : Ie.Tab W) :
    Calls Tryz.prog 22 #[.agg #[.float .f64 x, .float .f64 y]] W fun r w' => OutFv W (un (P : Int) 0) (un (Q : Int) 0) r w' := by
  have hc : cU y < 2 ^ bU := by unfold cU; split; exact fU_lt y; exact kU_lt
  have hd : dU y < 2 ^ bU := by unfold dU; split; exact kU_lt; exact Nat.two_pow_pos _
  have hX : 2 ^ bU - 1 < 2 ^ bU := by have := Nat.two_pow_pos bU; omega
  have e1 : cU x = fU x := by unfold cU; rw [if_pos fx]
  have e2 : dU x = kU := by unfold dU; rw [if_pos fx]
  have f1 := fU_lt x
  have f2 := kU_lt
  refine simp_1 x y (fU x) kU (cU y) (dU y) (2 ^ bU - 1) P Q bU W hT hX (by unfold bU; omega) (SI.start kU_pos hle (by omega) (by omega) (by omega) (by omega) hS) (fun V hV => ?_) (fun V hV => fracOf_un hy ny my (hT.later hV) (Tab.later hJ hV)) (fun V hV => whole_pn (n := 1) (hT.later hV) (by omega))
  have h := fracOf_un hx nx (Nat.le_of_lt fx) (hT.later hV) (Tab.later hJ hV)
  rw [e1, e2] at h
  exact h
structure SV (a b : Nat) (P : Int) (Q : Nat) : Prop where
  q0 : 0 < Q
  qk : Q ≤ kU
  pk : P.natAbs < 2 ^ bU
  lo : mag a < 9218868437227405312 → sU a * Q ≤ P * kU
  hi : mag b < 9218868437227405312 → P * kU ≤ sU b * Q
  mn : ∀ n : Nat, 1 ≤ n → n < Q → mag a < 9218868437227405312 ∧ mag b < 9218868437227405312 ∧ ∀ m : Int, sU a * n ≤ m * kU → ¬ m * kU ≤ sU b * n
theorem smp_end {a b c p q : Nat} (h : Smp a b c 0 p q) : q = 1 := by
  cases h with
  | whole _ _ => rfl
  | above _ _ _ => rfl
  | more _ _ h1 _ => rw [Nat.mul_zero] at h1; omega
theorem smp_sv {x y P Q : Nat} (hle : fU x * dU y ≤ cU y * kU) (hS : Smp (fU x) kU (cU y) (dU y) P Q) : 0 < Q ∧ Q ≤ kU ∧ P < 2 ^ bU ∧ ((fU x : Int) * Q ≤ (P : Int) * kU) ∧ (mag y < 9218868437227405312 → (P : Int) * kU ≤ (fU y : Int) * Q) ∧ ∀ n : Nat, 1 ≤ n → n < Q → mag y < 9218868437227405312 ∧ ∀ m : Int, (fU x : Int) * n ≤ m * kU → ¬ m * kU ≤ (fU y : Int) * n := by
  have h1 := smp_pos hS hle
  have h2 := smp_le hS hle
  obtain ⟨⟨h3, h4⟩, h5⟩ := smp_in hS hle
  have cd : mag y < 9218868437227405312 → cU y = fU y ∧ dU y = kU := fun hf => by unfold cU dU; rw [if_pos hf, if_pos hf]; exact ⟨rfl, rfl⟩
  refine ⟨h1.1, h2.1.2, Nat.lt_of_le_of_lt h2.1.1 (fU_lt x), by exact_mod_cast h3, fun hf => ?_, fun n hn hq => ?_⟩
  · rw [(cd hf).1, (cd hf).2] at h4
    exact_mod_cast h4
  · by_cases hf : mag y < 9218868437227405312
    · refine ⟨hf, fun m g1 g2 => ?_⟩
      rw [(cd hf).1, (cd hf).2] at h5
      have hm : 0 ≤ m := by
        have : (0 : Int) ≤ m * kU := Int.le_trans (Int.mul_nonneg (Int.natCast_nonneg _) (Int.natCast_nonneg _)) g1
        exact Int.nonneg_of_mul_nonneg_left this (by exact_mod_cast kU_pos)
      obtain ⟨m', rfl⟩ := Int.eq_ofNat_of_zero_le hm
      have := (h5 m' n hn (by exact_mod_cast g1) (by exact_mod_cast g2)).2
      omega
    · have : dU y = 0 := by unfold dU; rw [if_neg hf]
      rw [this] at hS
      have := smp_end hS
      omega
theorem pneg_un {Z : Int} {b : Nat} (h : Z.natAbs < 2 ^ b) (hb : b ≤ 60000) {W : World} {X : Value} (hX : PN W X (un Z 0)) : Calls Tryz.prog 24 #[X] W fun r w' => OutP W (un (-Z) 0) r w' := by
  obtain ⟨ao, cap, rfl, hI⟩ := hX
  have ok := ok_un (p := 0) h hb (by omega)
  have f := ok.facts
  refine (negw_ok hI (by omega) ok).mono ?_
  rintro r w' ⟨v, rfl, hO, hB⟩
  have e := gN_un (a := Z) (p := 0)
  obtain ⟨ao', cap', rfl, o1, o2, o3⟩ := hO.is
  have hI' : Is w' (.slice ao' (dlen (un Z 0).2.1) cap') (un Z 0).2.1 := ⟨ao', cap', rfl, o1, o2, o3⟩
  refine ⟨_, _, _, _, _, rfl, ⟨ao', cap', ?_, ?_⟩, hB⟩
  · rw [← e]
    unfold gN
    by_cases h0 : (un Z 0).2.1 = 0
    · have := f.2.2.2.1 h0
      rw [if_pos h0, this, show dlen (false, 0, (0 : Int)).2.1 = 0 from dlen_zero]
      rfl
    · rw [if_neg h0]
      have : 0 < dlen (un Z 0).2.1 := by have := dlen_pos h0; omega
      rw [decide_eq_true this, Bool.and_true]
  · rw [← e]
    unfold gN
    by_cases h0 : (un Z 0).2.1 = 0
    · rw [if_pos h0]; rw [h0] at hI'; exact hI'
    · rw [if_neg h0]; exact hI'
theorem fU_ngt {a : Nat} (h : a < 18446744073709551616) : fU (ngt a) = fU a := by unfold fU Ie.mant Ie.lp; rw [ngt_mag h]
theorem le_0l {a : Nat} (na : isNaN a = false) : le 0 a = decide (0 ≤ stp a) := by unfold le; rw [na, show isNaN 0 = false by decide, show stp 0 = 0 by decide]; simp
theorem le_0r {b : Nat} (nb : isNaN b = false) : le b 0 = decide (stp b ≤ 0) := by unfold le; rw [nb, show isNaN 0 = false by decide, show stp 0 = 0 by decide]; simp
theorem lt_0r {b : Nat} (nb : isNaN b = false) : lt b 0 = decide (stp b < 0) := by unfold lt; rw [nb, show isNaN 0 = false by decide, show stp 0 = 0 by decide]; simp
theorem vI_all {a b : Nat} (h : vI a b = true) : isNaN a = false ∧ isNaN b = false ∧ stp a ≤ stp b ∧ stp a < 9218868437227405312 ∧ -9218868437227405312 < stp b ∧ a ≠ 9223372036854775808 ∧ b ≠ 9223372036854775808 := by
  unfold vI le lt at h
  rw [show stp 9218868437227405312 = 9218868437227405312 by decide, show stp 18442240474082181120 = -9218868437227405312 by decide] at h
  simp only [Bool.and_eq_true, Bool.not_eq_true', decide_eq_true_eq] at h
  obtain ⟨⟨⟨⟨⟨⟨h1, h2⟩, h3⟩, h4⟩, h5⟩, h6⟩, h7⟩ := h
  exact ⟨h1, h2, h3, h4.2, h5.2, h6, h7⟩
theorem flp {a : Nat} (ha : a < 18446744073709551616) (h0 : 0 ≤ stp a) (h1 : a ≠ 9223372036854775808) : neg a = false ∧ (mag a : Int) = stp a := by
  unfold stp sgn neg mag at *
  by_cases h : 9223372036854775808 ≤ a
  · simp only [h, decide_true, if_true] at h0 ⊢; omega
  · simp only [h, decide_false, if_false, Bool.false_eq_true] at h0 ⊢; simp
theorem flq {a : Nat} (h0 : stp a < 0) : neg a = true ∧ (mag a : Int) = -stp a := by
  unfold stp sgn at *
  cases h : neg a
  · rw [h] at h0; simp at h0; omega
  · rw [h] at h0; simp
theorem nn_mag {a : Nat} (h : isNaN a = false) : mag a ≤ 9218868437227405312 := by unfold isNaN at h; have := of_decide_eq_false h; omega
theorem smp_of {x y : Nat} (hx : x < 18446744073709551616) (hy : y < 18446744073709551616) (nx : neg x = false) (fx : mag x < 9218868437227405312) (ny : neg y = false) (h : stp x ≤ stp y) : ∃ P Q, fU x * dU y ≤ cU y * kU ∧ Smp (fU x) kU (cU y) (dU y) P Q := by
  have hle : fU x * dU y ≤ cU y * kU := by
    unfold cU dU
    by_cases hf : mag y < 9218868437227405312
    · rw [if_pos hf, if_pos hf]
      have := sU_le hx hy fx hf h
      rw [sU_pos nx, sU_pos ny] at this
      exact Nat.mul_le_mul_right _ (by exact_mod_cast this)
    · rw [if_neg hf, if_neg hf, Nat.mul_zero]
      exact Nat.zero_le _
  obtain ⟨P, Q, h⟩ := smp_ex (kU + dU y) _ _ _ _ (Nat.le_refl _) kU_pos hle
  exact ⟨P, Q, hle, h⟩
theorem pl_id {x : Nat} (h : stp x ≠ 0) : pl x = x := by
  unfold pl
  rw [if_neg]
  intro e
  rw [e] at h
  exact h (by decide)
theorem fU_0 : fU 0 = 0 := by unfold fU; rw [show Ie.mant 0 = 0 by decide, Nat.zero_mul]
theorem psimple_ok {a b : Nat} (ha : a < 18446744073709551616) (hb : b < 18446744073709551616) (hv : vI a b = true) : ∃ (P : Int) (Q : Nat), SV a b P Q ∧ ∀ w, Tab32 w → Ie.Tab w → Calls Tryz.prog 5 #[.agg #[.float .f64 a, .float .f64 b]] w fun r w' => Out2N w (un P 0) (un (Q : Int) 0) 0 r w' := by
  obtain ⟨na, nb, hs, h1, h2, a0, b0⟩ := vI_all hv
  have kv : ∀ W, Calls Tryz.prog 21 #[.agg #[.float .f64 a, .float .f64 b]] W fun r w' => r = .returned (.bool true) ∧ Below W.heap.size W w' := fun W => by
    have := svalid a b ha hb W
    rw [hv] at this
    exact this
  have km : ∀ W, Calls Tryz.prog 23 #[.agg #[.float .f64 a, .float .f64 b]] W fun r w' => r = .returned (.agg #[.float .f64 (mgX a b), .float .f64 (mgY a b)]) ∧ Below W.heap.size W w' := fun W => smag a b W ha hb na nb
  have ol := ord_lt b 0 hb (by omega)
  rw [lt_0r nb] at ol
  unfold mgX mgY at km
  rw [le_0l na, le_0r nb] at km
  by_cases c1 : 0 ≤ stp a
  · rw [decide_eq_true c1] at km
    simp only [if_true] at km
    rw [decide_eq_false (by omega)] at ol
    have fa := flp ha c1 a0
    have fb := flp hb (by omega) b0
    have ma : mag a < 9218868437227405312 := by omega
    obtain ⟨P, Q, hle, hS⟩ := smp_of ha hb fa.1 ma fb.1 hs
    obtain ⟨q0, qk, pk, lo, hi, mn⟩ := smp_sv hle hS
    refine ⟨P, Q, ⟨q0, qk, by rw [Int.natAbs_natCast]; exact pk, fun _ => ?_, fun h => ?_, fun n hn hq => ⟨ma, (mn n hn hq).1, fun m => ?_⟩⟩, fun w hT hJ => ?_⟩
    · rw [sU_pos fa.1]; exact lo
    · rw [sU_pos fb.1]; exact hi h
    · rw [sU_pos fa.1, sU_pos fb.1]; exact (mn n hn hq).2 m
    · exact psimp_pos a b a b _ _ w ol (fun W _ => kv W) (fun W _ => km W) (fun W hW => simp_un ha hb fa.1 ma fb.1 (nn_mag nb) hle hS (hT.later hW) (Tab.later hJ hW))
  · rw [decide_eq_false c1] at km
    have fa := flq (a := a) (by omega)
    have na' : stp (ngt a) = -stp a := ngt_stp ha
    have nb' : stp (ngt b) = -stp b := ngt_stp hb
    have ga : neg (ngt a) = false := by rw [ngt_neg ha, fa.1]; rfl
    by_cases c2 : stp b < 0
    · rw [decide_eq_true (by omega : stp b ≤ 0), pl_id (x := ngt b) (by omega), pl_id (x := ngt a) (by omega)] at km
      simp only [if_true, if_false, Bool.false_eq_true] at km
      rw [decide_eq_true c2] at ol
      have fb := flq c2
      have gb : neg (ngt b) = false := by rw [ngt_neg hb, fb.1]; rfl
      have mb : mag b < 9218868437227405312 := by omega
      have mb' : mag (ngt b) < 9218868437227405312 := by rw [ngt_mag hb]; exact mb
      obtain ⟨P, Q, hle, hS⟩ := smp_of (ngt_lt hb) (ngt_lt ha) gb mb' ga (by omega)
      obtain ⟨q0, qk, pk, lo, hi, mn⟩ := smp_sv hle hS
      rw [ngt_mag ha, fU_ngt ha] at hi mn
      rw [fU_ngt hb] at lo mn
      refine ⟨-(P : Int), Q, ⟨q0, qk, by rw [Int.natAbs_neg, Int.natAbs_natCast]; exact pk, fun h => ?_, fun _ => ?_, fun n hn hq => ⟨(mn n hn hq).1, mb, fun m g1 g2 => ?_⟩⟩, fun w hT hJ => ?_⟩
      · rw [sU_neg fa.1, Int.neg_mul, Int.neg_mul]
        exact Int.neg_le_neg (hi h)
      · rw [sU_neg fb.1, Int.neg_mul, Int.neg_mul]
        exact Int.neg_le_neg lo
      · rw [sU_neg fa.1, Int.neg_mul] at g1
        rw [sU_neg fb.1, Int.neg_mul] at g2
        refine (mn n hn hq).2 (-m) ?_ ?_
        · rw [Int.neg_mul]; omega
        · rw [Int.neg_mul]; omega
      · exact psimp_neg a b (ngt b) (ngt a) (un (P : Int) 0) _ _ w ol (fun W _ => kv W) (fun W _ => km W) (fun W hW => simp_un (ngt_lt hb) (ngt_lt ha) gb mb' ga (by rw [ngt_mag ha]; exact nn_mag na) hle hS (hT.later hW) (Tab.later hJ hW)) (fun W X _ hX => pneg_un (b := bU) (by rw [Int.natAbs_natCast]; exact pk) (by unfold bU; omega) hX)
    · rw [decide_eq_false c2] at ol
      have fb := flp hb (by omega) b0
      obtain ⟨y, hy, yn, ym, y0, km⟩ : ∃ y, y < 18446744073709551616 ∧ neg y = false ∧ mag y ≤ 9218868437227405312 ∧ 0 ≤ stp y ∧ ∀ W, Calls Tryz.prog 23 #[.agg #[.float .f64 a, .float .f64 b]] W fun r w' => r = .returned (.agg #[.float .f64 0, .float .f64 y]) ∧ Below W.heap.size W w' := by
        by_cases c3 : stp b ≤ 0
        · rw [decide_eq_true c3, pl_id (x := ngt a) (by omega)] at km
          simp only [if_true, if_false, Bool.false_eq_true] at km
          have eb : b = 0 := by
            rcases (stp_zero hb).1 (by omega) with e | e
            · exact e
            · exact absurd e b0
          have e0 : pl (ngt b) = 0 := by rw [eb]; decide
          rw [e0] at km
          exact ⟨ngt a, ngt_lt ha, ga, by rw [ngt_mag ha]; exact nn_mag na, by omega, km⟩
        · rw [decide_eq_false c3] at km
          simp only [if_true, if_false, Bool.false_eq_true] at km
          have e : fMax (ngt a) b = b ∨ fMax (ngt a) b = ngt a := by
            unfold fMax
            split
            · exact .inl rfl
            · split
              · exact .inr rfl
              · split
                · exact .inl rfl
                · exact .inr rfl
          rcases e with e | e
          · rw [e] at km
            exact ⟨b, hb, fb.1, nn_mag nb, by omega, km⟩
          · rw [e] at km
            exact ⟨ngt a, ngt_lt ha, ga, by rw [ngt_mag ha]; exact nn_mag na, by omega, km⟩
      obtain ⟨P, Q, hle, hS⟩ := smp_of (x := 0) (by omega) hy (by decide) (by decide) yn (by rw [show stp 0 = 0 by decide]; exact y0)
      have g1 := (smp_le hS hle).1.1
      have g2 := ((smp_in hS hle).2 0 1 (by omega) (by rw [fU_0]; omega) (by omega)).2
      have g3 := (smp_pos hS hle).1
      rw [fU_0] at g1
      have eP : P = 0 := by omega
      have eQ : Q = 1 := by omega
      refine ⟨0, 1, ⟨by omega, kU_pos, Nat.two_pow_pos _, fun h => ?_, fun h => ?_, fun n hn hq => by omega⟩, fun w hT hJ => ?_⟩
      · rw [sU_neg fa.1]; omega
      · rw [sU_pos fb.1]; omega
      · have k := psimp_pos a b 0 y (un (P : Int) 0) (un (Q : Int) 0) w ol (fun W _ => kv W) (fun W _ => km W) (fun W hW => simp_un (by omega) hy (by decide) (by decide) yn ym hle hS (hT.later hW) (Tab.later hJ hW))
        rw [eP, eQ] at k
        exact k
theorem psimple_no {a b : Nat} (ha : a < 18446744073709551616) (hb : b < 18446744073709551616) (hv : vI a b = false) (w : World) : Calls Tryz.prog 5 #[.agg #[.float .f64 a, .float .f64 b]] w fun r w' => Out2N w nilN nilN 1 r w' :=
  psimp_no a b w (fun W _ => by
    have := svalid a b ha hb W
    rw [hv] at this
    exact this)
theorem rmagW {na nb : Bool} {ua va : Option Addr} {uc vc x y : Nat} {ea eb : Int} {w : World} (lx1 : dlen x ≤ uc) (i1 : At w ua (dlen x) x) (h2 : Arg w va (dlen y) vc y) (hx : dlen x ≤ 400000) (hy : dlen y ≤ 400000) (ha : -2000000 ≤ ea ∧ ea ≤ 2000000) (hb : -2000000 ≤ eb ∧ eb ≤ 2000000) :
    Calls Tryz.prog 42 #[.agg #[.bool na, .slice ua (dlen x) uc, .int .i64 ea], .agg #[.bool nb, .slice va (dlen y) vc, .int .i64 eb]] w fun r w' => r = .returned (.int .i64 (magI x ea y eb)) ∧ Below w.heap.size w w' := by
  unfold magI
  by_cases h0 : x = 0 ∨ y = 0
  · rw [if_pos h0]
    exact rmag_0 na nb ua va _ uc _ vc ea eb w (h0.imp (fun h => by rw [h, dlen_zero]) (fun h => by rw [h, dlen_zero])) (by omega) (by omega)
  · rw [if_neg h0]
    have hx0 : x ≠ 0 := fun e => h0 (.inl e)
    have hy0 : y ≠ 0 := fun e => h0 (.inr e)
    have b1 := bl_le_dlen x
    have b2 := bl_le_dlen y
    have kA : ∀ W, Below w.heap.size w W → Calls Tryz.prog 75 #[.agg #[.bool na, .slice ua (dlen x) uc, .int .i64 ea]] W fun r w' => r = .returned (.int .i64 (bl x + ea)) ∧ Below W.heap.size W w' := fun W hW => rhigh (i1.later hW) hx0 (by omega) (by omega)
    have kB : ∀ W, Below w.heap.size w W → Calls Tryz.prog 75 #[.agg #[.bool nb, .slice va (dlen y) vc, .int .i64 eb]] W fun r w' => r = .returned (.int .i64 (bl y + eb)) ∧ Below W.heap.size W w' := fun W hW => rhigh (h2.later hW).at_ hy0 (by omega) (by omega)
    by_cases ht : (bl x : Int) + ea = bl y + eb
    · rw [if_pos ht]
      rw [← ht] at kB
      have l1 : dlen (x * 2 ^ (ea - min ea eb).toNat) ≤ 760000 := by have := shl_len (x := x) (k := (ea - min ea eb).toNat) rfl; omega
      have l2 : dlen (y * 2 ^ (eb - min ea eb).toNat) ≤ 760000 := by have := shl_len (x := y) (k := (eb - min ea eb).toNat) rfl; omega
      refine rmag_2 na nb ua va _ uc _ vc _ _ ea eb _ w (len_ne (n := 0) hx0) (len_ne (n := 0) hy0) (by omega) (by omega) (by omega) (by omega) (by omega) (by omega) kA kB (fun W i hW hi => ?_) (fun W i hW hi => ?_)
      · have hik : i = (((ea - min ea eb).toNat : Nat) : Int) := by omega
        rw [hik]
        exact rup ⟨ua, uc, rfl, lx1, (i1.later hW)⟩ _ (by omega) (by omega)
      · have hik : i = (((eb - min ea eb).toNat : Nat) : Int) := by omega
        rw [hik]
        exact rup ⟨va, vc, rfl, h2.le, (h2.later hW).at_⟩ _ (by omega) (by omega)
    · rw [if_neg ht]
      exact rmag_1 na nb ua va _ uc _ vc ea eb _ _ w (len_ne (n := 0) hx0) (len_ne (n := 0) hy0) (by omega) (by omega) (by omega) (by omega) ht kA kB
theorem rorderW {na nb : Bool} {ua va : Option Addr} {uc vc x y : Nat} {ea eb : Int} {w : World} (lx1 : dlen x ≤ uc) (i1 : At w ua (dlen x) x) (h2 : Arg w va (dlen y) vc y) (hx : dlen x ≤ 400000) (hy : dlen y ≤ 400000) (ha : -2000000 ≤ ea ∧ ea ≤ 2000000) (hb : -2000000 ≤ eb ∧ eb ≤ 2000000) :
    Calls Tryz.prog 15 #[.agg #[.bool na, .slice ua (dlen x) uc, .int .i64 ea], .agg #[.bool nb, .slice va (dlen y) vc, .int .i64 eb]] w fun r w' => r = .returned (.int .i64 (ordN na x ea nb y eb)) ∧ Below w.heap.size w w' := by
  have kA : ∀ W, Below w.heap.size w W → Calls Tryz.prog 14 #[.agg #[.bool na, .slice ua (dlen x) uc, .int .i64 ea]] W fun r w' => r = .returned (.int .i64 (sgI na (dlen x))) ∧ Below W.heap.size W w' := fun W hW => rsgn (by omega)
  have kB : ∀ W, Below w.heap.size w W → Calls Tryz.prog 14 #[.agg #[.bool nb, .slice va (dlen y) vc, .int .i64 eb]] W fun r w' => r = .returned (.int .i64 (sgI nb (dlen y))) ∧ Below W.heap.size W w' := fun W hW => rsgn (by omega)
  have kM : ∀ W, Below w.heap.size w W → Calls Tryz.prog 42 #[.agg #[.bool na, .slice ua (dlen x) uc, .int .i64 ea], .agg #[.bool nb, .slice va (dlen y) vc, .int .i64 eb]] W fun r w' => r = .returned (.int .i64 (magI x ea y eb)) ∧ Below W.heap.size W w' := fun W hW => rmagW lx1 (i1.later hW) (h2.later hW) hx hy ha hb
  have hl := magI_le (ea := ea) (eb := eb) hx hy ha hb
  have hm := magI_sign (x := x) (y := y) (ea := ea) (eb := eb)
  unfold ordN
  rw [← hm]
  generalize hsa : sgI na (dlen x) = sa at *
  generalize hsb : sgI nb (dlen y) = sb at *
  generalize magI x ea y eb = c at *
  by_cases hs : sa = sb
  · rw [if_pos hs]
    have hs3 : sa = 0 ∨ sa = -1 ∨ sa = 1 := by
      rw [← hsa]; unfold sgI
      split
      · exact .inl rfl
      · split
        · exact .inr (.inl rfl)
        · exact .inr (.inr rfl)
    by_cases hsn : sa < 0
    · have hs1 : sa = -1 := by omega
      rcases cmpI_cases c 0 with h | h | h
      · rw [h.2, show sa * -1 = 1 by omega]; exact rorder_nl na nb ua va _ uc _ vc ea eb sa sb c w hs hsn h.1 hl.1 hl.2 kA kB kM
      · rw [h.2, show sa * 1 = -1 by omega]; exact rorder_ng na nb ua va _ uc _ vc ea eb sa sb c w hs hsn h.1 hl.1 hl.2 kA kB kM
      · rw [h.2, Int.mul_zero]; exact rorder_ne na nb ua va _ uc _ vc ea eb sa sb c w hs hsn h.1 hl.1 hl.2 kA kB kM
    · by_cases h0 : sa = 0
      · have hc0 : c = 0 := by
          have hdx : dlen x = 0 := by
            apply Decidable.byContradiction
            intro hne
            rw [h0, sgI_pos hne] at hsa
            cases na <;> simp at hsa
          have hdy : dlen y = 0 := by
            apply Decidable.byContradiction
            intro hne
            rw [← hs, h0, sgI_pos hne] at hsb
            cases nb <;> simp at hsb
          have ex : x = 0 := dlen_eq_zero.1 hdx
          have ey : y = 0 := dlen_eq_zero.1 hdy
          subst ex; subst ey
          rw [Nat.zero_mul, Nat.zero_mul] at hm
          rcases cmpI_cases c 0 with h | h | h
          · rw [h.2] at hm; exact absurd hm (by decide)
          · rw [h.2] at hm; exact absurd hm (by decide)
          · exact h.1
        rw [show sa * cmpI c 0 = 0 by rw [h0, Int.zero_mul]]
        exact rorder_pe na nb ua va _ uc _ vc ea eb sa sb c w hs (by omega) hc0 hl.1 hl.2 kA kB kM
      · have hs1 : sa = 1 := by omega
        rw [show sa * cmpI c 0 = cmpI c 0 by rw [hs1, Int.one_mul]]
        rcases cmpI_cases c 0 with h | h | h
        · rw [h.2]; exact rorder_pl na nb ua va _ uc _ vc ea eb sa sb c w hs (by omega) h.1 hl.1 hl.2 kA kB kM
        · rw [h.2]; exact rorder_pg na nb ua va _ uc _ vc ea eb sa sb c w hs (by omega) h.1 hl.1 hl.2 kA kB kM
        · rw [h.2]; exact rorder_pe na nb ua va _ uc _ vc ea eb sa sb c w hs (by omega) h.1 hl.1 hl.2 kA kB kM
  · rw [if_neg hs]
    unfold cmpI
    by_cases hlt : sa < sb
    · rw [if_pos hlt]; exact rorder_lt na nb ua va _ uc _ vc ea eb sa sb c w hlt kA kB
    · rw [if_neg hlt, if_pos (by omega)]; exact rorder_gt na nb ua va _ uc _ vc ea eb sa sb c w hlt hs kA kB
theorem porder {t1 t2 : Bool × Nat × Int} {X Y : Value} {w : World} (o1 : Gn t1) (o2 : Gn t2) (h1 : PN w X t1) (h2 : DN w Y t2) : Calls Tryz.prog 15 #[X, Y] w fun r w' => r = .returned (.int .i64 (ordN t1.1 t1.2.1 t1.2.2 t2.1 t2.2.1 t2.2.2)) ∧ Below w.heap.size w w' := by
  obtain ⟨ao, cap, rfl, b, c, e, l, -, i⟩ := h1
  obtain ⟨ao', cap', rfl, a2⟩ := h2
  obtain ⟨c1, f1, f2, f3⟩ := o1
  obtain ⟨c2, g1, g2, g3⟩ := o2
  obtain ⟨rfl, -, rfl⟩ := Value.slice.inj e
  exact rorderW l i a2 (by omega) (by omega) (by omega) (by omega)
theorem PN.dn {w : World} {X : Value} {t : Bool × Nat × Int} (h : PN w X t) (h0 : t.2.1 ≠ 0) (hs : dlen t.2.1 ≤ 35184372088832) : DN w X t := by
  obtain ⟨ao, cap, rfl, b, c, e, l, -, i⟩ := h
  obtain ⟨rfl, -, rfl⟩ := Value.slice.inj e
  exact ⟨_, _, rfl, fun h => absurd (dlen_eq_zero.1 h) h0, i, l, hs⟩
def isD (T : Bool × Nat × Int) : World → Value → Prop := fun w u => DN w u T
theorem isD_stays (T : Bool × Nat × Int) : Stays (isD T) := fun _ _ _ hb h => DN.later h hb
theorem rowsF (T : TypeId) : ∀ L : List (World → Value → Prop), RowsAll T (fun _ => False) L
  | [] => trivial
  | _ :: r => ⟨fun _ _ _ _ _ _ h => h.elim, rowsF T r⟩
theorem r_region {ops : Array Oper} {Q : Exit → Act → World → Prop} {id : Nat} (PVL SL : List Nat) (D : List (List Nat))
    (W0 : World) (a0 : Act) (L : List (World → Value → Prop)) (hchk : qchk ops PVL [] SL D [] [] = true)
    (hV1 : StaysAll L) (hsl : ∀ s ∈ SL, s < a0.tmps.size)
    (hA : ∀ j, j < PVL.length → ∀ o, ops[PVL.getD j 0]? = some o → ∀ (a : Act) (w : World), Below W0.heap.size W0 w → (∀ s : Nat, SL.contains s = false → a.tmps[s]? = a0.tmps[s]?) →
      (∀ j' ∈ dL D j, ∃ u, a.tmps[SL.getD j' 0]? = some u ∧ vL L j' w u) →
      (o.guard = none ∧ o.wp Tryz.prog a w (fun a' w' => ∃ u, a' = a.put o.dst u ∧ vL L j w' u ∧ Below w.heap.size w w') Q) ∨ wpOp Tryz.prog ops Q (PVL.getD j 0) (fun a' w' => ∃ u, a' = a.put o.dst u ∧ vL L j w' u ∧ Below w.heap.size w w') a w)
    (hQ : ∀ (u : Nat → Value) (w : World), Below W0.heap.size W0 w → (∀ j, j < PVL.length → vL L j w (u j)) → Q .normal (putL a0 ((List.range PVL.length).map (fun j => (SL.getD j 0, u j)))) w) :
    (Code.region id ops true).wp Tryz.prog Q a0 W0 :=
  q_region follows_mixed PVL [] SL D [] [] (fun _ => 0) (fun _ => 0) W0.heap.size 28 (fun _ => False) 3 W0 a0 L hchk hV1 (rowsF _ L) hsl
    (fun k hk => absurd hk (Nat.not_lt_zero _)) (fun j hj o ho a w hk ho1 hd _ => hA j hj o ho a w hk.below ho1 hd) Tryz.info28
    (fun k hk => absurd hk (Nat.not_lt_zero _)) (fun k hk => absurd hk (Nat.not_lt_zero _)) (fun k hk => absurd hk (Nat.not_lt_zero _)) (fun k k' hk => absurd hk (Nat.not_lt_zero _)) (Nat.le_refl _)
    (fun u w hk hu _ => hQ u w hk.below hu)
theorem run_ldD (g o : Nat) (s : Bool) (ao : Option Addr) (n cp : Nat) (e : Int) (w : World) (h0 : w.cell? ⟨g, o, none⟩ = some (.bool s)) (h1 : w.cell? ⟨g, o + 1, none⟩ = some (.slice ao n cp)) (h2 : w.cell? ⟨g, o + 2, none⟩ = some (.int .i64 e)) : (Instr.loadAt 27 (.pointer (some ⟨g, o, none⟩))).run Tryz.prog w = .ok (.agg #[.bool s, .slice ao n cp, .int .i64 e]) w :=
  run_loadAt_mid w g o 27 [.bool s, .slice ao n cp, .int .i64 e] _ (fun j v hv => by
    match j with
    | 0 => simp at hv; subst hv; exact h0
    | 1 => simp at hv; subst hv; exact h1
    | 2 => simp at hv; subst hv; exact h2
    | k + 3 => simp at hv) Tryz.underlying27 rfl Tryz.info27
theorem dfloatU {a : Nat} (ha : a < 18446744073709551616) (w : World) : Calls Tryz.prog 17 #[.float .f64 a] w fun r w' => ∃ A, r = .returned A ∧ DN w' A (un (sU a) 1074) ∧ Below w.heap.size w w' := by
  have h := float_dn a ha w
  rw [tF_sU] at h
  exact h
theorem dwholeU {n : Int} (hn : 0 ≤ n ∧ n ≤ 9223372036854775807) (w : World) : Calls Tryz.prog 18 #[.int .i64 n] w fun r w' => ∃ A, r = .returned A ∧ DN w' A (un n 0) ∧ Below w.heap.size w w' := by
  have h := gwhole (n := n) (w := w) (by omega)
  rw [un_whole] at h
  exact h
theorem dtimesU {x y : Int} {k l : Nat} {X Y : Value} {w : World} (hx : x.natAbs < 2 ^ k) (hy : y.natAbs < 2 ^ l) (hk : k ≤ 90000) (hl : l ≤ 90000) (h1 : DN w X (un x 1074)) (h2 : DN w Y (un y 0)) : Calls Tryz.prog 16 #[X, Y] w fun r w' => ∃ A, r = .returned A ∧ DN w' A (un (x * y) 1074) ∧ Below w.heap.size w w' := by
  have h := gtimes (un_gn hx hk (by omega)) (un_gn hy hl (by omega)) h1 h2
  rw [gM_un] at h
  exact h
theorem porderU {x y : Int} {k l : Nat} {X Y : Value} {w : World} (hx : (x * kU).natAbs < 2 ^ k) (hy : y.natAbs < 2 ^ l) (hk : k ≤ 90000) (hl : l ≤ 90000) (h1 : PN w X (un x 0)) (h2 : DN w Y (un y 1074)) : Calls Tryz.prog 15 #[X, Y] w fun r w' => r = .returned (.int .i64 (cmpI (x * kU) y)) ∧ Below w.heap.size w w' := by
  rw [un_kU] at h1
  have h := porder (un_gn hx hk (by omega)) (un_gn hy hl (by omega)) h1 h2
  rw [ord_un] at h
  exact h
theorem dorderU {x y : Int} {k l p : Nat} {X Y : Value} {w : World} (hx : x.natAbs < 2 ^ k) (hy : y.natAbs < 2 ^ l) (hk : k ≤ 90000) (hl : l ≤ 90000) (hp : p ≤ 90000) (h1 : DN w X (un x p)) (h2 : DN w Y (un y p)) : Calls Tryz.prog 15 #[X, Y] w fun r w' => r = .returned (.int .i64 (cmpI x y)) ∧ Below w.heap.size w w' := by
  have h := gorder (un_gn hx hk hp) (un_gn hy hl hp) h1 h2
  rw [ord_un] at h
  exact h
end Go.Proofs.YtgmpcpeminjpbaaGreatDoor
