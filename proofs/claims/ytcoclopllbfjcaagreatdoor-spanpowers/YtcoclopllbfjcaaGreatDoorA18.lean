/- Own work: contracts of the program's functions, part 18: SNQ SNR SNN SNS SNT SNU SNV SNW SNX SNY SNZ SO1 SO2 SO3 SO4. -/
import Derived.Test.YtcoclopllbfjcaaGreatDoorA17
import Derived.Test.YtcoclopllbfjcaaGreatDoorA6
import Derived.Test.YtcoclopllbfjcaaGreatDoorA14
import Derived.Test.YtcoclopllbfjcaaGreatDoorA16
import Derived.Test.YtcoclopllbfjcaaGreatDoorA11
import Derived.Test.YtcoclopllbfjcaaGreatDoorA12
import Derived.Test.YtcoclopllbfjcaaGreatDoorA10
import Derived.Test.YtcoclopllbfjcaaGreatDoorA13

set_option maxHeartbeats 16000000
namespace Go.Proofs.YtcoclopllbfjcaaGreatDoor
set_option linter.unusedVariables false
set_option linter.unusedSimpArgs false
open Go.RowKit Go.Fl64
theorem run_fieldI0 (g : Nat) (w : World) : (Instr.fieldAt 24 (.pointer (some ⟨g, 0, none⟩)) 0).run Tryz.prog w = .ok (.pointer (some ⟨g, 0, none⟩)) w := by kernel_rfl
theorem run_fieldI1 (g : Nat) (w : World) : (Instr.fieldAt 24 (.pointer (some ⟨g, 0, none⟩)) 1).run Tryz.prog w = .ok (.pointer (some ⟨g, 1, none⟩)) w := by kernel_rfl
theorem run_loadF (g f x : Nat) (w : World) (h : w.cell? ⟨g, f, none⟩ = some (.float .f64 x)) : (Instr.loadAt 22 (.pointer (some ⟨g, f, none⟩))).run Tryz.prog w = .ok (.float .f64 x) w := by
  have u := Tryz.isAgg22
  simp [Instr.loadAt, Instr.sureAddr, loadVar, h, go_sem]
theorem step_fieldI {ops : Array Oper} {Q : Exit → Act → World → Prop} {i : Nat} {o : Oper} {K : Act → World → Prop} {a : Act} {w : World}
    (hi : ops[i]? = some o) (hg : o.guard = none) {s : Tmp} {f : Nat} (hop : o.op = .fieldAddr 24 (.tmp s) f) {g : Nat} (hf : f = 0 ∨ f = 1)
    (hs : a.tmps[s]? = some (.pointer (some ⟨g, 0, none⟩))) (h : K (a.put o.dst (.pointer (some ⟨g, f, none⟩))) w) : wpOp Tryz.prog ops Q i K a w := by
  refine step_wanted hi hg ?_
  unfold Oper.wp
  rcases hf with rfl | rfl
  · simp [execOp, hop, eval_get hs, run_fieldI0, Result.andThen, Oper.upon, h]
  · simp [execOp, hop, eval_get hs, run_fieldI1, Result.andThen, Oper.upon, h]
theorem step_loadF {ops : Array Oper} {Q : Exit → Act → World → Prop} {i : Nat} {o : Oper} {K : Act → World → Prop} {a : Act} {w : World}
    (hi : ops[i]? = some o) (hg : o.guard = none) {s : Tmp} (hop : o.op = .load 22 (.tmp s)) {g f x : Nat}
    (hs : a.tmps[s]? = some (.pointer (some ⟨g, f, none⟩))) (hc : w.cell? ⟨g, f, none⟩ = some (.float .f64 x)) (h : K (a.put o.dst (.float .f64 x)) w) : wpOp Tryz.prog ops Q i K a w := by
  refine step_wanted hi hg ?_
  unfold Oper.wp
  simp [execOp, hop, eval_get hs, run_loadF g f x w hc, Result.andThen, Oper.upon, h]
theorem zero_end (w : World) : (zeroValue 61).run Tryz.prog w = .ok (.agg #[.int .i64 0, .bool false, .slice none 0 0, .int .i64 0]) w := Tryz.zeroValue61 w
def eslot (fa ld cl : Nat → Tmp) (j : Nat) : Tmp := if j % 3 = 0 then fa (j / 3) else if j % 3 = 1 then ld (j / 3) else cl (j / 3)
def evalE (gs fld f : Nat → Nat) (j : Nat) (w : World) (u : Value) : Prop :=
  if j % 3 = 0 then u = .pointer (some ⟨gs (j / 3), fld (j / 3), none⟩) else if j % 3 = 1 then u = .float .f64 (f (j / 3)) else EN w u (eI (f (j / 3))) (eT (f (j / 3)))
theorem at_row {W : World} {ao : Option Addr} {n z g : Nat} (h : At W ao n z) (hE : EnB W g (.int .i64 0) (.bool false) (.slice none 0 0) (.int .i64 0)) (cs : Array Value) : At (W.setRow g cs) ao n z := by
  obtain ⟨bb, o, h1, h2⟩ := h
  refine ⟨bb, o, h1, fun i hi => ?_⟩
  have hc := h2 i hi
  have hne : bb ≠ g := by
    rintro rfl
    unfold EnB at hE
    simp only [World.cell?, hE] at hc
    rcases (show o + i = 0 ∨ o + i = 1 ∨ o + i = 2 ∨ o + i = 3 ∨ 4 ≤ o + i by omega) with e | e | e | e | e
    · rw [e] at hc; simp at hc
    · rw [e] at hc; simp at hc
    · rw [e] at hc; simp at hc
    · rw [e] at hc; simp at hc
    · rw [Array.getElem?_eq_none (by simpa using e)] at hc; cases hc
  have hs := setRow_other W g bb cs hne
  unfold World.cell? at hc ⊢
  rw [hs]
  exact hc
theorem EN.row {W : World} {A : Value} {i : Int} {t : Bool × Nat × Int} {g : Nat} (h : EN W A i t) (hE : EnB W g (.int .i64 0) (.bool false) (.slice none 0 0) (.int .i64 0)) (cs : Array Value) : EN (W.setRow g cs) A i t := by
  obtain ⟨s, ao, n, cap, e, h1, ao', cap', h2, h3⟩ := h
  exact ⟨s, ao, n, cap, e, h1, ao', cap', h2, h3.nil, at_row h3.at_ hE cs, h3.le, h3.small⟩
theorem one4 (i e : Int) (s : Bool) (ao : Option Addr) (n cap : Nat) : (#[.int .i64 i, .bool s, .slice ao n cap, .int .i64 e] : Array Value).all (·.oneCell') = true := by
  have h1 : (Value.int .i64 i).oneCell' = true := rfl
  have h2 : (Value.bool s).oneCell' = true := rfl
  have h3 : (Value.slice ao n cap).oneCell' = true := rfl
  have h4 : (Value.int .i64 e).oneCell' = true := rfl
  simp only [List.all_toArray, List.all_cons, List.all_nil, h1, h2, h3, h4, Bool.and_self]
theorem ends_region {ops : Array Oper} {Q : Exit → Act → World → Prop} {id : Nat} (n : Nat) (src fa ld cl bx : Nat → Tmp) (gs fld f : Nat → Nat) (W0 : World) (a0 : Act)
    (hsz : ops.size = 3 * n + n + n) (hord : ∀ (i : Nat) (o : Oper), ops[i]? = some o → ∀ e ∈ o.after, e.on < i)
    (hsrc : ∀ k, k < n → a0.tmps[src k]? = some (.pointer (some ⟨gs k, 0, none⟩)) ∧ (fld k = 0 ∨ fld k = 1) ∧ (∀ w, Below W0.heap.size W0 w → w.cell? ⟨gs k, fld k, none⟩ = some (.float .f64 (f k))) ∧ f k < 18446744073709551616 ∧ isNaN (f k) = false)
    (hfree : ∀ k, k < n → (∀ j, j < 3 * n → src k ≠ eslot fa ld cl j) ∧ ∀ j, j < n → src k ≠ bx j)
    (hfa : ∀ k, k < n → ∃ o, ops[3 * k]? = some o ∧ o.guard = none ∧ o.op = .fieldAddr 24 (.tmp (src k)) (fld k) ∧ o.dst = some (fa k))
    (hld : ∀ k, k < n → ∃ o, ops[3 * k + 1]? = some o ∧ o.guard = none ∧ o.op = .load 22 (.tmp (fa k)) ∧ o.dst = some (ld k) ∧ ∃ e ∈ o.after, e.on = 3 * k ∧ Region.binds .any e = true)
    (hcl : ∀ k, k < n → ∃ o, ops[3 * k + 2]? = some o ∧ o.guard = none ∧ (∃ ts, o.op = .call { callee := .value (.func 37), args := #[.tmp (ld k)], argTypes := ts }) ∧ o.dst = some (cl k) ∧ ∃ e ∈ o.after, e.on = 3 * k + 1 ∧ Region.binds .any e = true)
    (hal : ∀ k, k < n → ∃ o, ops[3 * n + k]? = some o ∧ o.guard = none ∧ o.op = .alloc 61 ∧ o.dst = some (bx k))
    (hst : ∀ k, k < n → ∃ o, ops[3 * n + n + k]? = some o ∧ o.guard = none ∧ o.op = .store 61 (.tmp (bx k)) (.tmp (cl k)) ∧ o.dst = none ∧ (∃ e ∈ o.after, e.on = 3 * n + k ∧ Region.binds .any e = true) ∧ (∃ e ∈ o.after, e.on = 3 * k + 2 ∧ Region.binds .any e = true))
    (hin : ∀ j, j < 3 * n → eslot fa ld cl j < a0.tmps.size) (hbin : ∀ k, k < n → bx k < a0.tmps.size)
    (hinj : ∀ j, j < 3 * n → ∀ j', j' < 3 * n → eslot fa ld cl j = eslot fa ld cl j' → j = j') (hbinj : ∀ k, k < n → ∀ k', k' < n → bx k = bx k' → k = k') (hsb : ∀ j, j < 3 * n → ∀ k, k < n → eslot fa ld cl j ≠ bx k)
    (hQ : ∀ (u : Nat → Value) (g : Nat → Nat) (w : World), Below W0.heap.size W0 w → (∀ k, k < n → EN w (u (3 * k + 2)) (eI (f k)) (eT (f k)) ∧ W0.heap.size ≤ g k ∧ ∃ cs, u (3 * k + 2) = .agg cs ∧ w.heap[g k]? = some (.cells cs 61 (0, 0))) →
      Q .normal (putL a0 ((List.range (3 * n)).map (fun j => (eslot fa ld cl j, u j)) ++ (List.range n).map (fun k => (bx k, .pointer (some ⟨g k, 0, none⟩))))) w) :
    (Code.region id ops true).wp Tryz.prog Q a0 W0 := by
  have sl0 : ∀ k, eslot fa ld cl (3 * k) = fa k := fun k => by unfold eslot; rw [if_pos (by omega), show 3 * k / 3 = k by omega]
  have sl1 : ∀ k, eslot fa ld cl (3 * k + 1) = ld k := fun k => by unfold eslot; rw [if_neg (by omega), if_pos (by omega), show (3 * k + 1) / 3 = k by omega]
  have sl2 : ∀ k, eslot fa ld cl (3 * k + 2) = cl k := fun k => by unfold eslot; rw [if_neg (by omega), if_neg (by omega), show (3 * k + 2) / 3 = k by omega]
  have va0 : ∀ k w u, evalE gs fld f (3 * k) w u = (u = .pointer (some ⟨gs k, fld k, none⟩)) := fun k w u => by unfold evalE; rw [if_pos (by omega), show 3 * k / 3 = k by omega]
  have va1 : ∀ k w u, evalE gs fld f (3 * k + 1) w u = (u = .float .f64 (f k)) := fun k w u => by unfold evalE; rw [if_neg (by omega), if_pos (by omega), show (3 * k + 1) / 3 = k by omega]
  have va2 : ∀ k w u, evalE gs fld f (3 * k + 2) w u = EN w u (eI (f k)) (eT (f k)) := fun k w u => by unfold evalE; rw [if_neg (by omega), if_neg (by omega), show (3 * k + 2) / 3 = k by omega]
  have hthree : ∀ j, ∃ k, j = 3 * k ∨ j = 3 * k + 1 ∨ j = 3 * k + 2 := fun j => ⟨j / 3, by omega⟩
  refine parz_region follows_mixed (3 * n) n (eslot fa ld cl) bx (fun k => 3 * k + 2) (fun j => if j % 3 = 0 then [] else [j - 1]) 61 #[.int .i64 0, .bool false, .slice none 0 0, .int .i64 0] W0 a0 (evalE gs fld f) hsz hord ?_ ?_ ?_ ?_ ?_ hal zero_end en_info ?_ hin hbin (fun j j' hj hj' h => hinj j hj j' hj' h) (fun k k' hk hk' h => hbinj k hk k' hk' h) (fun j k hj hk => hsb j hj k hk) ?_
  · intro j w w' u hb h
    obtain ⟨k, rfl | rfl | rfl⟩ := hthree j
    · rw [va0] at h ⊢; exact h
    · rw [va1] at h ⊢; exact h
    · rw [va2] at h ⊢; exact h.later hb
  · intro j w u g cs' hg h
    obtain ⟨k, rfl | rfl | rfl⟩ := hthree j
    · rw [va0] at h ⊢; exact h
    · rw [va1] at h ⊢; exact h
    · rw [va2] at h ⊢; exact h.row hg cs'
  · intro k hk w u h
    rw [va2] at h
    obtain ⟨s, ao, nn, cap, e, rfl, -⟩ := h
    exact ⟨_, rfl, rfl, one4 _ _ _ _ _ _⟩
  · intro j hj j' hj'
    obtain ⟨k, rfl | rfl | rfl⟩ := hthree j
    · rw [if_pos (by omega)] at hj'; cases hj'
    · rw [if_neg (by omega)] at hj'
      obtain rfl : j' = 3 * k + 1 - 1 := by simpa using hj'
      refine ⟨by omega, fun o ho => ?_⟩
      obtain ⟨o', ho', -, -, -, e, he, h1, h2⟩ := hld k (by omega)
      obtain rfl : o' = o := Option.some.inj (ho'.symm.trans ho)
      exact ⟨e, he, by omega, h2⟩
    · rw [if_neg (by omega)] at hj'
      obtain rfl : j' = 3 * k + 2 - 1 := by simpa using hj'
      refine ⟨by omega, fun o ho => ?_⟩
      obtain ⟨o', ho', -, -, -, e, he, h1, h2⟩ := hcl k (by omega)
      obtain rfl : o' = o := Option.some.inj (ho'.symm.trans ho)
      exact ⟨e, he, by omega, h2⟩
  · intro j hj a w hb hoth hdep
    obtain ⟨k, rfl | rfl | rfl⟩ := hthree j
    · obtain ⟨o, ho, hg, hop, hd⟩ := hfa k (by omega)
      obtain ⟨s1, s2, -⟩ := hsrc k (by omega)
      obtain ⟨f1, f2⟩ := hfree k (by omega)
      refine step_fieldI ho hg hop s2 (by rw [hoth _ f1 f2]; exact s1) ?_
      exact ⟨_, by rw [hd, sl0], by rw [va0], Below.refl _ _⟩
    · obtain ⟨o, ho, hg, hop, hd, -⟩ := hld k (by omega)
      obtain ⟨s1, s2, s3, -⟩ := hsrc k (by omega)
      obtain ⟨u, hu, hv⟩ := hdep (3 * k + 1 - 1) (by rw [if_neg (by omega)]; simp)
      rw [show 3 * k + 1 - 1 = 3 * k by omega] at hu hv
      rw [va0] at hv
      subst hv
      rw [sl0] at hu
      refine step_loadF ho hg hop hu (s3 w hb) ?_
      exact ⟨_, by rw [hd, sl1], by rw [va1], Below.refl _ _⟩
    · obtain ⟨o, ho, hg, ⟨ts, hop⟩, hd, -⟩ := hcl k (by omega)
      obtain ⟨s1, s2, s3, s4, s5⟩ := hsrc k (by omega)
      obtain ⟨u, hu, hv⟩ := hdep (3 * k + 2 - 1) (by rw [if_neg (by omega)]; simp)
      rw [show 3 * k + 2 - 1 = 3 * k + 1 by omega] at hu hv
      rw [va1] at hv
      subst hv
      rw [sl1] at hu
      refine step_call ho hg hop (enters Tryz.func37 (by kernel_rfl) (by kernel_rfl)) (vs := #[_]) (by simp only [List.map_toArray, List.map_cons, List.map_nil]; rw [eval_get hu]) ?_
      refine (dend (f k) s4 s5 w).mono ?_
      rintro r w' ⟨A, rfl, hE, hb'⟩
      refine ⟨_, rfl, _, by rw [hd, sl2], ?_, hb'⟩
      rw [va2]
      exact hE
  · intro k hk
    obtain ⟨o, h1, h2, h3, h4, h5, h6⟩ := hst k hk
    exact ⟨by omega, o, h1, h2, by rw [h3, sl2], h4, h5, h6⟩
  · intro u g a w hb hu hg hs hd hoth
    have hv : ∀ k, k < n → EN w (u (3 * k + 2)) (eI (f k)) (eT (f k)) ∧ W0.heap.size ≤ g k ∧ ∃ cs, u (3 * k + 2) = .agg cs ∧ w.heap[g k]? = some (.cells cs 61 (0, 0)) := fun k hk => by
      have h1 := (hu (3 * k + 2) (by omega)).2
      rw [va2] at h1
      exact ⟨h1, (hg k hk).2⟩
    have ha : a = putL a0 ((List.range (3 * n)).map (fun j => (eslot fa ld cl j, u j)) ++ (List.range n).map (fun k => (bx k, .pointer (some ⟨g k, 0, none⟩)))) := by
      have hkeys : ((List.range (3 * n)).map (fun j => (eslot fa ld cl j, u j)) ++ (List.range n).map (fun k => (bx k, Value.pointer (some ⟨g k, 0, none⟩)))).map (·.1) = (List.range (3 * n)).map (eslot fa ld cl) ++ (List.range n).map bx := by
        simp [Function.comp_def]
      refine act_putL ?_ hs hd ?_ ?_
      · rw [hkeys, List.nodup_append]
        refine ⟨?_, ?_, ?_⟩
        · refine List.pairwise_map.2 ((List.nodup_range (n := 3 * n)).imp_of_mem ?_)
          intro x y hx hy hne he
          exact hne (hinj x (List.mem_range.1 hx) y (List.mem_range.1 hy) he)
        · refine List.pairwise_map.2 ((List.nodup_range (n := n)).imp_of_mem ?_)
          intro x y hx hy hne he
          exact hne (hbinj x (List.mem_range.1 hx) y (List.mem_range.1 hy) he)
        · intro x hx y hy
          obtain ⟨j, hj, rfl⟩ := List.mem_map.1 hx
          obtain ⟨k, hk, rfl⟩ := List.mem_map.1 hy
          exact hsb j (List.mem_range.1 hj) k (List.mem_range.1 hk)
      · intro p hp
        rcases List.mem_append.1 hp with h | h
        · obtain ⟨j, hj, rfl⟩ := List.mem_map.1 h
          exact (hu j (List.mem_range.1 hj)).1
        · obtain ⟨k, hk, rfl⟩ := List.mem_map.1 h
          exact (hg k (List.mem_range.1 hk)).1
      · intro s hsn
        rw [hkeys] at hsn
        refine hoth s (fun j hj he => hsn ?_) (fun k hk he => hsn ?_)
        · exact List.mem_append_left _ (List.mem_map.2 ⟨j, List.mem_range.2 hj, he.symm⟩)
        · exact List.mem_append_right _ (List.mem_map.2 ⟨k, List.mem_range.2 hk, he.symm⟩)
    rw [ha]
    exact hQ u g w hb hv
attribute [local go_sem] run_store_flt
def ordE (i j : Int) (t u : Bool × Nat × Int) : Int := if i = j then (if i = 0 then ordN t.1 t.2.1 t.2.2 u.1 u.2.1 u.2.2 else 0) else if i < j then -1 else 1
set_option maxRecDepth 200000 in
theorem dorder_ne (i j eA eB : Int) (sA sB : Bool) (aoA aoB : Option Addr) (nA capA nB capB : Nat) (w : World) (h : i ≠ j) :
    Calls Tryz.prog 88 #[.agg #[.int .i64 i, .bool sA, .slice aoA nA capA, .int .i64 eA], .agg #[.int .i64 j, .bool sB, .slice aoB nB capB, .int .i64 eB]] w fun r w' => r = .returned (.int .i64 (if i < j then -1 else 1)) ∧ Below w.heap.size w w' := by
  obtain ⟨W, hW⟩ : ∃ W, W = (w.alloc (.cells #[.int .i64 i, .bool sA, .slice aoA nA capA, .int .i64 eA] 61)).alloc (.cells #[.int .i64 j, .bool sB, .slice aoB nB capB, .int .i64 eB] 61) := ⟨_, rfl⟩
  have HX : Hid (Below w.heap.size w W ∧ EnB W (w.heap.size) (.int .i64 i) (.bool sA) (.slice aoA nA capA) (.int .i64 eA) ∧ EnB W (w.heap.size + 1) (.int .i64 j) (.bool sB) (.slice aoB nB capB) (.int .i64 eB)) := by
    rw [hW]
    refine ⟨((Below.refl _ _).alloc (Nat.le_refl _) _).alloc (by simp) _, (EnB.new _ _ _ _ _).alloc _, ?_⟩
    have := EnB.new (w.alloc (.cells #[.int .i64 i, .bool sA, .slice aoA nA capA, .int .i64 eA] 61)) (.int .i64 j) (.bool sB) (.slice aoB nB capB) (.int .i64 eB)
    simpa using this
  obtain ⟨⟨a0, a1, a2, a3⟩, -⟩ := HX.out.2.1.facts
  obtain ⟨⟨b0, b1, b2, b3⟩, -⟩ := HX.out.2.2.facts
  have h1 : (i != j) = true := by simp [h]
  by_cases hl : i < j
  · rw [if_pos hl]
    have h2 : decide (i < j) = true := decide_eq_true hl
    go_enter Tryz.func88, Tryz.ntmps88
    go_upto_region 1 with fail
    rw [← hW]
    clear hW
    go_wp2
    go_ret
    exact ⟨rfl, HX.out.1⟩
  · rw [if_neg hl]
    have h2 : decide (i < j) = false := decide_eq_false hl
    go_enter Tryz.func88, Tryz.ntmps88
    go_upto_region 1 with fail
    rw [← hW]
    clear hW
    go_wp2
    go_ret
    exact ⟨rfl, HX.out.1⟩
set_option maxRecDepth 200000 in
theorem dorder_eq (i eA eB : Int) (sA sB : Bool) (aoA aoB : Option Addr) (nA capA nB capB : Nat) (w : World) (h2 : (i != 0) = true) :
    Calls Tryz.prog 88 #[.agg #[.int .i64 i, .bool sA, .slice aoA nA capA, .int .i64 eA], .agg #[.int .i64 i, .bool sB, .slice aoB nB capB, .int .i64 eB]] w fun r w' => r = .returned (.int .i64 0) ∧ Below w.heap.size w w' := by
  obtain ⟨W, hW⟩ : ∃ W, W = (w.alloc (.cells #[.int .i64 i, .bool sA, .slice aoA nA capA, .int .i64 eA] 61)).alloc (.cells #[.int .i64 i, .bool sB, .slice aoB nB capB, .int .i64 eB] 61) := ⟨_, rfl⟩
  have HX : Hid (Below w.heap.size w W ∧ EnB W (w.heap.size) (.int .i64 i) (.bool sA) (.slice aoA nA capA) (.int .i64 eA) ∧ EnB W (w.heap.size + 1) (.int .i64 i) (.bool sB) (.slice aoB nB capB) (.int .i64 eB)) := by
    rw [hW]
    refine ⟨((Below.refl _ _).alloc (Nat.le_refl _) _).alloc (by simp) _, (EnB.new _ _ _ _ _).alloc _, ?_⟩
    have := EnB.new (w.alloc (.cells #[.int .i64 i, .bool sA, .slice aoA nA capA, .int .i64 eA] 61)) (.int .i64 i) (.bool sB) (.slice aoB nB capB) (.int .i64 eB)
    simpa using this
  obtain ⟨⟨a0, a1, a2, a3⟩, -⟩ := HX.out.2.1.facts
  obtain ⟨⟨b0, b1, b2, b3⟩, -⟩ := HX.out.2.2.facts
  have h1 : (i != i) = false := by simp
  go_enter Tryz.func88, Tryz.ntmps88
  go_upto_region 1 with fail
  rw [← hW]
  clear hW
  go_wp2
  go_ret
  exact ⟨rfl, HX.out.1⟩
set_option maxRecDepth 200000 in
theorem dorder_0 (eA eB : Int) (sA sB : Bool) (aoA aoB : Option Addr) (nA capA nB capB : Nat) (c : Int) (w : World)
    (k1 : ∀ W, Below w.heap.size w W → Calls Tryz.prog 32 #[.agg #[.bool sA, .slice aoA nA capA, .int .i64 eA], .agg #[.bool sB, .slice aoB nB capB, .int .i64 eB]] W fun r w' => r = .returned (.int .i64 c) ∧ Below W.heap.size W w') :
    Calls Tryz.prog 88 #[.agg #[.int .i64 0, .bool sA, .slice aoA nA capA, .int .i64 eA], .agg #[.int .i64 0, .bool sB, .slice aoB nB capB, .int .i64 eB]] w fun r w' => r = .returned (.int .i64 c) ∧ Below w.heap.size w w' := by
  obtain ⟨W, hW⟩ : ∃ W, W = (w.alloc (.cells #[.int .i64 0, .bool sA, .slice aoA nA capA, .int .i64 eA] 61)).alloc (.cells #[.int .i64 0, .bool sB, .slice aoB nB capB, .int .i64 eB] 61) := ⟨_, rfl⟩
  have HX : Hid (Below w.heap.size w W ∧ EnB W (w.heap.size) (.int .i64 0) (.bool sA) (.slice aoA nA capA) (.int .i64 eA) ∧ EnB W (w.heap.size + 1) (.int .i64 0) (.bool sB) (.slice aoB nB capB) (.int .i64 eB)) := by
    rw [hW]
    refine ⟨((Below.refl _ _).alloc (Nat.le_refl _) _).alloc (by simp) _, (EnB.new _ _ _ _ _).alloc _, ?_⟩
    have := EnB.new (w.alloc (.cells #[.int .i64 0, .bool sA, .slice aoA nA capA, .int .i64 eA] 61)) (.int .i64 0) (.bool sB) (.slice aoB nB capB) (.int .i64 eB)
    simpa using this
  obtain ⟨⟨a0, a1, a2, a3⟩, -⟩ := HX.out.2.1.facts
  obtain ⟨⟨b0, b1, b2, b3⟩, -⟩ := HX.out.2.2.facts
  have kk := k1 W HX.out.1
  clear k1
  go_enter Tryz.func88, Tryz.ntmps88
  go_upto_region 1 with fail
  rw [← hW]
  clear hW
  go_wp2_with fail
  refine kk.mono ?_
  rintro r w1 ⟨rfl, hb⟩
  have HB : Hid (Below w.heap.size w w1) := HX.out.1.trans (hb.mono HX.out.1.size)
  clear kk hb HX a0 a1 a2 a3 b0 b1 b2 b3
  go_wp2_with fail
  go_ret
  exact ⟨rfl, HB.out⟩
theorem dorderE {i j : Int} {t u : Bool × Nat × Int} {A B : Value} {w : World} (o1 : Ok t) (o2 : Ok u) (h1 : EN w A i t) (h2 : EN w B j u) :
    Calls Tryz.prog 88 #[A, B] w fun r w' => r = .returned (.int .i64 (ordE i j t u)) ∧ Below w.heap.size w w' := by
  obtain ⟨sA, aoA, nA, capA, eA, rfl, d1⟩ := h1
  obtain ⟨sB, aoB, nB, capB, eB, rfl, d2⟩ := h2
  unfold ordE
  by_cases h : i = j
  · rw [if_pos h]
    by_cases h0 : i = 0
    · rw [if_pos h0]
      subst h
      subst h0
      refine dorder_0 eA eB sA sB aoA aoB nA capA nB capB _ w (fun W hW => ?_)
      have d1' := d1.later hW
      have d2' := d2.later hW
      obtain ⟨ao, cap, e1, a1⟩ := d1'
      obtain ⟨ao', cap', e2, a2⟩ := d2'
      rw [e1, e2]
      (obtain ⟨f1, f2, f3, -, -⟩ := o1.facts; obtain ⟨g1, g2, g3, -, -⟩ := o2.facts; exact rorder a1 a2 (by omega) (by omega) (by omega) (by omega))
    · rw [if_neg h0]
      subst h
      exact dorder_eq i eA eB sA sB aoA aoB nA capA nB capB w (by simp [h0])
  · rw [if_neg h]
    exact dorder_ne i j eA eB sA sB aoA aoB nA capA nB capB w h
def sgE (i : Int) (t : Bool × Nat × Int) : Int := if i = 0 then (if t.2.1 = 0 then 0 else if t.1 then -1 else 1) else i
theorem dsignE {i : Int} {t : Bool × Nat × Int} {A : Value} {w : World} (h : EN w A i t) :
    Calls Tryz.prog 86 #[A] w fun r w' => r = .returned (.int .i64 (sgE i t)) ∧ Below w.heap.size w w' := by
  obtain ⟨s, ao, n, cap, e, rfl, d⟩ := h
  unfold sgE
  by_cases h0 : i = 0
  · rw [if_pos h0]
    subst h0
    refine dsign_0 e _ s ao n cap w (fun W hW => ?_)
    obtain ⟨ao', cap', e1, a1⟩ := d.later hW
    rw [e1]
    have k := rsgn (na := t.1) (ua := ao') (un := dlen t.2.1) (uc := cap') (ea := t.2.2) (w := W) a1.small
    have e2 : (if dlen t.2.1 = 0 then (0 : Int) else if t.1 then -1 else 1) = if t.2.1 = 0 then 0 else if t.1 then -1 else 1 := by
      by_cases hz : t.2.1 = 0
      · rw [if_pos hz, if_pos (dlen_eq_zero.2 hz)]
      · rw [if_neg hz, if_neg fun h => hz (dlen_eq_zero.1 h)]
    rw [e2] at k
    exact k
  · rw [if_neg h0]
    exact dsign_i i e s ao n cap w (by simp [h0])
attribute [local go_sem] run_store_flt
theorem eI_b (f : Nat) : -1 ≤ eI f ∧ eI f ≤ 1 := by
  rcases eI_cases f with h | h | h <;> rw [h] <;> omega
attribute [local go_sem] run_store_flt
def abX (a b : Nat) : Nat := if 0 ≤ sgE (eI a) (eT a) then a else if sgE (eI b) (eT b) ≤ 0 then (enF (-eI b) (tNeg (eT b)) 1) else 0
def abY (a b : Nat) : Nat := if 0 ≤ sgE (eI a) (eT a) then b else if sgE (eI b) (eT b) ≤ 0 then (enF (-eI a) (tNeg (eT a)) 3) else if 0 < ordE (-eI a) (eI b) (tNeg (eT a)) (eT b) then (enF (-eI a) (tNeg (eT a)) 3) else (enF (eI b) (eT b) 3)
theorem lt28 {k : Nat} (h : k < 2) : k = 0 ∨ k = 1 := by omega
theorem enF_0 (m : Int) : enF 0 (false, 0, 0) m = 0 := by unfold enF toD; rfl
set_option maxRecDepth 200000 in
theorem dabs_1 (a b : Nat) (w : World) (ha : a < 18446744073709551616) (hb : b < 18446744073709551616) :
    Calls Tryz.prog 56 #[.agg #[.float .f64 a, .float .f64 b]] w fun r w' => r = .returned (orV (vI a b) (abX a b) (abY a b) (.int .i64 0) (.int .i64 1)) ∧ Below w.heap.size w w' := by
  have k1 := fun W => d8valid a b ha hb W
  have HN1 : Hid (vI a b = true → isNaN a = false ∧ isNaN b = false) := vI_nn
  generalize hu : vI a b = u at *
  clear hu
  generalize hX : abX a b = X
  generalize hY : abY a b = Y
  have HXY : Hid (abX a b = X ∧ abY a b = Y) := ⟨hX, hY⟩
  clear hX hY
  obtain ⟨W, hW⟩ : ∃ W, W = ((w.alloc (.cells #[.float .f64 a, .float .f64 b] 24)).alloc (.cells #[.float .f64 0, .float .f64 0] 24)) := ⟨_, rfl⟩
  have HX : Hid (Below w.heap.size w W ∧ IvB W (w.heap.size) a b ∧ IvB W (w.heap.size + 1) 0 0) := by
    rw [hW]
    exact ⟨bxs2_0 w a b 0 0, bxs2_1 w a b 0 0, bxs2_2 w a b 0 0⟩
  have HK : Hid (∀ w', Below W.heap.size W w' → IvF w' (w.heap.size) a b ∧ IvF w' (w.heap.size + 1) 0 0) := fun w' hb => ⟨(HX.out.2.1).later hb, (HX.out.2.2).later hb⟩
  obtain ⟨⟨c0, c1, z0, z1⟩, ⟨c2, c3, z2, z3⟩⟩ := HK.out W (Below.refl _ _)
  have kv := k1 W
  clear k1
  go_enter Tryz.func56, Tryz.ntmps56
  go_upto_region 1 with fail
  rw [← hW]
  clear hW
  go_wp2_with fail
  refine kv.mono ?_
  rintro r w1 ⟨rfl, hb1⟩
  clear kv
  clear c0 z0 c1 z1 c2 z2 c3 z3
  obtain ⟨⟨c0, c1, z0, z1⟩, ⟨c2, c3, z2, z3⟩⟩ := HK.out w1 hb1
  cases u
  · have HB : Hid (Below w.heap.size w w1) := HX.out.1.trans (hb1.mono HX.out.1.size)
    have HR : Hid (IvB w1 (w.heap.size + 1) 0 0) := HX.out.2.2.box hb1
    clear hb1 HK HX
    go_wp2
    refine bodyPost_ret (results_cell_tmp_row rfl _ _ (w.heap.size + 1) 24 #[.float .f64 0, .float .f64 0] (0, 0) _ rfl (HR.out.set _ _) Tryz.underlying24 rfl iv_info) rfl ?_
    exact ⟨rfl, below_store2 HB.out (by omega) _ _⟩
  obtain ⟨Na, Nb⟩ := HN1.out (by simp)
  have HB1 : Hid (Below W.heap.size W w1) := hb1
  have HAB : Hid (a < 18446744073709551616 ∧ b < 18446744073709551616 ∧ isNaN a = false ∧ isNaN b = false) := ⟨ha, hb, Na, Nb⟩
  clear hb1 HN1 ha hb Na Nb
  go_upto_region 3 with fail
  go_cut [4, 5] from 10 to 15 (fun p q wx => ∃ (g0 g1 : Nat) (s0 : Bool) (ao0 : Option Addr) (n0 cap0 : Nat) (e0 : Int) (s1 : Bool) (ao1 : Option Addr) (n1 cap1 : Nat) (e1 : Int), p = .pointer (some ⟨g0, 0, none⟩) ∧ q = .pointer (some ⟨g1, 0, none⟩) ∧ Hid (Below w1.heap.size w1 wx ∧ EnB wx g0 (.int .i64 (eI a)) (.bool s0) (.slice ao0 n0 cap0) (.int .i64 e0) ∧ EnB wx g1 (.int .i64 (eI b)) (.bool s1) (.slice ao1 n1 cap1) (.int .i64 e1) ∧ EN wx (.agg #[.int .i64 (eI a), .bool s0, .slice ao0 n0 cap0, .int .i64 e0]) (eI a) (eT a) ∧ EN wx (.agg #[.int .i64 (eI b), .bool s1, .slice ao1 n1 cap1, .int .i64 e1]) (eI b) (eT b) ∧ w1.heap.size ≤ g0 ∧ w1.heap.size ≤ g1))
  case first =>
    refine ends_region 2 (fun k => 1) (fun k => 10 + 3 * k) (fun k => 11 + 3 * k) (fun k => 12 + 3 * k) (fun k => 4 + k) (fun k => w.heap.size) (fun k => k) (fun k => if k = 0 then a else b) w1 _ rfl (ord_of (by kernel_rfl)) ?_ ?_ ?_ ?_ ?_ ?_ ?_ ?_ ?_ ?_ ?_ ?_ ?_
    · intro k hk
      rcases lt28 hk with rfl | rfl
      · exact ⟨rfl, .inl rfl, fun w' hw => (HK.out w' (HB1.out.trans (hw.mono HB1.out.size))).1.1, HAB.out.1, HAB.out.2.2.1⟩
      · exact ⟨rfl, .inr rfl, fun w' hw => (HK.out w' (HB1.out.trans (hw.mono HB1.out.size))).1.2.1, HAB.out.2.1, HAB.out.2.2.2⟩
    · intro k hk
      rcases lt28 hk with rfl | rfl <;> decide
    · intro k hk
      rcases lt28 hk with rfl | rfl <;> exact ⟨_, rfl, rfl, rfl, rfl⟩
    · intro k hk
      rcases lt28 hk with rfl | rfl <;> exact ⟨_, rfl, rfl, rfl, rfl, ⟨_, .data⟩, by simp, rfl, rfl⟩
    · intro k hk
      rcases lt28 hk with rfl | rfl <;> exact ⟨_, rfl, rfl, ⟨_, rfl⟩, rfl, ⟨_, .data⟩, by simp, rfl, rfl⟩
    · intro k hk
      rcases lt28 hk with rfl | rfl <;> exact ⟨_, rfl, rfl, rfl, rfl⟩
    · intro k hk
      rcases lt28 hk with rfl | rfl <;> exact ⟨_, rfl, rfl, rfl, rfl, ⟨⟨_, .data⟩, by simp, rfl, rfl⟩, ⟨_, .data⟩, by simp, rfl, rfl⟩
    · show ∀ j, j < 3 * 2 → eslot (fun k => 10 + 3 * k) (fun k => 11 + 3 * k) (fun k => 12 + 3 * k) j < 43
      decide
    · show ∀ k, k < 2 → 4 + k < 43
      decide
    · decide
    · decide
    · decide
    · intro u g wx hb hk
      obtain ⟨x1, x0, cs0, x2, x3⟩ := hk 0 (by omega)
      obtain ⟨y1, y0, cs1, y2, y3⟩ := hk 1 (by omega)
      have x1' := x1
      have y1' := y1
      obtain ⟨s0, ao0, n0, cap0, e0, x4, -⟩ := x1'
      obtain ⟨s1, ao1, n1, cap1, e1, y4, -⟩ := y1'
      have x5 : cs0 = #[.int .i64 (eI a), .bool s0, .slice ao0 n0 cap0, .int .i64 e0] := by
        have := x2.symm.trans x4
        simpa using this
      have y5 : cs1 = #[.int .i64 (eI b), .bool s1, .slice ao1 n1 cap1, .int .i64 e1] := by
        have := y2.symm.trans y4
        simpa using this
      rw [x5] at x3
      rw [y5] at y3
      rw [x4] at x1
      rw [y4] at y1
      have HF : Hid (Below w1.heap.size w1 wx ∧ EnB wx (g 0) (.int .i64 (eI a)) (.bool s0) (.slice ao0 n0 cap0) (.int .i64 e0) ∧ EnB wx (g 1) (.int .i64 (eI b)) (.bool s1) (.slice ao1 n1 cap1) (.int .i64 e1) ∧ EN wx (.agg #[.int .i64 (eI a), .bool s0, .slice ao0 n0 cap0, .int .i64 e0]) (eI a) (eT a) ∧ EN wx (.agg #[.int .i64 (eI b), .bool s1, .slice ao1 n1 cap1, .int .i64 e1]) (eI b) (eT b) ∧ w1.heap.size ≤ g 0 ∧ w1.heap.size ≤ g 1) := ⟨hb, x3, y3, x1, y1, x0, y0⟩
      clear hk x0 y0 x1 x2 x3 x4 x5 y1 y2 y3 y4 y5 hb
      simp only [putL, eslot, show List.range (3 * 2) = [0, 1, 2, 3, 4, 5] from rfl, show List.range 2 = [0, 1] from rfl, List.map_cons, List.map_nil, List.cons_append, List.nil_append, List.foldl_cons, List.foldl_nil, Nat.reduceMod, Nat.reduceDiv, Nat.reduceMul, Nat.reduceAdd, Nat.reduceEqDiff, reduceIte, Nat.one_ne_zero, Act.put, List.setIfInBounds_toArray, List.set_cons_zero, List.set_cons_succ]
      go_wp2_with fail
      go_meet
      exact ⟨_, _, _, _, _, _, _, _, _, _, _, _, rfl, rfl, HF⟩
  case rest =>
    obtain ⟨w8, hw8⟩ : ∃ w8 : World, w8 = wc := ⟨_, rfl⟩
    subst hw8
    obtain ⟨g0, g1, s0, ao0, n0, cap0, e0, s1, ao1, n1, cap1, e1, rfl, rfl, HF⟩ := hcut
    have HB8 : Hid (Below W.heap.size W w8) := HB1.out.trans (HF.out.1.mono HB1.out.size)
    have HKK : Hid (∀ w', Below w8.heap.size w8 w' → (w'.cell? ⟨g0, 0, none⟩ = some (.int .i64 (eI a)) ∧ w'.cell? ⟨g0, 1, none⟩ = some (.bool s0) ∧ w'.cell? ⟨g0, 2, none⟩ = some (.slice ao0 n0 cap0) ∧ w'.cell? ⟨g0, 3, none⟩ = some (.int .i64 e0)) ∧ (w'.cell? ⟨g1, 0, none⟩ = some (.int .i64 (eI b)) ∧ w'.cell? ⟨g1, 1, none⟩ = some (.bool s1) ∧ w'.cell? ⟨g1, 2, none⟩ = some (.slice ao1 n1 cap1) ∧ w'.cell? ⟨g1, 3, none⟩ = some (.int .i64 e1))) := fun w' h => ⟨(HF.out.2.1.box h).facts.1, (HF.out.2.2.1.box h).facts.1⟩
    have HE : Hid (EN w8 (.agg #[.int .i64 (eI a), .bool s0, .slice ao0 n0 cap0, .int .i64 e0]) (eI a) (eT a) ∧ EN w8 (.agg #[.int .i64 (eI b), .bool s1, .slice ao1 n1 cap1, .int .i64 e1]) (eI b) (eT b)) := ⟨HF.out.2.2.2.1, HF.out.2.2.2.2.1⟩
    have hsz : w.heap.size + 1 < w1.heap.size := Nat.lt_of_lt_of_le HX.out.2.2.lt HB1.out.size
    have HG : Hid (¬ g0 = w.heap.size + 1 ∧ ¬ g1 = w.heap.size + 1) := ⟨by have := HF.out.2.2.2.2.2.1; omega, by have := HF.out.2.2.2.2.2.2; omega⟩
    clear hsz
    clear HF HB1 c0 c1 c2 c3 z0 z1 z2 z3
    obtain ⟨⟨a0, a1, a2, a3⟩, b0, b1, b2, b3⟩ := HKK.out w8 (Below.refl _ _)
    have kk := dsignE HE.out.1
    generalize hsa : sgE (eI a) (eT a) = sa at *
    have HSA : Hid (sgE (eI a) (eT a) = sa) := hsa
    clear hsa
    go_wp2_with fail
    refine kk.mono ?_
    rintro r w9 ⟨rfl, hb9⟩
    have H9 : Hid (Below w8.heap.size w8 w9) := hb9
    have HW9 : Hid (Below W.heap.size W w9) := HB8.out.trans (hb9.mono HB8.out.size)
    clear kk hb9 a0 a1 a2 a3 b0 b1 b2 b3
    by_cases hP : 0 ≤ sa
    · have eX : X = a := by rw [← HXY.out.1]; unfold abX; rw [HSA.out, if_pos hP]
      have eY : Y = b := by rw [← HXY.out.2]; unfold abY; rw [HSA.out, if_pos hP]
      have HXY2 : Hid (X = a ∧ Y = b) := ⟨eX, eY⟩
      clear eX eY
      have hPd : decide (sa ≥ 0) = true := decide_eq_true hP
      have hPd2 : decide (0 ≤ sa) = true := decide_eq_true hP
      obtain ⟨⟨c0, c1, z0, z1⟩, c2, c3, z2, z3⟩ := HK.out w9 HW9.out
      have HR : Hid (IvB w9 (w.heap.size + 1) 0 0) := HX.out.2.2.box HW9.out
      have HB : Hid (Below w.heap.size w w9) := HX.out.1.trans (HW9.out.mono HX.out.1.size)
      clear HK HX HKK HE H9 HW9 HB8 HSA HXY
      go_wp2
      refine bodyPost_ret (results_cell_tmp_row rfl _ _ (w.heap.size + 1) 24 #[.float .f64 a, .float .f64 b] (0, 0) _ rfl (HR.out.set _ _) Tryz.underlying24 rfl iv_info) rfl ?_
      exact ⟨by rw [HXY2.out.1, HXY2.out.2]; rfl, below_store2 HB.out (by omega) _ _⟩
    have hPd : decide (sa ≥ 0) = false := decide_eq_false hP
    have hPd2 : decide (0 ≤ sa) = false := decide_eq_false hP
    have HP : Hid (¬ 0 ≤ sa) := hP
    clear hP
    obtain ⟨⟨a0, a1, a2, a3⟩, b0, b1, b2, b3⟩ := HKK.out w9 H9.out
    have kk := dsignE (HE.out.2.later H9.out)
    generalize hsb : sgE (eI b) (eT b) = sb at *
    have HSB : Hid (sgE (eI b) (eT b) = sb) := hsb
    clear hsb
    go_wp2_with fail
    refine kk.mono ?_
    rintro r w10 ⟨rfl, hb9⟩
    have H10 : Hid (Below w8.heap.size w8 w10) := H9.out.trans (hb9.mono H9.out.size)
    have HW10 : Hid (Below W.heap.size W w10) := HB8.out.trans (H10.out.mono HB8.out.size)
    clear kk hb9 a0 a1 a2 a3 b0 b1 b2 b3 H9 HW9
    have hR : Below w8.heap.size w8 w10.drew := H10.out.drew
    by_cases hQ : sb ≤ 0
    · have eX : (enF (-eI b) (tNeg (eT b)) 1) = X := by rw [← HXY.out.1]; unfold abX; rw [HSA.out, HSB.out, if_neg (by have := HP.out; omega), if_pos hQ]
      have eY : (enF (-eI a) (tNeg (eT a)) 3) = Y := by rw [← HXY.out.2]; unfold abY; rw [HSA.out, HSB.out, if_neg (by have := HP.out; omega), if_pos hQ]
      have hQd : decide (sb ≤ 0) = true := decide_eq_true hQ
      have kT : ∀ W A B, EN W A (-eI b) (tNeg (eT b)) → EN W B (-eI a) (tNeg (eT a)) → Calls Tryz.prog 39 #[A, B] W fun r w' => r = .returned (.agg #[.float .f64 X, .float .f64 Y]) ∧ Below W.heap.size W w' := fun W A B h1 h2 => by
        have k := dTight (tNeg_ok (eT_ok b)) (tNeg_ok (eT_ok a)) h1 h2
        rw [eX, eY] at k
        exact k
      clear eX eY
      obtain ⟨⟨a0, a1, a2, a3⟩, b0, b1, b2, b3⟩ := HKK.out w10 H10.out
      obtain ⟨hne0, hne1⟩ := HG.out
      have E0 := HE.out.1.later hR
      have E1 := HE.out.2.later hR
      go_upto_region 7 with fail
      go_region_held3 (fun w' => (w'.cell? ⟨g0, 0, none⟩ = some (.int .i64 (eI a)) ∧ w'.cell? ⟨g0, 1, none⟩ = some (.bool s0) ∧ w'.cell? ⟨g0, 2, none⟩ = some (.slice ao0 n0 cap0) ∧ w'.cell? ⟨g0, 3, none⟩ = some (.int .i64 e0)) ∧ (w'.cell? ⟨g1, 0, none⟩ = some (.int .i64 (eI b)) ∧ w'.cell? ⟨g1, 1, none⟩ = some (.bool s1) ∧ w'.cell? ⟨g1, 2, none⟩ = some (.slice ao1 n1 cap1) ∧ w'.cell? ⟨g1, 3, none⟩ = some (.int .i64 e1))) (first | (with_reducible assumption) | (with_reducible exact HKK.out _ hR) | (with_reducible exact HKK.out _ H10.out) | (with_reducible refine HKK.out _ ?_; with_reducible assumption) | (refine ⟨⟨?_, ?_, ?_, ?_⟩, ?_, ?_, ?_, ?_⟩ <;> (change World.cell? (World.setCell (World.setCell _ _ _) _ _) _ = _; rw [World.cell?_setCell_other _ _ _ _ (by first | (simp; done) | (simp; omega)), World.cell?_setCell_other _ _ _ _ (by first | (simp; done) | (simp; omega))]; first | exact (HKK.out _ B).1.1 | exact (HKK.out _ B).1.2.1 | exact (HKK.out _ B).1.2.2.1 | exact (HKK.out _ B).1.2.2.2 | exact (HKK.out _ B).2.1 | exact (HKK.out _ B).2.2.1 | exact (HKK.out _ B).2.2.2.1 | exact (HKK.out _ B).2.2.2.2)) | go_keep)
        (first | (go_at_call 103; with_reducible refine (d8turn (eI_b b) E1).mono ?_; rintro r v1 ⟨A1, rfl, F1, hq⟩; have B := hR.trans (hq.mono hR.size); replace E0 := E0.later hq; clear hq E1)
               | (go_at_call 103; with_reducible refine (d8turn (eI_b a) E0).mono ?_; rintro r v2 ⟨A2, rfl, F2, hq⟩; replace B := B.trans (hq.mono B.size); replace F1 := F1.later hq; clear hq)
               | (go_at_call 39; with_reducible refine (kT _ _ _ F1 F2).mono ?_; rintro r v3 ⟨rfl, hq⟩; replace B := B.trans (hq.mono B.size); have x4 : IvF v3 (w.heap.size + 1) 0 0 := HX.out.2.2.later (HB8.out.trans (B.mono HB8.out.size)); unfold IvF at x4; obtain ⟨x0, x1, x2, x3⟩ := x4; clear hq))
      have HB : Hid (Below w.heap.size w v3) := HX.out.1.trans ((HB8.out.trans (B.mono HB8.out.size)).mono HX.out.1.size)
      have HR : Hid (IvB v3 (w.heap.size + 1) 0 0) := HX.out.2.2.box (HB8.out.trans (B.mono HB8.out.size))
      clear kT HKK HK HX hR B x0 x1 x2 x3 a0 a1 a2 a3 b0 b1 b2 b3 E0 F1 F2 HE HXY hne0 hne1 HG
      go_wp2_with fail
      refine bodyPost_ret (results_cell_tmp_row rfl _ _ (w.heap.size + 1) 24 #[.float .f64 X, .float .f64 Y] (0, 0) _ rfl (HR.out.set _ _) Tryz.underlying24 rfl iv_info) rfl ?_
      first | exact ⟨rfl, below_store2 HB.out (by omega) _ _⟩ | exact ⟨rfl, (below_store2 HB.out (by omega) _ _).drew⟩
    have hQd : decide (sb ≤ 0) = false := decide_eq_false hQ
    have HQ : Hid (¬ sb ≤ 0) := hQ
    clear hQ
    obtain ⟨⟨a0, a1, a2, a3⟩, b0, b1, b2, b3⟩ := HKK.out w10 H10.out
    have E0 := HE.out.1.later hR
    have E1 := HE.out.2.later hR
    have kO : ∀ W A B, EN W A (-eI a) (tNeg (eT a)) → EN W B (eI b) (eT b) → Calls Tryz.prog 88 #[A, B] W fun r w' => r = .returned (.int .i64 (ordE (-eI a) (eI b) (tNeg (eT a)) (eT b))) ∧ Below W.heap.size W w' := fun W A B h1 h2 => dorderE (tNeg_ok (eT_ok a)) (eT_ok b) h1 h2
    generalize hso : ordE (-eI a) (eI b) (tNeg (eT a)) (eT b) = so at *
    have HSO : Hid (ordE (-eI a) (eI b) (tNeg (eT a)) (eT b) = so) := hso
    clear hso
    go_upto_region 8 with fail
    go_region_held3 (fun w' => (w'.cell? ⟨g0, 0, none⟩ = some (.int .i64 (eI a)) ∧ w'.cell? ⟨g0, 1, none⟩ = some (.bool s0) ∧ w'.cell? ⟨g0, 2, none⟩ = some (.slice ao0 n0 cap0) ∧ w'.cell? ⟨g0, 3, none⟩ = some (.int .i64 e0)) ∧ (w'.cell? ⟨g1, 0, none⟩ = some (.int .i64 (eI b)) ∧ w'.cell? ⟨g1, 1, none⟩ = some (.bool s1) ∧ w'.cell? ⟨g1, 2, none⟩ = some (.slice ao1 n1 cap1) ∧ w'.cell? ⟨g1, 3, none⟩ = some (.int .i64 e1))) (first | (with_reducible assumption) | (with_reducible exact HKK.out _ hR) | (with_reducible exact HKK.out _ H10.out) | (with_reducible refine HKK.out _ ?_; with_reducible assumption) | go_keep)
      (first | (go_at_call 103; with_reducible refine (d8turn (eI_b a) E0).mono ?_; rintro r v1 ⟨A1, rfl, F1, hq⟩; have B := hR.trans (hq.mono hR.size); replace E1 := E1.later hq; clear hq E0)
             | (go_at_call 88; with_reducible refine (kO _ _ _ F1 E1).mono ?_; rintro r v2 ⟨rfl, hq⟩; replace B := B.trans (hq.mono B.size); clear hq F1 E1))
    have HV : Hid (Below w8.heap.size w8 v2) := B
    have HWV : Hid (Below W.heap.size W v2) := HB8.out.trans (B.mono HB8.out.size)
    clear B hR kO a0 a1 a2 a3 b0 b1 b2 b3 H10 HW10
    obtain ⟨⟨a0, a1, a2, a3⟩, b0, b1, b2, b3⟩ := HKK.out v2 HV.out
    obtain ⟨⟨c0, c1, z0, z1⟩, c2, c3, z2, z3⟩ := HK.out v2 HWV.out
    have E0 := HE.out.1.later HV.out
    have E1 := HE.out.2.later HV.out
    have N0 : EN v2 (.agg #[.int .i64 0, .bool false, .slice none 0 0, .int .i64 0]) 0 (false, 0, 0) := ⟨_, _, _, _, _, rfl, dn_nil _⟩
    have oN : Ok (false, 0, 0) := by unfold Ok; rw [dlen_zero]; rfl
    by_cases hO : 0 < so
    · have eX : X = 0 := by rw [← HXY.out.1]; unfold abX; rw [HSA.out, HSB.out, if_neg (by have := HP.out; omega), if_neg (by have := HQ.out; omega)]
      have eY : (enF (-eI a) (tNeg (eT a)) 3) = Y := by rw [← HXY.out.2]; unfold abY; rw [HSA.out, HSB.out, HSO.out, if_neg (by have := HP.out; omega), if_neg (by have := HQ.out; omega), if_pos hO]
      have hOd : decide (so > 0) = true := decide_eq_true hO
      have hOd2 : decide (0 < so) = true := decide_eq_true hO
      have kk := d8turn (eI_b a) E0
      have HN : Hid (EN v2 (.agg #[.int .i64 0, .bool false, .slice none 0 0, .int .i64 0]) 0 (false, 0, 0) ∧ Ok (false, 0, 0)) := ⟨N0, oN⟩
      have HEQ : Hid (X = 0 ∧ (enF (-eI a) (tNeg (eT a)) 3) = Y) := ⟨eX, eY⟩
      clear eX eY E0 E1 N0 oN
      go_wp2_with fail
      refine kk.mono ?_
      rintro r v3 ⟨A3, rfl, F3, hq⟩
      have kT := dTight HN.out.2 (tNeg_ok (eT_ok a)) (HN.out.1.later hq) F3
      rw [HEQ.out.2, enF_0] at kT
      have HW3 : Hid (Below W.heap.size W v3) := HWV.out.trans (hq.mono HWV.out.size)
      clear kk hq F3
      go_wp2_with fail
      refine kT.mono ?_
      rintro r v4 ⟨rfl, hq⟩
      have hW4 : Below W.heap.size W v4 := HW3.out.trans (hq.mono HW3.out.size)
      clear c0 c1 c2 c3 z0 z1 z2 z3 a0 a1 a2 a3 b0 b1 b2 b3
      obtain ⟨⟨c0, c1, z0, z1⟩, c2, c3, z2, z3⟩ := HK.out v4 hW4
      have HB : Hid (Below w.heap.size w v4) := HX.out.1.trans (hW4.mono HX.out.1.size)
      have HR : Hid (IvB v4 (w.heap.size + 1) 0 0) := HX.out.2.2.box hW4
      clear kT hq hW4 HW3 HK HX HKK HE
      go_wp2_with fail
      refine bodyPost_ret (results_cell_tmp_row rfl _ _ (w.heap.size + 1) 24 #[.float .f64 0, .float .f64 Y] (0, 0) _ rfl (HR.out.set _ _) Tryz.underlying24 rfl iv_info) rfl ?_
      exact ⟨by rw [HEQ.out.1]; rfl, below_store2 HB.out (by omega) _ _⟩
    · have eX : X = 0 := by rw [← HXY.out.1]; unfold abX; rw [HSA.out, HSB.out, if_neg (by have := HP.out; omega), if_neg (by have := HQ.out; omega)]
      have eY : (enF (eI b) (eT b) 3) = Y := by rw [← HXY.out.2]; unfold abY; rw [HSA.out, HSB.out, HSO.out, if_neg (by have := HP.out; omega), if_neg (by have := HQ.out; omega), if_neg hO]
      have hOd : decide (so > 0) = false := decide_eq_false hO
      have hOd2 : decide (0 < so) = false := decide_eq_false hO
      have kT := dTight oN (eT_ok b) N0 E1
      rw [eY, enF_0] at kT
      have HEQ : Hid (X = 0) := eX
      clear eX eY E0 E1 N0 oN
      go_wp2_with fail
      refine kT.mono ?_
      rintro r v4 ⟨rfl, hq⟩
      have hW4 : Below W.heap.size W v4 := HWV.out.trans (hq.mono HWV.out.size)
      clear c0 c1 c2 c3 z0 z1 z2 z3 a0 a1 a2 a3 b0 b1 b2 b3
      obtain ⟨⟨c0, c1, z0, z1⟩, c2, c3, z2, z3⟩ := HK.out v4 hW4
      have HB : Hid (Below w.heap.size w v4) := HX.out.1.trans (hW4.mono HX.out.1.size)
      have HR : Hid (IvB v4 (w.heap.size + 1) 0 0) := HX.out.2.2.box hW4
      clear kT hq hW4 HK HX HKK HE
      go_wp2_with fail
      refine bodyPost_ret (results_cell_tmp_row rfl _ _ (w.heap.size + 1) 24 #[.float .f64 0, .float .f64 Y] (0, 0) _ rfl (HR.out.set _ _) Tryz.underlying24 rfl iv_info) rfl ?_
      exact ⟨by rw [HEQ.out]; rfl, below_store2 HB.out (by omega) _ _⟩
theorem tF_zero8 {a : Nat} (h : mag a = 0) : tF a = (false, 0, 0) := by
  obtain ⟨-, -, -, f4, -⟩ := (tF_ok a).facts
  refine f4 ?_
  unfold tF cn
  have hm : Ie.mant a = 0 := by
    have e := (val_mant a (by omega)).1
    rw [h, val_zero] at e
    have hp := Nat.two_pow_pos (Ie.lp a + 1074).toNat
    rcases Nat.mul_eq_zero.1 e.symm with h | h
    · exact h
    · omega
  rw [if_pos hm]
theorem tF_ngt8 {b : Nat} (hb : b < 18446744073709551616) (h0 : mag b ≠ 0) : tF (ngt b) = (!(tF b).1, (tF b).2.1, (tF b).2.2) := by
  have e1 : Ie.mant (ngt b) = Ie.mant b := by unfold Ie.mant; rw [ngt_mag hb]
  have e2 : Ie.lp (ngt b) = Ie.lp b := by unfold Ie.lp; rw [ngt_mag hb]
  unfold tF cn
  rw [e1, e2, ngt_neg hb, if_neg (Ie.mant_ne h0), if_neg (Ie.mant_ne h0)]
theorem tf_cn8 {s : Bool} {z : Nat} {e m : Int} (hm : 1 ≤ m ∧ m ≤ 3) (h : z ≠ 0) : tfF (cn s z e).1 true (cn s z e).2.1 (cn s z e).2.2 m = tfF s true z e m := by
  have hs := tz_spec z z (Nat.le_refl _) h
  unfold cn
  rw [if_neg h]
  show tfF s true (z / 2 ^ tz z) (e + (tz z : Int)) m = _
  rw [← tf_shl hm, Nat.mul_comm, hs.1]
theorem tF_val8 {a : Nat} (hf : mag a < 9218868437227405312) (h0 : mag a ≠ 0) : (tF a).1 = neg a ∧ val (mag a) = (tF a).2.1 * 2 ^ ((tF a).2.2 + 1074).toNat ∧ -1074 ≤ (tF a).2.2 := by
  obtain ⟨e1, e2, e3⟩ := val_mant a hf
  have hm : Ie.mant a ≠ 0 := by
    intro h
    rw [h, Nat.zero_mul] at e1
    exact h0 ((val_eq_zero _).1 e1)
  have hs := tz_spec (Ie.mant a) (Ie.mant a) (Nat.le_refl _) hm
  unfold tF cn
  rw [if_neg hm]
  refine ⟨rfl, ?_, by show -1074 ≤ Ie.lp a + (tz (Ie.mant a) : Int); omega⟩
  show val (mag a) = Ie.mant a / 2 ^ tz (Ie.mant a) * 2 ^ (Ie.lp a + (tz (Ie.mant a) : Int) + 1074).toNat
  rw [e1, show (Ie.lp a + (tz (Ie.mant a) : Int) + 1074).toNat = tz (Ie.mant a) + (Ie.lp a + 1074).toNat by omega, Nat.pow_add, ← Nat.mul_assoc, Nat.mul_comm (Ie.mant a / 2 ^ tz (Ie.mant a)), hs.1]
theorem tf_tF8 {a : Nat} (ha : a < 18446744073709551616) (hf : mag a < 9218868437227405312) (h0 : mag a ≠ 0) (m : Int) (hm : 1 ≤ m ∧ m ≤ 3) : tfF (neg a) true (tF a).2.1 (tF a).2.2 m = a := by
  obtain ⟨M, hM, hl⟩ := sM_lt a ha
  have hc := cn_parts a M ha hf hM
  have hn : nM a = M := by unfold nM; rw [hM]; rfl
  have hb := tf_back ha hf m hm
  rw [if_neg h0, hn, show nN a = neg a by unfold nN; rw [if_neg h0]] at hb
  have hM0 : M ≠ 0 := by
    intro h
    rw [h] at hc
    have := tF_ne h0
    rw [← hc] at this
    exact this rfl
  have := tf_cn8 (s := neg a) (e := Ie.sE a) hm hM0
  rw [hc, (tF_val8 hf h0).1] at this
  rw [this, hb]
theorem val_sgn8 {x : Nat} (hx : x < 18446744073709551616) : x = if neg x then mag x + 9223372036854775808 else mag x := by
  unfold neg mag
  split <;> rename_i h <;> simp only [decide_eq_true_eq] at h <;> omega
theorem ngt_ngt8 {a : Nat} (h : a < 18446744073709551616) : ngt (ngt a) = a := by
  unfold ngt neg
  split <;> rename_i h1 <;> simp only [decide_eq_true_eq] at h1 <;> split <;> rename_i h2 <;> simp only [decide_eq_true_eq] at h2 <;> omega
theorem eI_zero_fin {f : Nat} (hf : f < 18446744073709551616) (hn : isNaN f = false) : (eI f = 0 ↔ mag f < 9218868437227405312) := by
  have n' : ¬ 9218868437227405312 < mag f := of_decide_eq_false hn
  have hv := val_sgn8 hf
  unfold eI
  constructor
  · intro h
    by_cases h1 : mag f < 9218868437227405312
    · exact h1
    · exfalso
      have e : mag f = 9218868437227405312 := by omega
      rw [e] at hv
      cases hs : neg f
      · rw [hs] at hv
        rw [if_pos (by simpa using hv)] at h
        omega
      · rw [hs] at hv
        have hv2 : f = 18442240474082181120 := by simpa using hv
        rw [if_neg (by omega), if_pos hv2] at h
        omega
  · intro h
    rw [if_neg ?_, if_neg ?_]
    · rintro rfl; revert h; decide
    · rintro rfl; revert h; decide
theorem eI_ngt {f : Nat} (hf : f < 18446744073709551616) : eI (ngt f) = -eI f := by
  unfold eI
  by_cases h1 : f = 9218868437227405312
  · subst h1; decide
  · by_cases h2 : f = 18442240474082181120
    · subst h2; decide
    · rw [if_neg h1, if_neg h2, if_neg ?_, if_neg ?_]
      · rfl
      · intro h; exact h1 (by rw [← ngt_ngt8 hf, h]; decide)
      · intro h; exact h2 (by rw [← ngt_ngt8 hf, h]; decide)
theorem eT_ngt {f : Nat} (hf : f < 18446744073709551616) : eT (ngt f) = tNeg (eT f) := by
  unfold eT
  rw [eI_ngt hf]
  by_cases h : eI f = 0
  · rw [if_pos h, if_pos (by omega)]
    unfold tNeg
    by_cases h0 : mag f = 0
    · have h0' : mag (ngt f) = 0 := by rw [ngt_mag hf]; exact h0
      rw [tF_zero8 h0, tF_zero8 h0', if_pos rfl]
    · rw [if_neg (tF_ne h0), tF_ngt8 hf h0]
  · rw [if_neg h, if_neg (by omega)]
    rfl
theorem enF_self {f : Nat} (hf : f < 18446744073709551616) (hn : isNaN f = false) {m : Int} (hm : 1 ≤ m ∧ m ≤ 3) : enF (eI f) (eT f) m = pl f := by
  unfold enF
  by_cases h : eI f = 0
  · rw [if_pos h]
    have hfin := (eI_zero_fin hf hn).1 h
    have e : eT f = tF f := by unfold eT; rw [if_pos h]
    rw [e]
    unfold toD
    by_cases h0 : mag f = 0
    · rw [tF_zero8 h0, if_pos rfl]
      have : f = 0 ∨ f = 9223372036854775808 := by
        have := val_sgn8 hf
        rw [h0] at this
        cases hs : neg f <;> rw [hs] at this <;> simp at this <;> omega
      rcases this with rfl | rfl <;> decide
    · rw [if_neg (tF_ne h0), (tF_val8 hfin h0).1, tf_tF8 hf hfin h0 m hm]
  · rw [if_neg h]
    have hv : f = 9218868437227405312 ∨ f = 18442240474082181120 := by
      unfold eI at h
      by_cases h1 : f = 9218868437227405312
      · exact .inl h1
      · rw [if_neg h1] at h
        by_cases h2 : f = 18442240474082181120
        · exact .inr h2
        · rw [if_neg h2] at h; exact absurd rfl h
    rcases hv with rfl | rfl <;> decide
theorem cmpI_neg_iff (x y : Int) : (cmpI x y < 0 ↔ x < y) ∧ (0 < cmpI x y ↔ y < x) := by
  unfold cmpI
  constructor
  · split
    · omega
    · split <;> omega
  · split
    · omega
    · split <;> omega
theorem vz_tF8 {a : Nat} (ha : a < 18446744073709551616) (hf : mag a < 9218868437227405312) : vz 5000000 (tF a).1 (tF a).2.1 (tF a).2.2 = vz 5000000 (nN a) (nM a) (Ie.sE a) := by
  obtain ⟨M, hM, hl⟩ := sM_lt a ha
  have hc := cn_parts a M ha hf hM
  have hn : nM a = M := by unfold nM; rw [hM]; rfl
  have hb : 0 ≤ Ie.sE a + (5000000 : Nat) := by
    have := (sE_le a).1
    omega
  rw [← hc, vz_cn hb, hn]
  unfold nN
  by_cases h0 : mag a = 0
  · have : M = 0 := by
      rcases of_parts a M ha hf hM with ⟨h1, h2⟩ | ⟨h1, h2, -, h3, h4⟩
      · omega
      · exfalso
        have e := tF_zero8 h0
        rw [← hc] at e
        unfold cn at e
        by_cases hM0 : M = 0
        · omega
        · rw [if_neg hM0] at e
          have e2 : M / 2 ^ tz M = 0 := congrArg (fun t => t.2.1) e
          have hs := tz_spec M M (Nat.le_refl _) hM0
          rw [e2] at hs
          have := hs.1
          omega
    subst this
    unfold vz
    rw [sv_zero, sv_zero]
  · rw [if_neg h0]
theorem tF_e5000000 (a : Nat) : 0 ≤ (tF a).2.2 + (5000000 : Nat) := by
  obtain ⟨f1, f2, f3, f4, f5⟩ := (tF_ok a).facts
  omega
theorem sE_e5000000 {a : Nat} (ha : a < 18446744073709551616) (hf : mag a < 9218868437227405312) : 0 ≤ Ie.sE a + (5000000 : Nat) := by
  have := (sE_le a).1
  omega
theorem ord_tF8 {a b : Nat} (ha : a < 18446744073709551616) (hb : b < 18446744073709551616) (fa : mag a < 9218868437227405312) (fb : mag b < 9218868437227405312) :
    ordN (tF a).1 (tF a).2.1 (tF a).2.2 (tF b).1 (tF b).2.1 (tF b).2.2 = cmpI (stp a) (stp b) := by
  rw [ordN_vz (tF_e5000000 a) (tF_e5000000 b), vz_tF8 ha fa, vz_tF8 hb fb, ← ordN_vz (sE_e5000000 ha fa) (sE_e5000000 hb fb)]
  exact ord_num fa fb
theorem inf_or {f : Nat} (hf : f < 18446744073709551616) (hn : isNaN f = false) : (mag f < 9218868437227405312 ∧ eI f = 0 ∧ eT f = tF f) ∨ (f = 9218868437227405312 ∧ eI f = 1) ∨ (f = 18442240474082181120 ∧ eI f = -1) := by
  by_cases h : eI f = 0
  · exact .inl ⟨(eI_zero_fin hf hn).1 h, h, by unfold eT; rw [if_pos h]⟩
  · by_cases h1 : f = 9218868437227405312
    · exact .inr (.inl ⟨h1, by rw [h1]; decide⟩)
    · by_cases h2 : f = 18442240474082181120
      · exact .inr (.inr ⟨h2, by rw [h2]; decide⟩)
      · exfalso
        apply h
        unfold eI
        rw [if_neg h1, if_neg h2]
theorem fin_stp {f : Nat} (h : mag f < 9218868437227405312) : -9218868437227405312 < stp f ∧ stp f < 9218868437227405312 := by
  unfold stp sgn
  split <;> omega
theorem ordE_stp {a b : Nat} (ha : a < 18446744073709551616) (hb : b < 18446744073709551616) (na : isNaN a = false) (nb : isNaN b = false) : ordE (eI a) (eI b) (eT a) (eT b) = cmpI (stp a) (stp b) := by
  have sI : stp 9218868437227405312 = 9218868437227405312 := by decide
  have sN : stp 18442240474082181120 = -9218868437227405312 := by decide
  unfold ordE
  rcases inf_or ha na with ⟨fa, ia, ta⟩ | ⟨rfl, ia⟩ | ⟨rfl, ia⟩ <;> rcases inf_or hb nb with ⟨fb, ib, tb⟩ | ⟨rfl, ib⟩ | ⟨rfl, ib⟩
  · rw [ia, ib, ta, tb, if_pos rfl, if_pos rfl, ord_tF8 ha hb fa fb]
  · have := fin_stp fa
    rw [ia, ib, if_neg (by omega), if_pos (by omega), sI]; unfold cmpI; rw [if_pos (by omega)]
  · have := fin_stp fa
    rw [ia, ib, if_neg (by omega), if_neg (by omega), sN]; unfold cmpI; rw [if_neg (by omega), if_pos (by omega)]
  · have := fin_stp fb
    rw [ia, ib, if_neg (by omega), if_neg (by omega), sI]; unfold cmpI; rw [if_neg (by omega), if_pos (by omega)]
  · rw [ia, if_pos rfl, if_neg (by omega)]; unfold cmpI; rw [if_neg (by omega), if_neg (by omega)]
  · decide
  · have := fin_stp fb
    rw [ia, ib, if_neg (by omega), if_pos (by omega), sN]; unfold cmpI; rw [if_pos (by omega)]
  · decide
  · rw [ia, if_pos rfl, if_neg (by omega)]; unfold cmpI; rw [if_neg (by omega), if_neg (by omega)]
theorem sgE_stp {a : Nat} (ha : a < 18446744073709551616) (na : isNaN a = false) : (0 ≤ sgE (eI a) (eT a) ↔ 0 ≤ stp a) ∧ (sgE (eI a) (eT a) ≤ 0 ↔ stp a ≤ 0) := by
  unfold sgE
  rcases inf_or ha na with ⟨fa, ia, ta⟩ | ⟨rfl, ia⟩ | ⟨rfl, ia⟩
  · rw [ia, ta, if_pos rfl]
    by_cases h0 : mag a = 0
    · have : stp a = 0 := by unfold stp sgn; rw [h0]; split <;> rfl
      rw [tF_zero8 h0, if_pos rfl, this]
      omega
    · rw [if_neg (tF_ne h0), (tF_val8 fa h0).1]
      unfold stp sgn
      cases neg a
      · rw [if_neg (by simp), if_neg (by simp)]; omega
      · rw [if_pos rfl, if_pos rfl]; omega
  · rw [ia, if_neg (by omega), show stp 9218868437227405312 = 9218868437227405312 by decide]; omega
  · rw [ia, if_neg (by omega), show stp 18442240474082181120 = -9218868437227405312 by decide]; omega
attribute [local go_sem] run_store_flt
theorem orV_f (x y : Nat) (g h : Value) : orV false x y g h = .tuple #[.agg #[.float .f64 0, .float .f64 0], h] := rfl
def mgX (a b : Nat) : Nat := if le 0 a then a else if le b 0 then pl (ngt b) else 0
def mgY (a b : Nat) : Nat := if le 0 a then b else if le b 0 then pl (ngt a) else fMax (ngt a) b
theorem smag (a b : Nat) (w : World) (ha : a < 18446744073709551616) (hb : b < 18446744073709551616) (na : isNaN a = false) (nb : isNaN b = false) :
    Calls Tryz.prog 53 #[.agg #[.float .f64 a, .float .f64 b]] w fun r w' => r = .returned (.agg #[.float .f64 (mgX a b), .float .f64 (mgY a b)]) ∧ Below w.heap.size w w' := by
  have k := smag_1 a b (pl (ngt b)) (pl (ngt a)) (fMax (ngt a) b) (le 0 a) (le b 0) w (ord_ge a 0 ha (by omega)) (ord_le b 0 hb (by omega)) (fun w => by rw [← negF a ha]; rfl) (fun _ _ W ts t => run_fmax W ts t _ _ (ngt_lt ha) hb (by rw [ngt_nan8 ha]; exact na) nb) (fun W => sturned a b W ha hb)
  unfold mgX mgY
  cases h1 : le 0 a
  · cases h2 : le b 0
    · rw [h1, h2] at k; exact k
    · rw [h1, h2] at k; exact k
  · rw [h1] at k; exact k
theorem abs_eq {a b : Nat} (ha : a < 18446744073709551616) (hb : b < 18446744073709551616) (hv : vI a b = true) : abX a b = mgX a b ∧ abY a b = mgY a b := by
  obtain ⟨na, nb⟩ := vI_nn hv
  obtain ⟨p1, p2⟩ := sgE_stp ha na
  obtain ⟨q1, q2⟩ := sgE_stp hb nb
  have l1 : le 0 a = decide (0 ≤ stp a) := by unfold le; rw [na, show isNaN 0 = false by decide, show stp 0 = 0 by decide]; simp
  have l2 : le b 0 = decide (stp b ≤ 0) := by unfold le; rw [nb, show isNaN 0 = false by decide, show stp 0 = 0 by decide]; simp
  have m3 : (1 : Int) ≤ 3 ∧ (3 : Int) ≤ 3 := by omega
  have m1 : (1 : Int) ≤ 1 ∧ (1 : Int) ≤ 3 := by omega
  have nna : isNaN (ngt a) = false := by rw [ngt_nan8 ha]; exact na
  have nnb : isNaN (ngt b) = false := by rw [ngt_nan8 hb]; exact nb
  have x1 : enF (-eI b) (tNeg (eT b)) 1 = pl (ngt b) := by rw [← eI_ngt hb, ← eT_ngt hb]; exact enF_self (ngt_lt hb) nnb m1
  have y1 : enF (-eI a) (tNeg (eT a)) 3 = pl (ngt a) := by rw [← eI_ngt ha, ← eT_ngt ha]; exact enF_self (ngt_lt ha) nna m3
  have y3 : enF (eI b) (eT b) 3 = pl b := enF_self hb nb m3
  have od : ordE (-eI a) (eI b) (tNeg (eT a)) (eT b) = cmpI (stp (ngt a)) (stp b) := by rw [← eI_ngt ha, ← eT_ngt ha]; exact ordE_stp (ngt_lt ha) hb nna nb
  unfold abX abY mgX mgY
  rw [x1, y1, y3, od, l1, l2]
  by_cases h1 : 0 ≤ stp a
  · have P1 := p1.2 h1
    simp only [P1, h1, decide_true, if_true]
    exact ⟨trivial, trivial⟩
  · have P1 : ¬ 0 ≤ sgE (eI a) (eT a) := fun h => h1 (p1.1 h)
    by_cases h2 : stp b ≤ 0
    · have P2 := q2.2 h2
      simp only [P1, P2, h1, h2, decide_true, decide_false, if_true, if_false, Bool.false_eq_true]
      exact ⟨trivial, trivial⟩
    · have P2 : ¬ sgE (eI b) (eT b) ≤ 0 := fun h => h2 (q2.1 h)
      simp only [P1, P2, h1, h2, decide_true, decide_false, if_true, if_false, Bool.false_eq_true]
      refine ⟨trivial, ?_⟩
      have sn := ngt_stp ha
      have pa : pl (ngt a) = ngt a := by
        unfold pl
        rw [if_neg]
        intro e
        rw [e, show stp 9223372036854775808 = 0 by decide] at sn
        omega
      have pb : pl b = b := by
        unfold pl
        rw [if_neg]
        intro e
        rw [e, show stp 9223372036854775808 = 0 by decide] at h2
        omega
      rw [pa, pb]
      obtain ⟨-, cm⟩ := cmpI_neg_iff (stp (ngt a)) (stp b)
      unfold fMax
      by_cases h3 : stp b < stp (ngt a)
      · rw [if_pos (cm.2 h3), if_neg (by omega), if_pos h3]
      · rw [if_neg (fun h => h3 (cm.1 h))]
        by_cases h4 : stp (ngt a) < stp b
        · rw [if_pos h4]
        · have e : ngt a = b := stp_eq (ngt_lt ha) hb (by omega) (by omega)
          rw [if_neg h4, if_neg h3, e]
          simp
theorem dabs8 (a b : Nat) (w : World) (ha : a < 18446744073709551616) (hb : b < 18446744073709551616) :
    Calls Tryz.prog 56 #[.agg #[.float .f64 a, .float .f64 b]] w fun r w' => r = .returned (orV (vI a b) (mgX a b) (mgY a b) (.int .i64 0) (.int .i64 1)) ∧ Below w.heap.size w w' := by
  have k := dabs_1 a b w ha hb
  cases hv : vI a b
  · rw [hv, orV_f] at k
    rw [orV_f]
    exact k
  · obtain ⟨e1, e2⟩ := abs_eq ha hb hv
    rw [hv, e1, e2] at k
    exact k
attribute [local go_sem] run_store_flt
attribute [local go_sem] run_store_flt
attribute [local go_sem] run_store_flt
attribute [local go_sem] run_store_flt
attribute [local go_sem] run_store_flt
attribute [local go_sem] run_store_flt
attribute [local go_sem] run_store_flt
attribute [local go_sem] run_store_flt
set_option maxRecDepth 200000 in
theorem dtimes_z1 (i j eA eB : Int) (sA sB : Bool) (aoA aoB : Option Addr) (nA capA nB capB : Nat) (sa sb : Int) (w : World) (ka : ∀ W, Below w.heap.size w W → Calls Tryz.prog 86 #[.agg #[.int .i64 i, .bool sA, .slice aoA nA capA, .int .i64 eA]] W fun r w' => r = .returned (.int .i64 sa) ∧ Below W.heap.size W w') (kb : ∀ W, Below w.heap.size w W → Calls Tryz.prog 86 #[.agg #[.int .i64 j, .bool sB, .slice aoB nB capB, .int .i64 eB]] W fun r w' => r = .returned (.int .i64 sb) ∧ Below W.heap.size W w') (hz : sa = 0) :
    Calls Tryz.prog 38 #[.agg #[.int .i64 i, .bool sA, .slice aoA nA capA, .int .i64 eA], .agg #[.int .i64 j, .bool sB, .slice aoB nB capB, .int .i64 eB]] w fun r w' => r = .returned (.agg #[.int .i64 0, .bool false, .slice none 0 0, .int .i64 0]) ∧ Below w.heap.size w w' := by
  obtain ⟨W, hW⟩ : ∃ W, W = ((w.alloc (.cells #[.int .i64 i, .bool sA, .slice aoA nA capA, .int .i64 eA] 61)).alloc (.cells #[.int .i64 j, .bool sB, .slice aoB nB capB, .int .i64 eB] 61)).alloc (.cells #[.int .i64 0, .bool false, .slice none 0 0, .int .i64 0] 61) := ⟨_, rfl⟩
  have HX : Hid (Below w.heap.size w W ∧ EnB W (w.heap.size) (.int .i64 i) (.bool sA) (.slice aoA nA capA) (.int .i64 eA) ∧ EnB W (w.heap.size + 1) (.int .i64 j) (.bool sB) (.slice aoB nB capB) (.int .i64 eB) ∧ EnB W (w.heap.size + 1 + 1) (.int .i64 0) (.bool false) (.slice none 0 0) (.int .i64 0)) := by
    rw [hW]
    refine ⟨(((Below.refl _ _).alloc (Nat.le_refl _) _).alloc (by simp) _).alloc (by simp; omega) _, ((EnB.new _ _ _ _ _).alloc _).alloc _, ?_, ?_⟩
    · have := (EnB.new (w.alloc (.cells #[.int .i64 i, .bool sA, .slice aoA nA capA, .int .i64 eA] 61)) (.int .i64 j) (.bool sB) (.slice aoB nB capB) (.int .i64 eB)).alloc (.cells #[.int .i64 0, .bool false, .slice none 0 0, .int .i64 0] 61)
      simpa using this
    · have := EnB.new ((w.alloc (.cells #[.int .i64 i, .bool sA, .slice aoA nA capA, .int .i64 eA] 61)).alloc (.cells #[.int .i64 j, .bool sB, .slice aoB nB capB, .int .i64 eB] 61)) (.int .i64 0) (.bool false) (.slice none 0 0) (.int .i64 0)
      simpa using this
  have HKK : Hid (∀ w', Below W.heap.size W w' → (w'.cell? ⟨w.heap.size, 0, none⟩ = some (.int .i64 i) ∧ w'.cell? ⟨w.heap.size, 1, none⟩ = some (.bool sA) ∧ w'.cell? ⟨w.heap.size, 2, none⟩ = some (.slice aoA nA capA) ∧ w'.cell? ⟨w.heap.size, 3, none⟩ = some (.int .i64 eA)) ∧ (w'.cell? ⟨w.heap.size + 1, 0, none⟩ = some (.int .i64 j) ∧ w'.cell? ⟨w.heap.size + 1, 1, none⟩ = some (.bool sB) ∧ w'.cell? ⟨w.heap.size + 1, 2, none⟩ = some (.slice aoB nB capB) ∧ w'.cell? ⟨w.heap.size + 1, 3, none⟩ = some (.int .i64 eB))) := fun w' h => ⟨(HX.out.2.1.box h).facts.1, (HX.out.2.2.1.box h).facts.1⟩
  have HKA : Hid _ := ka
  have HKB : Hid _ := kb
  clear ka kb
  obtain ⟨⟨a0, a1, a2, a3⟩, b0, b1, b2, b3⟩ := HKK.out W (Below.refl _ _)
  have kk := HKA.out W HX.out.1
  go_enter Tryz.func38, Tryz.ntmps38
  go_upto_region 1 with fail
  rw [← hW]
  clear hW
  go_wp2_with fail
  refine kk.mono ?_
  rintro r w1 ⟨rfl, hb⟩
  have HB1 : Hid (Below W.heap.size W w1) := hb
  clear kk hb a0 a1 a2 a3 b0 b1 b2 b3
  obtain ⟨⟨a0, a1, a2, a3⟩, b0, b1, b2, b3⟩ := HKK.out w1 HB1.out
  subst hz
  obtain ⟨⟨x0, x1, x2, x3⟩, x4, x5, x6, x7⟩ := (HX.out.2.2.2.box HB1.out).facts
  have HF : Hid (EnB w1 (w.heap.size + 1 + 1) (.int .i64 0) (.bool false) (.slice none 0 0) (.int .i64 0) ∧ Below w.heap.size w w1) := ⟨HX.out.2.2.2.box HB1.out, HX.out.1.trans (HB1.out.mono HX.out.1.size)⟩
  clear HX HKK HKA HKB a0 a1 a2 a3 b0 b1 b2 b3
  go_wp2
  refine bodyPost_ret (results_cell_row rfl _ _ (w.heap.size + 1 + 1) 61 #[.int .i64 0, .bool false, .slice none 0 0, .int .i64 0] (0, 0) _ rfl (HF.out.1.set _ _ _ _) Tryz.underlying61 rfl en_info) rfl ?_
  exact ⟨rfl, below_store4 HF.out.2 (by omega) _ _ _ _⟩
set_option maxRecDepth 200000 in
theorem dtimes_z2 (i j eA eB : Int) (sA sB : Bool) (aoA aoB : Option Addr) (nA capA nB capB : Nat) (sa sb : Int) (w : World) (ka : ∀ W, Below w.heap.size w W → Calls Tryz.prog 86 #[.agg #[.int .i64 i, .bool sA, .slice aoA nA capA, .int .i64 eA]] W fun r w' => r = .returned (.int .i64 sa) ∧ Below W.heap.size W w') (kb : ∀ W, Below w.heap.size w W → Calls Tryz.prog 86 #[.agg #[.int .i64 j, .bool sB, .slice aoB nB capB, .int .i64 eB]] W fun r w' => r = .returned (.int .i64 sb) ∧ Below W.heap.size W w') (hsa : sa ≠ 0) (hz : sb = 0) :
    Calls Tryz.prog 38 #[.agg #[.int .i64 i, .bool sA, .slice aoA nA capA, .int .i64 eA], .agg #[.int .i64 j, .bool sB, .slice aoB nB capB, .int .i64 eB]] w fun r w' => r = .returned (.agg #[.int .i64 0, .bool false, .slice none 0 0, .int .i64 0]) ∧ Below w.heap.size w w' := by
  obtain ⟨W, hW⟩ : ∃ W, W = ((w.alloc (.cells #[.int .i64 i, .bool sA, .slice aoA nA capA, .int .i64 eA] 61)).alloc (.cells #[.int .i64 j, .bool sB, .slice aoB nB capB, .int .i64 eB] 61)).alloc (.cells #[.int .i64 0, .bool false, .slice none 0 0, .int .i64 0] 61) := ⟨_, rfl⟩
  have HX : Hid (Below w.heap.size w W ∧ EnB W (w.heap.size) (.int .i64 i) (.bool sA) (.slice aoA nA capA) (.int .i64 eA) ∧ EnB W (w.heap.size + 1) (.int .i64 j) (.bool sB) (.slice aoB nB capB) (.int .i64 eB) ∧ EnB W (w.heap.size + 1 + 1) (.int .i64 0) (.bool false) (.slice none 0 0) (.int .i64 0)) := by
    rw [hW]
    refine ⟨(((Below.refl _ _).alloc (Nat.le_refl _) _).alloc (by simp) _).alloc (by simp; omega) _, ((EnB.new _ _ _ _ _).alloc _).alloc _, ?_, ?_⟩
    · have := (EnB.new (w.alloc (.cells #[.int .i64 i, .bool sA, .slice aoA nA capA, .int .i64 eA] 61)) (.int .i64 j) (.bool sB) (.slice aoB nB capB) (.int .i64 eB)).alloc (.cells #[.int .i64 0, .bool false, .slice none 0 0, .int .i64 0] 61)
      simpa using this
    · have := EnB.new ((w.alloc (.cells #[.int .i64 i, .bool sA, .slice aoA nA capA, .int .i64 eA] 61)).alloc (.cells #[.int .i64 j, .bool sB, .slice aoB nB capB, .int .i64 eB] 61)) (.int .i64 0) (.bool false) (.slice none 0 0) (.int .i64 0)
      simpa using this
  have HKK : Hid (∀ w', Below W.heap.size W w' → (w'.cell? ⟨w.heap.size, 0, none⟩ = some (.int .i64 i) ∧ w'.cell? ⟨w.heap.size, 1, none⟩ = some (.bool sA) ∧ w'.cell? ⟨w.heap.size, 2, none⟩ = some (.slice aoA nA capA) ∧ w'.cell? ⟨w.heap.size, 3, none⟩ = some (.int .i64 eA)) ∧ (w'.cell? ⟨w.heap.size + 1, 0, none⟩ = some (.int .i64 j) ∧ w'.cell? ⟨w.heap.size + 1, 1, none⟩ = some (.bool sB) ∧ w'.cell? ⟨w.heap.size + 1, 2, none⟩ = some (.slice aoB nB capB) ∧ w'.cell? ⟨w.heap.size + 1, 3, none⟩ = some (.int .i64 eB))) := fun w' h => ⟨(HX.out.2.1.box h).facts.1, (HX.out.2.2.1.box h).facts.1⟩
  have HKA : Hid _ := ka
  have HKB : Hid _ := kb
  clear ka kb
  obtain ⟨⟨a0, a1, a2, a3⟩, b0, b1, b2, b3⟩ := HKK.out W (Below.refl _ _)
  have kk := HKA.out W HX.out.1
  go_enter Tryz.func38, Tryz.ntmps38
  go_upto_region 1 with fail
  rw [← hW]
  clear hW
  go_wp2_with fail
  refine kk.mono ?_
  rintro r w1 ⟨rfl, hb⟩
  have HB1 : Hid (Below W.heap.size W w1) := hb
  clear kk hb a0 a1 a2 a3 b0 b1 b2 b3
  obtain ⟨⟨a0, a1, a2, a3⟩, b0, b1, b2, b3⟩ := HKK.out w1 HB1.out
  have e1 : (sa == 0) = false := by simp [hsa]
  have kk := HKB.out w1 (HX.out.1.trans (HB1.out.mono HX.out.1.size))
  go_wp2_with fail
  refine kk.mono ?_
  rintro r w2 ⟨rfl, hb⟩
  have HB2 : Hid (Below W.heap.size W w2) := HB1.out.trans (hb.mono HB1.out.size)
  clear kk hb HB1 a0 a1 a2 a3 b0 b1 b2 b3
  obtain ⟨⟨a0, a1, a2, a3⟩, b0, b1, b2, b3⟩ := HKK.out w2 HB2.out
  subst hz
  obtain ⟨⟨x0, x1, x2, x3⟩, x4, x5, x6, x7⟩ := (HX.out.2.2.2.box HB2.out).facts
  have HF : Hid (EnB w2 (w.heap.size + 1 + 1) (.int .i64 0) (.bool false) (.slice none 0 0) (.int .i64 0) ∧ Below w.heap.size w w2) := ⟨HX.out.2.2.2.box HB2.out, HX.out.1.trans (HB2.out.mono HX.out.1.size)⟩
  clear HX HKK HKA HKB a0 a1 a2 a3 b0 b1 b2 b3
  go_wp2
  refine bodyPost_ret (results_cell_row rfl _ _ (w.heap.size + 1 + 1) 61 #[.int .i64 0, .bool false, .slice none 0 0, .int .i64 0] (0, 0) _ rfl (HF.out.1.set _ _ _ _) Tryz.underlying61 rfl en_info) rfl ?_
  exact ⟨rfl, below_store4 HF.out.2 (by omega) _ _ _ _⟩
set_option maxRecDepth 200000 in
theorem dtimes_i1 (i j eA eB : Int) (sA sB : Bool) (aoA aoB : Option Addr) (nA capA nB capB : Nat) (sa sb : Int) (c : Int) (w : World) (ka : ∀ W, Below w.heap.size w W → Calls Tryz.prog 86 #[.agg #[.int .i64 i, .bool sA, .slice aoA nA capA, .int .i64 eA]] W fun r w' => r = .returned (.int .i64 sa) ∧ Below W.heap.size W w') (kb : ∀ W, Below w.heap.size w W → Calls Tryz.prog 86 #[.agg #[.int .i64 j, .bool sB, .slice aoB nB capB, .int .i64 eB]] W fun r w' => r = .returned (.int .i64 sb) ∧ Below W.heap.size W w') (hsa : sa ≠ 0) (hsb : sb ≠ 0) (hc : IntKind.i64.wrap (sa * sb) = c) (hij : i ≠ 0) :
    Calls Tryz.prog 38 #[.agg #[.int .i64 i, .bool sA, .slice aoA nA capA, .int .i64 eA], .agg #[.int .i64 j, .bool sB, .slice aoB nB capB, .int .i64 eB]] w fun r w' => r = .returned (.agg #[.int .i64 c, .bool false, .slice none 0 0, .int .i64 0]) ∧ Below w.heap.size w w' := by
  obtain ⟨W, hW⟩ : ∃ W, W = ((w.alloc (.cells #[.int .i64 i, .bool sA, .slice aoA nA capA, .int .i64 eA] 61)).alloc (.cells #[.int .i64 j, .bool sB, .slice aoB nB capB, .int .i64 eB] 61)).alloc (.cells #[.int .i64 0, .bool false, .slice none 0 0, .int .i64 0] 61) := ⟨_, rfl⟩
  have HX : Hid (Below w.heap.size w W ∧ EnB W (w.heap.size) (.int .i64 i) (.bool sA) (.slice aoA nA capA) (.int .i64 eA) ∧ EnB W (w.heap.size + 1) (.int .i64 j) (.bool sB) (.slice aoB nB capB) (.int .i64 eB) ∧ EnB W (w.heap.size + 1 + 1) (.int .i64 0) (.bool false) (.slice none 0 0) (.int .i64 0)) := by
    rw [hW]
    refine ⟨(((Below.refl _ _).alloc (Nat.le_refl _) _).alloc (by simp) _).alloc (by simp; omega) _, ((EnB.new _ _ _ _ _).alloc _).alloc _, ?_, ?_⟩
    · have := (EnB.new (w.alloc (.cells #[.int .i64 i, .bool sA, .slice aoA nA capA, .int .i64 eA] 61)) (.int .i64 j) (.bool sB) (.slice aoB nB capB) (.int .i64 eB)).alloc (.cells #[.int .i64 0, .bool false, .slice none 0 0, .int .i64 0] 61)
      simpa using this
    · have := EnB.new ((w.alloc (.cells #[.int .i64 i, .bool sA, .slice aoA nA capA, .int .i64 eA] 61)).alloc (.cells #[.int .i64 j, .bool sB, .slice aoB nB capB, .int .i64 eB] 61)) (.int .i64 0) (.bool false) (.slice none 0 0) (.int .i64 0)
      simpa using this
  have HKK : Hid (∀ w', Below W.heap.size W w' → (w'.cell? ⟨w.heap.size, 0, none⟩ = some (.int .i64 i) ∧ w'.cell? ⟨w.heap.size, 1, none⟩ = some (.bool sA) ∧ w'.cell? ⟨w.heap.size, 2, none⟩ = some (.slice aoA nA capA) ∧ w'.cell? ⟨w.heap.size, 3, none⟩ = some (.int .i64 eA)) ∧ (w'.cell? ⟨w.heap.size + 1, 0, none⟩ = some (.int .i64 j) ∧ w'.cell? ⟨w.heap.size + 1, 1, none⟩ = some (.bool sB) ∧ w'.cell? ⟨w.heap.size + 1, 2, none⟩ = some (.slice aoB nB capB) ∧ w'.cell? ⟨w.heap.size + 1, 3, none⟩ = some (.int .i64 eB))) := fun w' h => ⟨(HX.out.2.1.box h).facts.1, (HX.out.2.2.1.box h).facts.1⟩
  have HKA : Hid _ := ka
  have HKB : Hid _ := kb
  clear ka kb
  obtain ⟨⟨a0, a1, a2, a3⟩, b0, b1, b2, b3⟩ := HKK.out W (Below.refl _ _)
  have kk := HKA.out W HX.out.1
  go_enter Tryz.func38, Tryz.ntmps38
  go_upto_region 1 with fail
  rw [← hW]
  clear hW
  go_wp2_with fail
  refine kk.mono ?_
  rintro r w1 ⟨rfl, hb⟩
  have HB1 : Hid (Below W.heap.size W w1) := hb
  clear kk hb a0 a1 a2 a3 b0 b1 b2 b3
  obtain ⟨⟨a0, a1, a2, a3⟩, b0, b1, b2, b3⟩ := HKK.out w1 HB1.out
  have e1 : (sa == 0) = false := by simp [hsa]
  have kk := HKB.out w1 (HX.out.1.trans (HB1.out.mono HX.out.1.size))
  go_wp2_with fail
  refine kk.mono ?_
  rintro r w2 ⟨rfl, hb⟩
  have HB2 : Hid (Below W.heap.size W w2) := HB1.out.trans (hb.mono HB1.out.size)
  clear kk hb HB1 a0 a1 a2 a3 b0 b1 b2 b3
  obtain ⟨⟨a0, a1, a2, a3⟩, b0, b1, b2, b3⟩ := HKK.out w2 HB2.out
  have e2 : (sb == 0) = false := by simp [hsb]
  have e3 : (i != 0) = true := by simp [hij]
  clear hij
  have hR : Below W.heap.size W w2.drew := HB2.out.drew
  have qa : ∀ W', Below W.heap.size W W' → Calls Tryz.prog 86 #[.agg #[.int .i64 i, .bool sA, .slice aoA nA capA, .int .i64 eA]] W' fun r w' => r = .returned (.int .i64 sa) ∧ Below W.heap.size W w' := fun W' h => (HKA.out W' (HX.out.1.trans (h.mono HX.out.1.size))).mono fun r w' ⟨e1, e2⟩ => ⟨e1, h.trans (e2.mono h.size)⟩
  have qb : ∀ W', Below W.heap.size W W' → Calls Tryz.prog 86 #[.agg #[.int .i64 j, .bool sB, .slice aoB nB capB, .int .i64 eB]] W' fun r w' => r = .returned (.int .i64 sb) ∧ Below W.heap.size W w' := fun W' h => (HKB.out W' (HX.out.1.trans (h.mono HX.out.1.size))).mono fun r w' ⟨e1, e2⟩ => ⟨e1, h.trans (e2.mono h.size)⟩
  clear HKA HKB
  go_upto_region 4 with fail
  go_region_held3 (fun w' => (w'.cell? ⟨w.heap.size, 0, none⟩ = some (.int .i64 i) ∧ w'.cell? ⟨w.heap.size, 1, none⟩ = some (.bool sA) ∧ w'.cell? ⟨w.heap.size, 2, none⟩ = some (.slice aoA nA capA) ∧ w'.cell? ⟨w.heap.size, 3, none⟩ = some (.int .i64 eA)) ∧ (w'.cell? ⟨w.heap.size + 1, 0, none⟩ = some (.int .i64 j) ∧ w'.cell? ⟨w.heap.size + 1, 1, none⟩ = some (.bool sB) ∧ w'.cell? ⟨w.heap.size + 1, 2, none⟩ = some (.slice aoB nB capB) ∧ w'.cell? ⟨w.heap.size + 1, 3, none⟩ = some (.int .i64 eB))) (first | (with_reducible assumption) | (with_reducible exact HKK.out _ hR) | (with_reducible refine HKK.out _ ?_; with_reducible assumption) | (refine ⟨⟨?_, ?_, ?_, ?_⟩, ?_, ?_, ?_, ?_⟩ <;> (change World.cell? (World.setCell (World.setCell (World.setCell (World.setCell _ _ _) _ _) _ _) _ _) _ = _; rw [World.cell?_setCell_other _ _ _ _ (by simp), World.cell?_setCell_other _ _ _ _ (by simp), World.cell?_setCell_other _ _ _ _ (by simp), World.cell?_setCell_other _ _ _ _ (by simp)]; first | exact (HKK.out _ B).1.1 | exact (HKK.out _ B).1.2.1 | exact (HKK.out _ B).1.2.2.1 | exact (HKK.out _ B).1.2.2.2 | exact (HKK.out _ B).2.1 | exact (HKK.out _ B).2.2.1 | exact (HKK.out _ B).2.2.2.1 | exact (HKK.out _ B).2.2.2.2)) | go_keep)
    (first | (go_at_call 86; with_reducible refine (qa _ (by first | (with_reducible assumption) | exact hR)).mono ?_; rintro r v1 ⟨rfl, B⟩)
           | (go_at_call 86; with_reducible refine (qb _ (by with_reducible assumption)).mono ?_; rintro r v2 ⟨rfl, hq⟩; replace B := hq; obtain ⟨⟨x0, x1, x2, x3⟩, x4, x5, x6, x7⟩ := (HX.out.2.2.2.box hq).facts; clear hq))
  have HF : Hid (EnB v2 (w.heap.size + 1 + 1) (.int .i64 0) (.bool false) (.slice none 0 0) (.int .i64 0) ∧ Below w.heap.size w v2) := ⟨HX.out.2.2.2.box B, HX.out.1.trans (B.mono HX.out.1.size)⟩
  clear HX HKK qa qb a0 a1 a2 a3 b0 b1 b2 b3 B hR x0 x1 x2 x3 x4 x5 x6 x7
  go_wp2_with fail
  refine bodyPost_ret (results_cell_row rfl _ _ (w.heap.size + 1 + 1) 61 #[.int .i64 c, .bool false, .slice none 0 0, .int .i64 0] (0, 0) _ rfl (HF.out.1.set _ _ _ _) Tryz.underlying61 rfl en_info) rfl ?_
  first | exact ⟨rfl, below_store4 HF.out.2 (by omega) _ _ _ _⟩ | exact ⟨rfl, (below_store4 HF.out.2 (by omega) _ _ _ _).drew⟩
set_option maxRecDepth 200000 in
theorem dtimes_i2 (i j eA eB : Int) (sA sB : Bool) (aoA aoB : Option Addr) (nA capA nB capB : Nat) (sa sb : Int) (c : Int) (w : World) (ka : ∀ W, Below w.heap.size w W → Calls Tryz.prog 86 #[.agg #[.int .i64 i, .bool sA, .slice aoA nA capA, .int .i64 eA]] W fun r w' => r = .returned (.int .i64 sa) ∧ Below W.heap.size W w') (kb : ∀ W, Below w.heap.size w W → Calls Tryz.prog 86 #[.agg #[.int .i64 j, .bool sB, .slice aoB nB capB, .int .i64 eB]] W fun r w' => r = .returned (.int .i64 sb) ∧ Below W.heap.size W w') (hsa : sa ≠ 0) (hsb : sb ≠ 0) (hc : IntKind.i64.wrap (sa * sb) = c) (hij : j ≠ 0) (h0 : Hid (i = 0)) :
    Calls Tryz.prog 38 #[.agg #[.int .i64 i, .bool sA, .slice aoA nA capA, .int .i64 eA], .agg #[.int .i64 j, .bool sB, .slice aoB nB capB, .int .i64 eB]] w fun r w' => r = .returned (.agg #[.int .i64 c, .bool false, .slice none 0 0, .int .i64 0]) ∧ Below w.heap.size w w' := by
  obtain ⟨W, hW⟩ : ∃ W, W = ((w.alloc (.cells #[.int .i64 i, .bool sA, .slice aoA nA capA, .int .i64 eA] 61)).alloc (.cells #[.int .i64 j, .bool sB, .slice aoB nB capB, .int .i64 eB] 61)).alloc (.cells #[.int .i64 0, .bool false, .slice none 0 0, .int .i64 0] 61) := ⟨_, rfl⟩
  have HX : Hid (Below w.heap.size w W ∧ EnB W (w.heap.size) (.int .i64 i) (.bool sA) (.slice aoA nA capA) (.int .i64 eA) ∧ EnB W (w.heap.size + 1) (.int .i64 j) (.bool sB) (.slice aoB nB capB) (.int .i64 eB) ∧ EnB W (w.heap.size + 1 + 1) (.int .i64 0) (.bool false) (.slice none 0 0) (.int .i64 0)) := by
    rw [hW]
    refine ⟨(((Below.refl _ _).alloc (Nat.le_refl _) _).alloc (by simp) _).alloc (by simp; omega) _, ((EnB.new _ _ _ _ _).alloc _).alloc _, ?_, ?_⟩
    · have := (EnB.new (w.alloc (.cells #[.int .i64 i, .bool sA, .slice aoA nA capA, .int .i64 eA] 61)) (.int .i64 j) (.bool sB) (.slice aoB nB capB) (.int .i64 eB)).alloc (.cells #[.int .i64 0, .bool false, .slice none 0 0, .int .i64 0] 61)
      simpa using this
    · have := EnB.new ((w.alloc (.cells #[.int .i64 i, .bool sA, .slice aoA nA capA, .int .i64 eA] 61)).alloc (.cells #[.int .i64 j, .bool sB, .slice aoB nB capB, .int .i64 eB] 61)) (.int .i64 0) (.bool false) (.slice none 0 0) (.int .i64 0)
      simpa using this
  have HKK : Hid (∀ w', Below W.heap.size W w' → (w'.cell? ⟨w.heap.size, 0, none⟩ = some (.int .i64 i) ∧ w'.cell? ⟨w.heap.size, 1, none⟩ = some (.bool sA) ∧ w'.cell? ⟨w.heap.size, 2, none⟩ = some (.slice aoA nA capA) ∧ w'.cell? ⟨w.heap.size, 3, none⟩ = some (.int .i64 eA)) ∧ (w'.cell? ⟨w.heap.size + 1, 0, none⟩ = some (.int .i64 j) ∧ w'.cell? ⟨w.heap.size + 1, 1, none⟩ = some (.bool sB) ∧ w'.cell? ⟨w.heap.size + 1, 2, none⟩ = some (.slice aoB nB capB) ∧ w'.cell? ⟨w.heap.size + 1, 3, none⟩ = some (.int .i64 eB))) := fun w' h => ⟨(HX.out.2.1.box h).facts.1, (HX.out.2.2.1.box h).facts.1⟩
  have HKA : Hid _ := ka
  have HKB : Hid _ := kb
  clear ka kb
  obtain ⟨⟨a0, a1, a2, a3⟩, b0, b1, b2, b3⟩ := HKK.out W (Below.refl _ _)
  have kk := HKA.out W HX.out.1
  go_enter Tryz.func38, Tryz.ntmps38
  go_upto_region 1 with fail
  rw [← hW]
  clear hW
  go_wp2_with fail
  refine kk.mono ?_
  rintro r w1 ⟨rfl, hb⟩
  have HB1 : Hid (Below W.heap.size W w1) := hb
  clear kk hb a0 a1 a2 a3 b0 b1 b2 b3
  obtain ⟨⟨a0, a1, a2, a3⟩, b0, b1, b2, b3⟩ := HKK.out w1 HB1.out
  have e1 : (sa == 0) = false := by simp [hsa]
  have kk := HKB.out w1 (HX.out.1.trans (HB1.out.mono HX.out.1.size))
  go_wp2_with fail
  refine kk.mono ?_
  rintro r w2 ⟨rfl, hb⟩
  have HB2 : Hid (Below W.heap.size W w2) := HB1.out.trans (hb.mono HB1.out.size)
  clear kk hb HB1 a0 a1 a2 a3 b0 b1 b2 b3
  obtain ⟨⟨a0, a1, a2, a3⟩, b0, b1, b2, b3⟩ := HKK.out w2 HB2.out
  have e2 : (sb == 0) = false := by simp [hsb]
  have e3 : (j != 0) = true := by simp [hij]
  clear hij
  have h0 := h0.out
  subst h0
  have hR : Below W.heap.size W w2.drew := HB2.out.drew
  have qa : ∀ W', Below W.heap.size W W' → Calls Tryz.prog 86 #[.agg #[.int .i64 0, .bool sA, .slice aoA nA capA, .int .i64 eA]] W' fun r w' => r = .returned (.int .i64 sa) ∧ Below W.heap.size W w' := fun W' h => (HKA.out W' (HX.out.1.trans (h.mono HX.out.1.size))).mono fun r w' ⟨e1, e2⟩ => ⟨e1, h.trans (e2.mono h.size)⟩
  have qb : ∀ W', Below W.heap.size W W' → Calls Tryz.prog 86 #[.agg #[.int .i64 j, .bool sB, .slice aoB nB capB, .int .i64 eB]] W' fun r w' => r = .returned (.int .i64 sb) ∧ Below W.heap.size W w' := fun W' h => (HKB.out W' (HX.out.1.trans (h.mono HX.out.1.size))).mono fun r w' ⟨e1, e2⟩ => ⟨e1, h.trans (e2.mono h.size)⟩
  clear HKA HKB
  go_upto_region 4 with fail
  go_region_held3 (fun w' => (w'.cell? ⟨w.heap.size, 0, none⟩ = some (.int .i64 0) ∧ w'.cell? ⟨w.heap.size, 1, none⟩ = some (.bool sA) ∧ w'.cell? ⟨w.heap.size, 2, none⟩ = some (.slice aoA nA capA) ∧ w'.cell? ⟨w.heap.size, 3, none⟩ = some (.int .i64 eA)) ∧ (w'.cell? ⟨w.heap.size + 1, 0, none⟩ = some (.int .i64 j) ∧ w'.cell? ⟨w.heap.size + 1, 1, none⟩ = some (.bool sB) ∧ w'.cell? ⟨w.heap.size + 1, 2, none⟩ = some (.slice aoB nB capB) ∧ w'.cell? ⟨w.heap.size + 1, 3, none⟩ = some (.int .i64 eB))) (first | (with_reducible assumption) | (with_reducible exact HKK.out _ hR) | (with_reducible refine HKK.out _ ?_; with_reducible assumption) | (refine ⟨⟨?_, ?_, ?_, ?_⟩, ?_, ?_, ?_, ?_⟩ <;> (change World.cell? (World.setCell (World.setCell (World.setCell (World.setCell _ _ _) _ _) _ _) _ _) _ = _; rw [World.cell?_setCell_other _ _ _ _ (by simp), World.cell?_setCell_other _ _ _ _ (by simp), World.cell?_setCell_other _ _ _ _ (by simp), World.cell?_setCell_other _ _ _ _ (by simp)]; first | exact (HKK.out _ B).1.1 | exact (HKK.out _ B).1.2.1 | exact (HKK.out _ B).1.2.2.1 | exact (HKK.out _ B).1.2.2.2 | exact (HKK.out _ B).2.1 | exact (HKK.out _ B).2.2.1 | exact (HKK.out _ B).2.2.2.1 | exact (HKK.out _ B).2.2.2.2)) | go_keep)
    (first | (go_at_call 86; with_reducible refine (qa _ (by first | (with_reducible assumption) | exact hR)).mono ?_; rintro r v1 ⟨rfl, B⟩)
           | (go_at_call 86; with_reducible refine (qb _ (by with_reducible assumption)).mono ?_; rintro r v2 ⟨rfl, hq⟩; replace B := hq; obtain ⟨⟨x0, x1, x2, x3⟩, x4, x5, x6, x7⟩ := (HX.out.2.2.2.box hq).facts; clear hq))
  have HF : Hid (EnB v2 (w.heap.size + 1 + 1) (.int .i64 0) (.bool false) (.slice none 0 0) (.int .i64 0) ∧ Below w.heap.size w v2) := ⟨HX.out.2.2.2.box B, HX.out.1.trans (B.mono HX.out.1.size)⟩
  clear HX HKK qa qb a0 a1 a2 a3 b0 b1 b2 b3 B hR x0 x1 x2 x3 x4 x5 x6 x7
  go_wp2_with fail
  refine bodyPost_ret (results_cell_row rfl _ _ (w.heap.size + 1 + 1) 61 #[.int .i64 c, .bool false, .slice none 0 0, .int .i64 0] (0, 0) _ rfl (HF.out.1.set _ _ _ _) Tryz.underlying61 rfl en_info) rfl ?_
  first | exact ⟨rfl, below_store4 HF.out.2 (by omega) _ _ _ _⟩ | exact ⟨rfl, (below_store4 HF.out.2 (by omega) _ _ _ _).drew⟩
set_option maxRecDepth 200000 in
theorem dtimes_0 (i j eA eB : Int) (sA sB : Bool) (aoA aoB : Option Addr) (nA capA nB capB : Nat) (sa sb : Int) (t : Bool × Nat × Int) (w : World) (ka : ∀ W, Below w.heap.size w W → Calls Tryz.prog 86 #[.agg #[.int .i64 i, .bool sA, .slice aoA nA capA, .int .i64 eA]] W fun r w' => r = .returned (.int .i64 sa) ∧ Below W.heap.size W w') (kb : ∀ W, Below w.heap.size w W → Calls Tryz.prog 86 #[.agg #[.int .i64 j, .bool sB, .slice aoB nB capB, .int .i64 eB]] W fun r w' => r = .returned (.int .i64 sb) ∧ Below W.heap.size W w') (kt : ∀ W, Below w.heap.size w W → Calls Tryz.prog 28 #[.agg #[.bool sA, .slice aoA nA capA, .int .i64 eA], .agg #[.bool sB, .slice aoB nB capB, .int .i64 eB]] W fun r w' => ∃ C, r = .returned C ∧ DN w' C t ∧ Below W.heap.size W w') (hsa : sa ≠ 0) (hsb : sb ≠ 0) (hi : Hid (i = 0)) (hj : Hid (j = 0)) :
    Calls Tryz.prog 38 #[.agg #[.int .i64 i, .bool sA, .slice aoA nA capA, .int .i64 eA], .agg #[.int .i64 j, .bool sB, .slice aoB nB capB, .int .i64 eB]] w fun r w' => ∃ A, r = .returned A ∧ EN w' A 0 t ∧ Below w.heap.size w w' := by
  have HKT : Hid _ := kt
  clear kt
  obtain ⟨W, hW⟩ : ∃ W, W = ((w.alloc (.cells #[.int .i64 i, .bool sA, .slice aoA nA capA, .int .i64 eA] 61)).alloc (.cells #[.int .i64 j, .bool sB, .slice aoB nB capB, .int .i64 eB] 61)).alloc (.cells #[.int .i64 0, .bool false, .slice none 0 0, .int .i64 0] 61) := ⟨_, rfl⟩
  have HX : Hid (Below w.heap.size w W ∧ EnB W (w.heap.size) (.int .i64 i) (.bool sA) (.slice aoA nA capA) (.int .i64 eA) ∧ EnB W (w.heap.size + 1) (.int .i64 j) (.bool sB) (.slice aoB nB capB) (.int .i64 eB) ∧ EnB W (w.heap.size + 1 + 1) (.int .i64 0) (.bool false) (.slice none 0 0) (.int .i64 0)) := by
    rw [hW]
    refine ⟨(((Below.refl _ _).alloc (Nat.le_refl _) _).alloc (by simp) _).alloc (by simp; omega) _, ((EnB.new _ _ _ _ _).alloc _).alloc _, ?_, ?_⟩
    · have := (EnB.new (w.alloc (.cells #[.int .i64 i, .bool sA, .slice aoA nA capA, .int .i64 eA] 61)) (.int .i64 j) (.bool sB) (.slice aoB nB capB) (.int .i64 eB)).alloc (.cells #[.int .i64 0, .bool false, .slice none 0 0, .int .i64 0] 61)
      simpa using this
    · have := EnB.new ((w.alloc (.cells #[.int .i64 i, .bool sA, .slice aoA nA capA, .int .i64 eA] 61)).alloc (.cells #[.int .i64 j, .bool sB, .slice aoB nB capB, .int .i64 eB] 61)) (.int .i64 0) (.bool false) (.slice none 0 0) (.int .i64 0)
      simpa using this
  have HKK : Hid (∀ w', Below W.heap.size W w' → (w'.cell? ⟨w.heap.size, 0, none⟩ = some (.int .i64 i) ∧ w'.cell? ⟨w.heap.size, 1, none⟩ = some (.bool sA) ∧ w'.cell? ⟨w.heap.size, 2, none⟩ = some (.slice aoA nA capA) ∧ w'.cell? ⟨w.heap.size, 3, none⟩ = some (.int .i64 eA)) ∧ (w'.cell? ⟨w.heap.size + 1, 0, none⟩ = some (.int .i64 j) ∧ w'.cell? ⟨w.heap.size + 1, 1, none⟩ = some (.bool sB) ∧ w'.cell? ⟨w.heap.size + 1, 2, none⟩ = some (.slice aoB nB capB) ∧ w'.cell? ⟨w.heap.size + 1, 3, none⟩ = some (.int .i64 eB))) := fun w' h => ⟨(HX.out.2.1.box h).facts.1, (HX.out.2.2.1.box h).facts.1⟩
  have HKA : Hid _ := ka
  have HKB : Hid _ := kb
  clear ka kb
  obtain ⟨⟨a0, a1, a2, a3⟩, b0, b1, b2, b3⟩ := HKK.out W (Below.refl _ _)
  have kk := HKA.out W HX.out.1
  go_enter Tryz.func38, Tryz.ntmps38
  go_upto_region 1 with fail
  rw [← hW]
  clear hW
  go_wp2_with fail
  refine kk.mono ?_
  rintro r w1 ⟨rfl, hb⟩
  have HB1 : Hid (Below W.heap.size W w1) := hb
  clear kk hb a0 a1 a2 a3 b0 b1 b2 b3
  obtain ⟨⟨a0, a1, a2, a3⟩, b0, b1, b2, b3⟩ := HKK.out w1 HB1.out
  have e1 : (sa == 0) = false := by simp [hsa]
  have kk := HKB.out w1 (HX.out.1.trans (HB1.out.mono HX.out.1.size))
  go_wp2_with fail
  refine kk.mono ?_
  rintro r w2 ⟨rfl, hb⟩
  have HB2 : Hid (Below W.heap.size W w2) := HB1.out.trans (hb.mono HB1.out.size)
  clear kk hb HB1 a0 a1 a2 a3 b0 b1 b2 b3
  obtain ⟨⟨a0, a1, a2, a3⟩, b0, b1, b2, b3⟩ := HKK.out w2 HB2.out
  have e2 : (sb == 0) = false := by simp [hsb]
  have hi := hi.out
  have hj := hj.out
  subst hi
  subst hj
  have kk := HKT.out w2 (HX.out.1.trans (HB2.out.mono HX.out.1.size))
  clear HKT HKA HKB
  go_wp2_with fail
  refine kk.mono ?_
  rintro r w3 ⟨A, rfl, hA, hb⟩
  obtain ⟨s, ao, n, cap, e, rfl⟩ := hA.shape
  have hB3 := HB2.out.trans (hb.mono HB2.out.size)
  have hE := HX.out.2.2.2.box hB3
  obtain ⟨⟨x0, x1, x2, x3⟩, x4, x5, x6, x7⟩ := hE.facts
  have HF : Hid (DN w3 (.agg #[.bool s, .slice ao n cap, .int .i64 e]) t ∧ EnB w3 (w.heap.size + 1 + 1) (.int .i64 0) (.bool false) (.slice none 0 0) (.int .i64 0) ∧ Below w.heap.size w w3) := ⟨hA, hE, HX.out.1.trans (hB3.mono HX.out.1.size)⟩
  clear hb hE hA HX kk a0 a1 a2 a3 b0 b1 b2 b3 HKK hB3 HB2
  go_wp2_with fail
  refine bodyPost_ret (results_cell_row rfl _ _ (w.heap.size + 1 + 1) 61 #[.int .i64 0, .bool s, .slice ao n cap, .int .i64 e] (0, 0) _ rfl (HF.out.2.1.set _ _ _ _) Tryz.underlying61 rfl en_info) rfl ?_
  exact ⟨_, rfl, ⟨s, ao, n, cap, e, rfl, dn_store48 HF.out.1 HF.out.2.1 _ _ _ _⟩, below_store4 HF.out.2.2 (by omega) _ _ _ _⟩
def tmI (i j : Int) (t u : Bool × Nat × Int) : Int := if sgE i t = 0 ∨ sgE j u = 0 then 0 else if i ≠ 0 ∨ j ≠ 0 then sgE i t * sgE j u else 0
def tmT (i j : Int) (t u : Bool × Nat × Int) : Bool × Nat × Int := if sgE i t = 0 ∨ sgE j u = 0 then (false, 0, 0) else if i ≠ 0 ∨ j ≠ 0 then (false, 0, 0) else tM t u
theorem sgE_b {i : Int} (t : Bool × Nat × Int) (h : -1 ≤ i ∧ i ≤ 1) : -1 ≤ sgE i t ∧ sgE i t ≤ 1 := by
  unfold sgE
  split
  · split
    · omega
    · split <;> omega
  · exact h
theorem mul_b {x y : Int} (h1 : -1 ≤ x ∧ x ≤ 1) (h2 : -1 ≤ y ∧ y ≤ 1) : -1 ≤ x * y ∧ x * y ≤ 1 := by
  rcases (show x = -1 ∨ x = 0 ∨ x = 1 by omega) with rfl | rfl | rfl <;> omega
end Go.Proofs.YtcoclopllbfjcaaGreatDoor
