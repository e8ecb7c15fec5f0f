/- Own work: contracts of the program's functions, part 25: FS7 FS8 FS9 PX. -/
import Derived.Test.YtcdkkpjilgmncaaGreatDoorA21
import Derived.Test.YtcdkkpjilgmncaaGreatDoorA16
import Derived.Test.YtcdkkpjilgmncaaGreatDoorA7
import Derived.Test.YtcdkkpjilgmncaaGreatDoorA17
import Derived.Test.YtcdkkpjilgmncaaGreatDoorA24
import Derived.Test.YtcdkkpjilgmncaaGreatDoorA18

set_option maxHeartbeats 16000000
namespace Go.Proofs.YtcdkkpjilgmncaaGreatDoor
set_option linter.unusedVariables false
set_option linter.unusedSimpArgs false
open Go.RowKit Go.Fl64
attribute [local go_sem] run_store_flt
set_option maxRecDepth 200000 in
theorem give8_1 (ng : Bool) (b o n cap z : Nat) (e : Int) (w : World) (hn0 : 0 < n) (hn : n ≤ 35184372088832) (hcell : ∀ i, i < n → w.cell? ⟨b, o + i, none⟩ = some (.int .u32 (dg z i : Nat))) :
    Calls Tryz.prog 7 #[.agg #[.bool ng, .slice (some ⟨b, o, none⟩) n cap, .int .i64 e]] w fun r w' => ∃ v, r = .returned (.agg #[.bool ng, v, .int .i64 e]) ∧ Dn w' w.heap.size v n z ∧ Below w.heap.size w w' := by
  obtain ⟨W, hW⟩ : ∃ W, W = (w.alloc (.cells #[.bool ng, .slice (some ⟨b, o, none⟩) n cap, .int .i64 e] 27)).alloc (.cells #[.bool false, .slice none 0 0, .int .i64 0] 28) := ⟨_, rfl⟩
  have hBW : Below w.heap.size w W := by rw [hW]; exact ((Below.refl _ _).alloc (Nat.le_refl _) _).alloc (by simp) _
  have hbA : W.heap[w.heap.size]? = some (.cells #[.bool ng, .slice (some ⟨b, o, none⟩) n cap, .int .i64 e] 27 (0, 0)) := by
    rw [hW, Below.heap_alloc _ _ _ (by simp)]; exact heap_alloc_new _ _
  have hbB : W.heap[w.heap.size + 1]? = some (.cells #[.bool false, .slice none 0 0, .int .i64 0] 28 (0, 0)) := by
    have := heap_alloc_new (w.alloc (.cells #[.bool ng, .slice (some ⟨b, o, none⟩) n cap, .int .i64 e] 27)) (.cells #[.bool false, .slice none 0 0, .int .i64 0] 28)
    rw [hW]; simpa using this
  have hsz : W.heap.size = w.heap.size + 1 + 1 := by rw [hW]; simp
  have HN : Hid (∀ j u, (cells z n)[j]? = some u → W.drew.cell? ((⟨b, o, none⟩ : Addr).add j) = some u) := fun j u hj => by
    have hjl : j < n := by
      have := (List.getElem?_eq_some_iff.1 hj).1
      rwa [cells_length] at this
    rw [cells_get hjl] at hj
    rw [show (⟨b, o, none⟩ : Addr).add j = ⟨b, o + j, none⟩ by simp [Addr.add], ← hj]
    exact (hBW.cell (World.block_lt_of_cell? _ _ (hcell j hjl))).trans (hcell j hjl)
  have HX : Hid (Below w.heap.size w W ∧ W.heap.size = w.heap.size + 1 + 1 ∧ W.heap[w.heap.size]? = some (.cells #[.bool ng, .slice (some ⟨b, o, none⟩) n cap, .int .i64 e] 27 (0, 0)) ∧ W.heap[w.heap.size + 1]? = some (.cells #[.bool false, .slice none 0 0, .int .i64 0] 28 (0, 0))) := ⟨hBW, hsz, hbA, hbB⟩
  obtain ⟨⟨a0, a1, a2⟩, -⟩ := box_cells29 hbA
  clear hbA hbB hsz hBW hcell
  obtain ⟨i0, hi0, hz0, hz1, hz2⟩ := info_parts Tryz.info60
  go_enter Tryz.func7, Tryz.ntmps7
  go_upto_region 2 with fail
  rw [← hW]
  clear hW
  go_region_held3 (fun w' => w'.cell? ⟨w.heap.size, 0, none⟩ = some (.bool ng) ∧ w'.cell? ⟨w.heap.size, 1, none⟩ = some (.slice (some ⟨b, o, none⟩) n cap) ∧ w'.cell? ⟨w.heap.size, 2, none⟩ = some (.int .i64 e)) (first | (with_reducible assumption) | exact ⟨a0, a1, a2⟩ | exact hS2 | go_keep)
    (first | (refine step_append_grows rfl (.tmp 6) (.tmp 8) 25 rfl 60 i0 (.int .u32 0) 1 4 Tryz.underlying25 hi0 hz0 hz1 hz2 rfl (by decide) none 0 0 [] (by simp [Act.eval, Act.put]) (fun _ => ⟨rfl, rfl⟩) rfl (fun _ h => by cases h) ⟨b, o, none⟩ n cap (cells z n) (by simp [Act.eval, Act.put]) (by rw [cells_length, Nat.mul_one]) HN.out (by intro u hu; simp [cells] at hu; obtain ⟨j, -, rfl⟩ := hu; rfl) (by omega) (by unfold maxLen; omega) (by omega) ?_; intro v' w2 hown hgrow; rw [Nat.zero_add, List.nil_append] at hown; have HG : Hid (Below W.heap.size W w2) := Below.grown (Below.refl W.heap.size W).drew hgrow (Nat.le_refl _) (fun k hk => by cases hk); have hb2 := box_later HX.out.2.2.2 HG.out (by have := HX.out.2.1; omega); obtain ⟨⟨x1, x2, x3⟩, x4, x5, x6⟩ := box_cells hb2; obtain ⟨g2, cap2, cur2, rfl, hg2, hc2, hc3, hc4, hc5, hc6⟩ := (hown.2.resolve_left fun h => by omega); have HR : Hid (w2.heap[w.heap.size + 1]? = some (.cells #[.bool false, .slice none 0 0, .int .i64 0] 28 (0, 0)) ∧ W.heap.size ≤ g2 ∧ w2.heap[g2]? = some (.cells cur2 60 (0, 0)) ∧ (n ≤ cap2 ∧ cap2 ≤ 9223372036854775807) ∧ cur2.size = cap2 * 1 ∧ cur2.toList.take (n * 1) = cells z n) := ⟨hb2, hg2, hc2, ⟨hc3, by unfold maxLen at hc4; omega⟩, hc5, hc6⟩; have hS2 := (box_cells29 (box_later HX.out.2.2.1 HG.out (by have := HX.out.2.1; omega))).1; clear hown hgrow hb2 hg2 hc2 hc3 hc4 hc5 hc6))
  have HR2 : Hid (w2.heap[w.heap.size + 1]? = some (.cells #[.bool false, .slice none 0 0, .int .i64 0] 28 (0, 0)) ∧ W.heap.size ≤ g2 ∧ w2.heap[g2]? = some (.cells cur2 60 (0, 0)) ∧ (n ≤ cap2 ∧ cap2 ≤ 9223372036854775807) ∧ cur2.size = cap2 * 1 ∧ cur2.toList.take (n * 1) = cells z n) := HR
  clear hS2 x1 x2 x3 x4 x5 x6 a0 a1 a2 hi0 hz0 hz1 hz2 HR HN
  go_wp2
  refine bodyPost_ret (results_cell_row rfl _ _ (w.heap.size + 1) 28 #[.bool ng, .slice (some ⟨g2, 0, none⟩) n cap2, .int .i64 e] (0, 0) _ rfl (store3 _ _ _ HR2.out.1) Tryz.underlying28 rfl Tryz.info28) rfl ?_
  obtain ⟨h1, h2, h3, h4, h5, h6⟩ := HR2.out
  obtain ⟨q1, q2, -, -⟩ := HX.out
  refine ⟨_, rfl, .inr ⟨g2, cap2, cur2, rfl, by omega, h4, ?_, by omega, fun i hi => ?_⟩, below_store3 (q1.trans (HG.out.mono q1.size)) (by omega) _ _ _⟩
  · rw [setCell_block _ _ (by omega), setCell_block _ _ (by omega), setCell_block _ _ (by omega)]
    exact h3
  · have h7 : (cells z n)[i]? = cur2[i]? := by
      rw [← h6, Nat.mul_one, List.getElem?_take, if_pos hi, Array.getElem?_toList]
    rw [← h7, cells_get hi]
set_option maxRecDepth 200000 in
theorem give8_0 (ng : Bool) (ao : Option Addr) (cap : Nat) (e : Int) (w : World) (hao : (∃ ad, ao = some ad) ∨ (ao = none ∧ cap = 0)) :
    Calls Tryz.prog 7 #[.agg #[.bool ng, .slice ao 0 cap, .int .i64 e]] w fun r w' => r = .returned (.agg #[.bool ng, .slice none 0 0, .int .i64 e]) ∧ Below w.heap.size w w' := by
  obtain ⟨W, hW⟩ : ∃ W, W = (w.alloc (.cells #[.bool ng, .slice ao 0 cap, .int .i64 e] 27)).alloc (.cells #[.bool false, .slice none 0 0, .int .i64 0] 28) := ⟨_, rfl⟩
  have hBW : Below w.heap.size w W := by rw [hW]; exact ((Below.refl _ _).alloc (Nat.le_refl _) _).alloc (by simp) _
  have hbA : W.heap[w.heap.size]? = some (.cells #[.bool ng, .slice ao 0 cap, .int .i64 e] 27 (0, 0)) := by
    rw [hW, Below.heap_alloc _ _ _ (by simp)]; exact heap_alloc_new _ _
  have hbB : W.heap[w.heap.size + 1]? = some (.cells #[.bool false, .slice none 0 0, .int .i64 0] 28 (0, 0)) := by
    have := heap_alloc_new (w.alloc (.cells #[.bool ng, .slice ao 0 cap, .int .i64 e] 27)) (.cells #[.bool false, .slice none 0 0, .int .i64 0] 28)
    rw [hW]; simpa using this
  have hsz : W.heap.size = w.heap.size + 1 + 1 := by rw [hW]; simp
  have HX : Hid (Below w.heap.size w W ∧ W.heap.size = w.heap.size + 1 + 1 ∧ W.heap[w.heap.size]? = some (.cells #[.bool ng, .slice ao 0 cap, .int .i64 e] 27 (0, 0)) ∧ W.heap[w.heap.size + 1]? = some (.cells #[.bool false, .slice none 0 0, .int .i64 0] 28 (0, 0))) := ⟨hBW, hsz, hbA, hbB⟩
  have HAO : Hid ((∃ ad, ao = some ad) ∨ (ao = none ∧ cap = 0)) := hao
  obtain ⟨⟨a0, a1, a2⟩, -⟩ := box_cells29 hbA
  clear hbA hbB hsz hBW hao
  obtain ⟨i0, hi0, hz0, hz1, hz2⟩ := info_parts Tryz.info60
  go_enter Tryz.func7, Tryz.ntmps7
  go_upto_region 2 with fail
  rw [← hW]
  clear hW
  go_region_held3 (fun w' => w'.cell? ⟨w.heap.size, 0, none⟩ = some (.bool ng) ∧ w'.cell? ⟨w.heap.size, 1, none⟩ = some (.slice ao 0 cap) ∧ w'.cell? ⟨w.heap.size, 2, none⟩ = some (.int .i64 e)) (first | (with_reducible assumption) | exact ⟨a0, a1, a2⟩ | exact hS2 | go_keep)
    (first | (refine step_append_zero rfl (.tmp 6) (.tmp 8) 25 rfl 60 i0 (.int .u32 0) 1 4 Tryz.underlying25 hi0 hz0 hz1 hz2 rfl (by decide) (by simp [Act.eval, Act.put]) ao cap (by simp [Act.eval, Act.put]) HAO.out ?_; intro w2 hb; have HG : Hid (Below W.heap.size W w2) := (Below.refl W.heap.size W).drew.trans hb; have hb2 := box_later HX.out.2.2.2 HG.out (by have := HX.out.2.1; omega); obtain ⟨⟨x1, x2, x3⟩, x4, x5, x6⟩ := box_cells hb2; have HR : Hid (w2.heap[w.heap.size + 1]? = some (.cells #[.bool false, .slice none 0 0, .int .i64 0] 28 (0, 0))) := hb2; have hS2 := (box_cells29 (box_later HX.out.2.2.1 HG.out (by have := HX.out.2.1; omega))).1; clear hb hb2))
  have HR2 : Hid (w2.heap[w.heap.size + 1]? = some (.cells #[.bool false, .slice none 0 0, .int .i64 0] 28 (0, 0))) := HR
  clear hS2 x1 x2 x3 x4 x5 x6 a0 a1 a2 hi0 hz0 hz1 hz2 HR
  go_wp2
  refine bodyPost_ret (results_cell_row rfl _ _ (w.heap.size + 1) 28 #[.bool ng, .slice none 0 0, .int .i64 e] (0, 0) _ rfl (store3 _ _ _ HR2.out) Tryz.underlying28 rfl Tryz.info28) rfl ?_
  obtain ⟨q1, q2, -, -⟩ := HX.out
  exact ⟨rfl, below_store3 (q1.trans (HG.out.mono q1.size)) (by omega) _ _ _⟩
theorem give8_ok {ng : Bool} {ao : Option Addr} {n cap z : Nat} {e : Int} {w : World} (h : Arg w ao n cap z) :
    Calls Tryz.prog 7 #[.agg #[.bool ng, .slice ao n cap, .int .i64 e]] w fun r w' => ∃ v, r = .returned (.agg #[.bool ng, v, .int .i64 e]) ∧ Dn w' w.heap.size v n z ∧ Below w.heap.size w w' := by
  by_cases h0 : n = 0
  · subst h0
    refine (give8_0 ng ao cap e w (h.nil rfl)).mono ?_
    rintro r w' ⟨rfl, hb⟩
    exact ⟨_, rfl, .inl ⟨rfl, rfl⟩, hb⟩
  · obtain ⟨b, o, h1, h2⟩ := h.at_
    obtain rfl := h1 (by omega)
    exact give8_1 ng b o n cap z e w (by omega) h.small h2
set_option maxRecDepth 200000 in
theorem equal8_1 (s : Bool) (e : Int) (ua va : Option Addr) (n uc vc x : Nat) (w : World) (h1 : At w ua n x) (h2 : At w va n x) (hn : n ≤ 35184372088832) :
    Calls Tryz.prog 9 #[.agg #[.bool s, .slice ua n uc, .int .i64 e], .agg #[.bool s, .slice va n vc, .int .i64 e]] w fun r w' => r = .returned (.bool true) ∧ Below w.heap.size w w' := by
  obtain ⟨W, hW⟩ : ∃ W, W = (w.alloc (.cells #[.bool s, .slice ua n uc, .int .i64 e] 28)).alloc (.cells #[.bool s, .slice va n vc, .int .i64 e] 27) := ⟨_, rfl⟩
  have hBW : Below w.heap.size w W := by rw [hW]; exact ((Below.refl _ _).alloc (Nat.le_refl _) _).alloc (by simp) _
  have hbA : W.heap[w.heap.size]? = some (.cells #[.bool s, .slice ua n uc, .int .i64 e] 28 (0, 0)) := by
    rw [hW, Below.heap_alloc _ _ _ (by simp)]; exact heap_alloc_new _ _
  have hbB : W.heap[w.heap.size + 1]? = some (.cells #[.bool s, .slice va n vc, .int .i64 e] 27 (0, 0)) := by
    rw [hW]
    have := heap_alloc_new (w.alloc (.cells #[.bool s, .slice ua n uc, .int .i64 e] 28)) (.cells #[.bool s, .slice va n vc, .int .i64 e] 27)
    simpa using this
  obtain ⟨⟨a0, a1, a2⟩, -⟩ := box_cells hbA
  obtain ⟨⟨b0, b1, b2⟩, -⟩ := box_cells29 hbB
  have i1 := h1.later hBW
  have i2 := h2.later hBW
  have HH : Hid (Below w.heap.size w W) := hBW
  have HA : Hid (∀ d, ((W.drewN d).cell? ⟨w.heap.size, 1, none⟩ = some (.slice ua n uc) ∧ (W.drewN d).cell? ⟨w.heap.size + 1, 1, none⟩ = some (.slice va n vc)) ∧ At (W.drewN d) ua n x ∧ At (W.drewN d) va n x) := fun d => ⟨⟨a1, b1⟩, i1, i2⟩
  have t1 : (s != s) = false := by simp
  have t2 : (e != e) = false := by simp
  have t3 : ((n : Int) != (n : Int)) = false := by simp
  have hsz : (w.alloc (.cells #[.bool s, .slice ua n uc, .int .i64 e] 28)).heap.size = w.heap.size + 1 := by simp
  clear hbA hbB h1 h2 hBW i1 i2
  rw [hW] at a0 a1 a2 b0 b1 b2
  go_enter Tryz.func9, Tryz.ntmps9
  go_wp2_with fail
  rw [← hW]
  clear hW a0 a1 a2 b0 b1 b2 hsz
  go_loopw [5] (fun v wr => ∃ (i d : Nat), i ≤ n ∧ v = .int .i64 (i : Int) ∧ wr = W.drewN d) (fun v _ => n - (intOf v).toNat)
  case atStart => exact ⟨0, 0, Nat.zero_le _, rfl, rfl⟩
  case round =>
    obtain ⟨i, d, hi, rfl, rfl⟩ := hrel
    obtain ⟨⟨c1, c2⟩, ⟨ba, oa, ha, hca⟩, ⟨bb, ob, hb, hcb⟩⟩ := HA.out d
    by_cases hin : i < n
    · obtain rfl := ha (by omega)
      obtain rfl := hb (by omega)
      have g1 := hca i hin
      have g2 := hcb i hin
      have hii : (i : Int) < (n : Int) := by omega
      generalize dg x i = q at *
      have t4 : ((q : Int) != (q : Int)) = false := by simp
      clear hca hcb ha hb
      have HW : Hid (∃ d', W.drewN d = W.drewN d') := ⟨d, rfl⟩
      generalize W.drewN d = wd at *
      go_wp2
      go_quiet (fail)
      go_wp2
      obtain ⟨d', rfl⟩ := HW.out
      exact ⟨⟨i + 1, _, by omega, by simp, World.drewN_drewN ..⟩, by simp [intOf]; omega⟩
    · obtain rfl : i = n := by omega
      clear hca hcb ha hb hin
      have HF : Hid (Below w.heap.size w (W.drewN d)) := ⟨HH.out.os, HH.out.tape, HH.out.output, HH.out.size, HH.out.block⟩
      generalize W.drewN d = wd at *
      go_wp2
      go_ret
      exact ⟨rfl, HF.out⟩
theorem run_bldI (a b : Nat) (w : World) : (Instr.build 24 #[(0, .float .f64 a), (1, .float .f64 b)]).run Tryz.prog w = .ok (.agg #[.float .f64 a, .float .f64 b]) w := run_build w _ _ _ (by kernel_rfl)
theorem owp_bldI {Q : Exit → Act → World → Prop} {o : Oper} {K : Act → World → Prop} {a : Act} {w : World} {s t : Tmp} {x y : Nat} (hop : o.op = .build 24 #[(0, .tmp s), (1, .tmp t)]) (hs : a.tmps[s]? = some (.float .f64 x)) (ht : a.tmps[t]? = some (.float .f64 y)) (h : K (a.put o.dst (.agg #[.float .f64 x, .float .f64 y])) w) : o.wp Tryz.prog a w K Q :=
  owp_run1 (w' := w) (by simp [execOp, hop, eval_get hs, eval_get ht, run_bldI]) h
theorem map3c {a : Act} {s t : Tmp} {v u c : Value} (h : a.tmps[s]? = some v) (h' : a.tmps[t]? = some u) : #[Operand.tmp s, Operand.tmp t, Operand.const c].map a.eval = #[v, u, c] := by simp [Act.eval, h, h']
theorem map1t {a : Act} {s : Tmp} {v : Value} (h : a.tmps[s]? = some v) : #[Operand.tmp s].map a.eval = #[v] := by simp [eval_get h]
theorem owp_cst8 {P : Program} {Q : Exit → Act → World → Prop} {o : Oper} {K : Act → World → Prop} {a : Act} {w : World} {v : Value} (hop : o.op = .assign (.const v)) (h : K (a.put o.dst v) w) : o.wp P a w K Q :=
  owp_run1 (w' := w) (by simp [execOp, hop, Act.eval]) h
def IvC (cs : Array Value) : Prop := ∃ x y : Nat, cs = #[.float .f64 x, .float .f64 y]
theorem Arg.keepI {W0 V : World} {n : Nat} {gs : Nat → Nat} {B : Nat} {ao : Option Addr} {m cap z : Nat} {T : TypeId} (hK : KeepB n gs B W0 V) (hbox : ∀ k, k < n → ∃ cs, W0.heap[gs k]? = some (.cells cs T (0, 0)) ∧ IvC cs) (h1 : Arg W0 ao m cap z) : Arg V ao m cap z := by
  obtain ⟨bb, o, h4, h5⟩ := h1.at_
  refine ⟨h1.nil, ⟨bb, o, h4, fun i hi => ?_⟩, h1.le, h1.small⟩
  have hc := h5 i hi
  have hlt : bb < W0.heap.size := World.block_lt_of_cell? _ _ hc
  have hne : ∀ k, k < n → bb ≠ gs k := by
    rintro k hk rfl
    obtain ⟨cs, hE, _, _, rfl⟩ := hbox k hk
    simp only [World.cell?, hE] at hc
    rcases (show o + i = 0 ∨ o + i = 1 ∨ 2 ≤ o + i by omega) with e | e | e
    · rw [e] at hc; simp at hc
    · rw [e] at hc; simp at hc
    · rw [Array.getElem?_eq_none (by simpa using e)] at hc; cases hc
  have := hK.keep bb hlt hne
  unfold World.cell? at hc ⊢
  rw [this]
  exact hc
theorem equal8 {w : World} {A C : Value} {t : Bool × Nat × Int} (hA : PN w A t) (hC : DN w C t) : Calls Tryz.prog 9 #[A, C] w fun r w' => r = .returned (.bool true) ∧ Below w.heap.size w w' := by
  obtain ⟨ao, cap, rfl, hI⟩ := hA
  obtain ⟨ao', cap', rfl, hI'⟩ := hC
  obtain ⟨oo, cc, e, h1, h2, h3⟩ := hI
  cases e
  exact equal8_1 _ _ _ _ _ _ _ _ w h3 hI'.at_ hI'.small
set_option maxRecDepth 200000 in
theorem pfrac_no (s1 : Bool) (ao1 : Option Addr) (n1 cp1 : Nat) (e1 : Int) (s2 : Bool) (ao2 : Option Addr) (n2 cp2 : Nat) (e2 : Int) (E : Int) (w : World) (hE : (E == 0) = false) (k1 : ∀ W, Below w.heap.size w W → Calls Tryz.prog 21 #[.agg #[.bool s1, .slice ao1 n1 cp1, .int .i64 e1], .agg #[.bool s2, .slice ao2 n2 cp2, .int .i64 e2], .int .i64 1] W fun r w' => Out2 W 0 E r w') : Calls Tryz.prog 6 #[.agg #[.bool s1, .slice ao1 n1 cp1, .int .i64 e1], .agg #[.bool s2, .slice ao2 n2 cp2, .int .i64 e2]] w fun r w' => r = .returned (.tuple #[.agg #[.float .f64 0, .float .f64 0], .int .i64 E]) ∧ Below w.heap.size w w' := by
  obtain ⟨W, hW⟩ : ∃ W, W = ((w.alloc (.cells #[.bool s1, .slice ao1 n1 cp1, .int .i64 e1] 28)).alloc (.cells #[.bool s2, .slice ao2 n2 cp2, .int .i64 e2] 28)).alloc (.cells #[.float .f64 0, .float .f64 0] 24) := ⟨_, rfl⟩
  obtain ⟨m1, m2, m3, hBW⟩ := three_new _ _ _ hW
  have HX : Hid (Below w.heap.size w W ∧ W.heap[w.heap.size]? = some (.cells #[.bool s1, .slice ao1 n1 cp1, .int .i64 e1] 28 (0, 0)) ∧ W.heap[w.heap.size + 1]? = some (.cells #[.bool s2, .slice ao2 n2 cp2, .int .i64 e2] 28 (0, 0)) ∧ IvB W (w.heap.size + 1 + 1) 0 0) := ⟨hBW, m1, m2, m3⟩
  have HK : Hid (∀ w', Below W.heap.size W w' → (w'.cell? ⟨w.heap.size, 0, none⟩ = some (.bool s1) ∧ w'.cell? ⟨w.heap.size, 1, none⟩ = some (.slice ao1 n1 cp1) ∧ w'.cell? ⟨w.heap.size, 2, none⟩ = some (.int .i64 e1)) ∧ (w'.cell? ⟨w.heap.size + 1, 0, none⟩ = some (.bool s2) ∧ w'.cell? ⟨w.heap.size + 1, 1, none⟩ = some (.slice ao2 n2 cp2) ∧ w'.cell? ⟨w.heap.size + 1, 2, none⟩ = some (.int .i64 e2)) ∧ IvF w' (w.heap.size + 1 + 1) 0 0) := fun w' hb => ⟨(cells3N (box_later HX.out.2.1 hb (lt_of_box HX.out.2.1))).1, (cells3N (box_later HX.out.2.2.1 hb (lt_of_box HX.out.2.2.1))).1, HX.out.2.2.2.later hb⟩
  obtain ⟨⟨c0, c1, c2⟩, ⟨d0, d1, d2⟩, ⟨i0, i1, z0, z1⟩⟩ := HK.out W (Below.refl _ _)
  clear m1 m2 m3 hBW
  go_enter Tryz.func6, Tryz.ntmps6
  have kk := k1 W HX.out.1
  clear k1
  go_upto_region 1 with fail
  rw [← hW]
  clear hW
  go_wp2_with fail
  refine kk.mono ?_
  rintro r w1 ⟨rfl, hb1⟩
  clear kk
  clear c0 c1 c2 d0 d1 d2 i0 i1 z0 z1
  obtain ⟨⟨c0, c1, c2⟩, ⟨d0, d1, d2⟩, ⟨i0, i1, z0, z1⟩⟩ := HK.out w1 hb1
  have HB : Hid (Below w.heap.size w w1) := HX.out.1.trans (hb1.mono HX.out.1.size)
  have HR : Hid (IvB w1 (w.heap.size + 1 + 1) 0 0) := HX.out.2.2.2.box hb1
  clear hb1 HK HX
  go_wp2_with fail
  refine bodyPost_ret (results_cell_tmp_row rfl _ _ (w.heap.size + 1 + 1) 24 #[.float .f64 0, .float .f64 0] (0, 0) _ rfl (HR.out.set _ _) Tryz.underlying24 rfl iv_info) rfl ?_
  exact ⟨rfl, below_store2 HB.out (by omega) _ _⟩
set_option maxRecDepth 200000 in
theorem pfrac_1 (s1 : Bool) (ao1 : Option Addr) (n1 cp1 : Nat) (e1 : Int) (s2 : Bool) (ao2 : Option Addr) (n2 cp2 : Nat) (e2 : Int) (F G x y : Nat) (w : World) (k1 : ∀ W, Below w.heap.size w W → Calls Tryz.prog 21 #[.agg #[.bool s1, .slice ao1 n1 cp1, .int .i64 e1], .agg #[.bool s2, .slice ao2 n2 cp2, .int .i64 e2], .int .i64 1] W fun r w' => Out2 W F 0 r w') (k3 : ∀ W, Below w.heap.size w W → Calls Tryz.prog 21 #[.agg #[.bool s1, .slice ao1 n1 cp1, .int .i64 e1], .agg #[.bool s2, .slice ao2 n2 cp2, .int .i64 e2], .int .i64 3] W fun r w' => Out2 W G 0 r w') (k5 : ∀ W, Calls Tryz.prog 22 #[.float .f64 F, .float .f64 G] W fun r w' => r = .returned (.agg #[.float .f64 x, .float .f64 y]) ∧ Below W.heap.size W w') : Calls Tryz.prog 6 #[.agg #[.bool s1, .slice ao1 n1 cp1, .int .i64 e1], .agg #[.bool s2, .slice ao2 n2 cp2, .int .i64 e2]] w fun r w' => r = .returned (.tuple #[.agg #[.float .f64 x, .float .f64 y], .int .i64 0]) ∧ Below w.heap.size w w' := by
  obtain ⟨W, hW⟩ : ∃ W, W = ((w.alloc (.cells #[.bool s1, .slice ao1 n1 cp1, .int .i64 e1] 28)).alloc (.cells #[.bool s2, .slice ao2 n2 cp2, .int .i64 e2] 28)).alloc (.cells #[.float .f64 0, .float .f64 0] 24) := ⟨_, rfl⟩
  obtain ⟨m1, m2, m3, hBW⟩ := three_new _ _ _ hW
  have HX : Hid (Below w.heap.size w W ∧ W.heap[w.heap.size]? = some (.cells #[.bool s1, .slice ao1 n1 cp1, .int .i64 e1] 28 (0, 0)) ∧ W.heap[w.heap.size + 1]? = some (.cells #[.bool s2, .slice ao2 n2 cp2, .int .i64 e2] 28 (0, 0)) ∧ IvB W (w.heap.size + 1 + 1) 0 0) := ⟨hBW, m1, m2, m3⟩
  have HK : Hid (∀ w', Below W.heap.size W w' → (w'.cell? ⟨w.heap.size, 0, none⟩ = some (.bool s1) ∧ w'.cell? ⟨w.heap.size, 1, none⟩ = some (.slice ao1 n1 cp1) ∧ w'.cell? ⟨w.heap.size, 2, none⟩ = some (.int .i64 e1)) ∧ (w'.cell? ⟨w.heap.size + 1, 0, none⟩ = some (.bool s2) ∧ w'.cell? ⟨w.heap.size + 1, 1, none⟩ = some (.slice ao2 n2 cp2) ∧ w'.cell? ⟨w.heap.size + 1, 2, none⟩ = some (.int .i64 e2)) ∧ IvF w' (w.heap.size + 1 + 1) 0 0) := fun w' hb => ⟨(cells3N (box_later HX.out.2.1 hb (lt_of_box HX.out.2.1))).1, (cells3N (box_later HX.out.2.2.1 hb (lt_of_box HX.out.2.2.1))).1, HX.out.2.2.2.later hb⟩
  obtain ⟨⟨c0, c1, c2⟩, ⟨d0, d1, d2⟩, ⟨i0, i1, z0, z1⟩⟩ := HK.out W (Below.refl _ _)
  clear m1 m2 m3 hBW
  go_enter Tryz.func6, Tryz.ntmps6
  have kk := k1 W HX.out.1
  have K3 : Hid _ := k3
  have K5 : Hid _ := k5
  clear k1 k3 k5
  go_upto_region 1 with fail
  rw [← hW]
  clear hW
  go_wp2_with fail
  refine kk.mono ?_
  rintro r w1 ⟨rfl, hb1⟩
  clear kk
  clear c0 c1 c2 d0 d1 d2 i0 i1 z0 z1
  obtain ⟨⟨c0, c1, c2⟩, ⟨d0, d1, d2⟩, ⟨i0, i1, z0, z1⟩⟩ := HK.out w1 hb1
  have kk := K3.out w1 (HX.out.1.trans (hb1.mono HX.out.1.size))
  have HB1 : Hid (Below W.heap.size W w1) := hb1
  clear hb1
  go_wp2_with fail
  refine kk.mono ?_
  rintro r w2 ⟨rfl, hb2⟩
  clear kk
  clear c0 c1 c2 d0 d1 d2 i0 i1 z0 z1
  have HB2 : Hid (Below W.heap.size W w2) := HB1.out.trans (hb2.mono HB1.out.size)
  have kk := K5.out w2
  clear hb2 HB1
  go_wp2_with fail
  refine kk.mono ?_
  rintro r w3 ⟨rfl, hb3⟩
  clear kk
  have hb4 : Below W.heap.size W w3 := HB2.out.trans (hb3.mono HB2.out.size)
  clear hb3 HB2
  obtain ⟨⟨c0, c1, c2⟩, ⟨d0, d1, d2⟩, ⟨i0, i1, z0, z1⟩⟩ := HK.out w3 hb4
  have HB : Hid (Below w.heap.size w w3) := HX.out.1.trans (hb4.mono HX.out.1.size)
  have HR : Hid (IvB w3 (w.heap.size + 1 + 1) 0 0) := HX.out.2.2.2.box hb4
  clear hb4 HK HX
  go_wp2_with fail
  refine bodyPost_ret (results_cell_tmp_row rfl _ _ (w.heap.size + 1 + 1) 24 #[.float .f64 x, .float .f64 y] (0, 0) _ rfl (HR.out.set _ _) Tryz.underlying24 rfl iv_info) rfl ?_
  exact ⟨rfl, below_store2 HB.out (by omega) _ _⟩
set_option maxRecDepth 200000 in
theorem dfrac_no1 (s1 : Bool) (ao1 : Option Addr) (n1 cp1 : Nat) (e1 : Int) (s2 : Bool) (ao2 : Option Addr) (n2 cp2 : Nat) (e2 : Int) (w : World) (k1 : ∀ W, Below w.heap.size w W → Calls Tryz.prog 23 #[.agg #[.bool s1, .slice ao1 n1 cp1, .int .i64 e1]] W fun r w' => r = .returned (.bool false) ∧ Below W.heap.size W w') : Calls Tryz.prog 8 #[.agg #[.bool s1, .slice ao1 n1 cp1, .int .i64 e1], .agg #[.bool s2, .slice ao2 n2 cp2, .int .i64 e2]] w fun r w' => r = .returned (.tuple #[.agg #[.float .f64 0, .float .f64 0], .int .i64 1]) ∧ Below w.heap.size w w' := by
  obtain ⟨W, hW⟩ : ∃ W, W = ((w.alloc (.cells #[.bool s1, .slice ao1 n1 cp1, .int .i64 e1] 27)).alloc (.cells #[.bool s2, .slice ao2 n2 cp2, .int .i64 e2] 27)).alloc (.cells #[.float .f64 0, .float .f64 0] 24) := ⟨_, rfl⟩
  obtain ⟨m1, m2, m3, hBW⟩ := three_new _ _ _ hW
  have HX : Hid (Below w.heap.size w W ∧ W.heap[w.heap.size]? = some (.cells #[.bool s1, .slice ao1 n1 cp1, .int .i64 e1] 27 (0, 0)) ∧ W.heap[w.heap.size + 1]? = some (.cells #[.bool s2, .slice ao2 n2 cp2, .int .i64 e2] 27 (0, 0)) ∧ IvB W (w.heap.size + 1 + 1) 0 0) := ⟨hBW, m1, m2, m3⟩
  have HK : Hid (∀ w', Below W.heap.size W w' → (w'.cell? ⟨w.heap.size, 0, none⟩ = some (.bool s1) ∧ w'.cell? ⟨w.heap.size, 1, none⟩ = some (.slice ao1 n1 cp1) ∧ w'.cell? ⟨w.heap.size, 2, none⟩ = some (.int .i64 e1)) ∧ (w'.cell? ⟨w.heap.size + 1, 0, none⟩ = some (.bool s2) ∧ w'.cell? ⟨w.heap.size + 1, 1, none⟩ = some (.slice ao2 n2 cp2) ∧ w'.cell? ⟨w.heap.size + 1, 2, none⟩ = some (.int .i64 e2)) ∧ IvF w' (w.heap.size + 1 + 1) 0 0) := fun w' hb => ⟨(cells3N (box_later HX.out.2.1 hb (lt_of_box HX.out.2.1))).1, (cells3N (box_later HX.out.2.2.1 hb (lt_of_box HX.out.2.2.1))).1, HX.out.2.2.2.later hb⟩
  obtain ⟨⟨c0, c1, c2⟩, ⟨d0, d1, d2⟩, ⟨i0, i1, z0, z1⟩⟩ := HK.out W (Below.refl _ _)
  clear m1 m2 m3 hBW
  go_enter Tryz.func8, Tryz.ntmps8
  have kk := k1 W HX.out.1
  clear k1
  go_upto_region 1 with fail
  rw [← hW]
  clear hW
  go_wp2_with fail
  refine kk.mono ?_
  rintro r w1 ⟨rfl, hb1⟩
  clear kk
  clear c0 c1 c2 d0 d1 d2 i0 i1 z0 z1
  obtain ⟨⟨c0, c1, c2⟩, ⟨d0, d1, d2⟩, ⟨i0, i1, z0, z1⟩⟩ := HK.out w1 hb1
  have HB : Hid (Below w.heap.size w w1) := HX.out.1.trans (hb1.mono HX.out.1.size)
  have HR : Hid (IvB w1 (w.heap.size + 1 + 1) 0 0) := HX.out.2.2.2.box hb1
  clear hb1 HK HX
  go_wp2_with fail
  refine bodyPost_ret (results_cell_tmp_row rfl _ _ (w.heap.size + 1 + 1) 24 #[.float .f64 0, .float .f64 0] (0, 0) _ rfl (HR.out.set _ _) Tryz.underlying24 rfl iv_info) rfl ?_
  exact ⟨rfl, below_store2 HB.out (by omega) _ _⟩
set_option maxRecDepth 200000 in
theorem dfrac_no2 (s1 : Bool) (ao1 : Option Addr) (n1 cp1 : Nat) (e1 : Int) (s2 : Bool) (ao2 : Option Addr) (n2 cp2 : Nat) (e2 : Int) (w : World) (k1 : ∀ W, Below w.heap.size w W → Calls Tryz.prog 23 #[.agg #[.bool s1, .slice ao1 n1 cp1, .int .i64 e1]] W fun r w' => r = .returned (.bool true) ∧ Below W.heap.size W w') (k2 : ∀ W, Below w.heap.size w W → Calls Tryz.prog 23 #[.agg #[.bool s2, .slice ao2 n2 cp2, .int .i64 e2]] W fun r w' => r = .returned (.bool false) ∧ Below W.heap.size W w') : Calls Tryz.prog 8 #[.agg #[.bool s1, .slice ao1 n1 cp1, .int .i64 e1], .agg #[.bool s2, .slice ao2 n2 cp2, .int .i64 e2]] w fun r w' => r = .returned (.tuple #[.agg #[.float .f64 0, .float .f64 0], .int .i64 1]) ∧ Below w.heap.size w w' := by
  obtain ⟨W, hW⟩ : ∃ W, W = ((w.alloc (.cells #[.bool s1, .slice ao1 n1 cp1, .int .i64 e1] 27)).alloc (.cells #[.bool s2, .slice ao2 n2 cp2, .int .i64 e2] 27)).alloc (.cells #[.float .f64 0, .float .f64 0] 24) := ⟨_, rfl⟩
  obtain ⟨m1, m2, m3, hBW⟩ := three_new _ _ _ hW
  have HX : Hid (Below w.heap.size w W ∧ W.heap[w.heap.size]? = some (.cells #[.bool s1, .slice ao1 n1 cp1, .int .i64 e1] 27 (0, 0)) ∧ W.heap[w.heap.size + 1]? = some (.cells #[.bool s2, .slice ao2 n2 cp2, .int .i64 e2] 27 (0, 0)) ∧ IvB W (w.heap.size + 1 + 1) 0 0) := ⟨hBW, m1, m2, m3⟩
  have HK : Hid (∀ w', Below W.heap.size W w' → (w'.cell? ⟨w.heap.size, 0, none⟩ = some (.bool s1) ∧ w'.cell? ⟨w.heap.size, 1, none⟩ = some (.slice ao1 n1 cp1) ∧ w'.cell? ⟨w.heap.size, 2, none⟩ = some (.int .i64 e1)) ∧ (w'.cell? ⟨w.heap.size + 1, 0, none⟩ = some (.bool s2) ∧ w'.cell? ⟨w.heap.size + 1, 1, none⟩ = some (.slice ao2 n2 cp2) ∧ w'.cell? ⟨w.heap.size + 1, 2, none⟩ = some (.int .i64 e2)) ∧ IvF w' (w.heap.size + 1 + 1) 0 0) := fun w' hb => ⟨(cells3N (box_later HX.out.2.1 hb (lt_of_box HX.out.2.1))).1, (cells3N (box_later HX.out.2.2.1 hb (lt_of_box HX.out.2.2.1))).1, HX.out.2.2.2.later hb⟩
  obtain ⟨⟨c0, c1, c2⟩, ⟨d0, d1, d2⟩, ⟨i0, i1, z0, z1⟩⟩ := HK.out W (Below.refl _ _)
  clear m1 m2 m3 hBW
  go_enter Tryz.func8, Tryz.ntmps8
  have kk := k1 W HX.out.1
  clear k1
  go_upto_region 1 with fail
  rw [← hW]
  clear hW
  go_wp2_with fail
  refine kk.mono ?_
  rintro r w1 ⟨rfl, hb1⟩
  clear kk
  clear c0 c1 c2 d0 d1 d2 i0 i1 z0 z1
  obtain ⟨⟨c0, c1, c2⟩, ⟨d0, d1, d2⟩, ⟨i0, i1, z0, z1⟩⟩ := HK.out w1 hb1
  have kk := k2 w1 (HX.out.1.trans (hb1.mono HX.out.1.size))
  have HB1 : Hid (Below W.heap.size W w1) := hb1
  clear hb1 k2
  go_wp2_with fail
  refine kk.mono ?_
  rintro r w2 ⟨rfl, hb2'⟩
  clear kk
  clear c0 c1 c2 d0 d1 d2 i0 i1 z0 z1
  have hb2 : Below W.heap.size W w2 := HB1.out.trans (hb2'.mono HB1.out.size)
  clear hb2' HB1
  obtain ⟨⟨c0, c1, c2⟩, ⟨d0, d1, d2⟩, ⟨i0, i1, z0, z1⟩⟩ := HK.out w2 hb2
  have HB : Hid (Below w.heap.size w w2) := HX.out.1.trans (hb2.mono HX.out.1.size)
  have HR : Hid (IvB w2 (w.heap.size + 1 + 1) 0 0) := HX.out.2.2.2.box hb2
  clear hb2 HK HX
  go_wp2_with fail
  refine bodyPost_ret (results_cell_tmp_row rfl _ _ (w.heap.size + 1 + 1) 24 #[.float .f64 0, .float .f64 0] (0, 0) _ rfl (HR.out.set _ _) Tryz.underlying24 rfl iv_info) rfl ?_
  exact ⟨rfl, below_store2 HB.out (by omega) _ _⟩
set_option maxRecDepth 200000 in
theorem dfrac_z (s1 : Bool) (ao1 : Option Addr) (n1 cp1 : Nat) (e1 : Int) (s2 : Bool) (ao2 : Option Addr) (n2 cp2 : Nat) (e2 : Int) (w : World) (hz : ((n2 : Int) == 0) = true) (k1 : ∀ W, Below w.heap.size w W → Calls Tryz.prog 23 #[.agg #[.bool s1, .slice ao1 n1 cp1, .int .i64 e1]] W fun r w' => r = .returned (.bool true) ∧ Below W.heap.size W w') (k2 : ∀ W, Below w.heap.size w W → Calls Tryz.prog 23 #[.agg #[.bool s2, .slice ao2 n2 cp2, .int .i64 e2]] W fun r w' => r = .returned (.bool true) ∧ Below W.heap.size W w') : Calls Tryz.prog 8 #[.agg #[.bool s1, .slice ao1 n1 cp1, .int .i64 e1], .agg #[.bool s2, .slice ao2 n2 cp2, .int .i64 e2]] w fun r w' => r = .returned (.tuple #[.agg #[.float .f64 0, .float .f64 0], .int .i64 6]) ∧ Below w.heap.size w w' := by
  obtain ⟨W, hW⟩ : ∃ W, W = ((w.alloc (.cells #[.bool s1, .slice ao1 n1 cp1, .int .i64 e1] 27)).alloc (.cells #[.bool s2, .slice ao2 n2 cp2, .int .i64 e2] 27)).alloc (.cells #[.float .f64 0, .float .f64 0] 24) := ⟨_, rfl⟩
  obtain ⟨m1, m2, m3, hBW⟩ := three_new _ _ _ hW
  have HX : Hid (Below w.heap.size w W ∧ W.heap[w.heap.size]? = some (.cells #[.bool s1, .slice ao1 n1 cp1, .int .i64 e1] 27 (0, 0)) ∧ W.heap[w.heap.size + 1]? = some (.cells #[.bool s2, .slice ao2 n2 cp2, .int .i64 e2] 27 (0, 0)) ∧ IvB W (w.heap.size + 1 + 1) 0 0) := ⟨hBW, m1, m2, m3⟩
  have HK : Hid (∀ w', Below W.heap.size W w' → (w'.cell? ⟨w.heap.size, 0, none⟩ = some (.bool s1) ∧ w'.cell? ⟨w.heap.size, 1, none⟩ = some (.slice ao1 n1 cp1) ∧ w'.cell? ⟨w.heap.size, 2, none⟩ = some (.int .i64 e1)) ∧ (w'.cell? ⟨w.heap.size + 1, 0, none⟩ = some (.bool s2) ∧ w'.cell? ⟨w.heap.size + 1, 1, none⟩ = some (.slice ao2 n2 cp2) ∧ w'.cell? ⟨w.heap.size + 1, 2, none⟩ = some (.int .i64 e2)) ∧ IvF w' (w.heap.size + 1 + 1) 0 0) := fun w' hb => ⟨(cells3N (box_later HX.out.2.1 hb (lt_of_box HX.out.2.1))).1, (cells3N (box_later HX.out.2.2.1 hb (lt_of_box HX.out.2.2.1))).1, HX.out.2.2.2.later hb⟩
  obtain ⟨⟨c0, c1, c2⟩, ⟨d0, d1, d2⟩, ⟨i0, i1, z0, z1⟩⟩ := HK.out W (Below.refl _ _)
  clear m1 m2 m3 hBW
  go_enter Tryz.func8, Tryz.ntmps8
  have kk := k1 W HX.out.1
  clear k1
  go_upto_region 1 with fail
  rw [← hW]
  clear hW
  go_wp2_with fail
  refine kk.mono ?_
  rintro r w1 ⟨rfl, hb1⟩
  clear kk
  clear c0 c1 c2 d0 d1 d2 i0 i1 z0 z1
  obtain ⟨⟨c0, c1, c2⟩, ⟨d0, d1, d2⟩, ⟨i0, i1, z0, z1⟩⟩ := HK.out w1 hb1
  have kk := k2 w1 (HX.out.1.trans (hb1.mono HX.out.1.size))
  have HB1 : Hid (Below W.heap.size W w1) := hb1
  clear hb1 k2
  go_wp2_with fail
  refine kk.mono ?_
  rintro r w2 ⟨rfl, hb2'⟩
  clear kk
  clear c0 c1 c2 d0 d1 d2 i0 i1 z0 z1
  have hb2 : Below W.heap.size W w2 := HB1.out.trans (hb2'.mono HB1.out.size)
  clear hb2' HB1
  obtain ⟨⟨c0, c1, c2⟩, ⟨d0, d1, d2⟩, ⟨i0, i1, z0, z1⟩⟩ := HK.out w2 hb2
  have HB : Hid (Below w.heap.size w w2) := HX.out.1.trans (hb2.mono HX.out.1.size)
  have HR : Hid (IvB w2 (w.heap.size + 1 + 1) 0 0) := HX.out.2.2.2.box hb2
  clear hb2 HK HX
  go_wp2_with fail
  refine bodyPost_ret (results_cell_tmp_row rfl _ _ (w.heap.size + 1 + 1) 24 #[.float .f64 0, .float .f64 0] (0, 0) _ rfl (HR.out.set _ _) Tryz.underlying24 rfl iv_info) rfl ?_
  exact ⟨rfl, below_store2 HB.out (by omega) _ _⟩
set_option maxRecDepth 200000 in
theorem dfrac_1 (s1 : Bool) (ao1 : Option Addr) (n1 cp1 : Nat) (e1 : Int) (s2 : Bool) (ao2 : Option Addr) (n2 cp2 : Nat) (e2 : Int) (F G x y u1 u2 : Nat) (w : World) (hz : ((n2 : Int) == 0) = false) (a1 : Arg w ao1 n1 cp1 u1) (a2 : Arg w ao2 n2 cp2 u2) (k1 : ∀ W, Below w.heap.size w W → Calls Tryz.prog 23 #[.agg #[.bool s1, .slice ao1 n1 cp1, .int .i64 e1]] W fun r w' => r = .returned (.bool true) ∧ Below W.heap.size W w') (k2 : ∀ W, Below w.heap.size w W → Calls Tryz.prog 23 #[.agg #[.bool s2, .slice ao2 n2 cp2, .int .i64 e2]] W fun r w' => r = .returned (.bool true) ∧ Below W.heap.size W w') (k3 : ∀ W, Arg W ao1 n1 cp1 u1 → Arg W ao2 n2 cp2 u2 → Calls Tryz.prog 25 #[.agg #[.bool s1, .slice ao1 n1 cp1, .int .i64 e1], .agg #[.bool s2, .slice ao2 n2 cp2, .int .i64 e2], .int .i64 1] W fun r w' => r = .returned (.float .f64 F) ∧ Below W.heap.size W w') (k4 : ∀ W, Arg W ao1 n1 cp1 u1 → Arg W ao2 n2 cp2 u2 → Calls Tryz.prog 25 #[.agg #[.bool s1, .slice ao1 n1 cp1, .int .i64 e1], .agg #[.bool s2, .slice ao2 n2 cp2, .int .i64 e2], .int .i64 3] W fun r w' => r = .returned (.float .f64 G) ∧ Below W.heap.size W w') (k5 : ∀ W, Calls Tryz.prog 24 #[.float .f64 F] W fun r w' => r = .returned (.float .f64 x) ∧ w' = W) (k6 : ∀ W, Calls Tryz.prog 24 #[.float .f64 G] W fun r w' => r = .returned (.float .f64 y) ∧ w' = W) : Calls Tryz.prog 8 #[.agg #[.bool s1, .slice ao1 n1 cp1, .int .i64 e1], .agg #[.bool s2, .slice ao2 n2 cp2, .int .i64 e2]] w fun r w' => r = .returned (.tuple #[.agg #[.float .f64 x, .float .f64 y], .int .i64 0]) ∧ Below w.heap.size w w' := by
  obtain ⟨W, hW⟩ : ∃ W, W = ((w.alloc (.cells #[.bool s1, .slice ao1 n1 cp1, .int .i64 e1] 27)).alloc (.cells #[.bool s2, .slice ao2 n2 cp2, .int .i64 e2] 27)).alloc (.cells #[.float .f64 0, .float .f64 0] 24) := ⟨_, rfl⟩
  obtain ⟨m1, m2, m3, hBW⟩ := three_new _ _ _ hW
  have HX : Hid (Below w.heap.size w W ∧ W.heap[w.heap.size]? = some (.cells #[.bool s1, .slice ao1 n1 cp1, .int .i64 e1] 27 (0, 0)) ∧ W.heap[w.heap.size + 1]? = some (.cells #[.bool s2, .slice ao2 n2 cp2, .int .i64 e2] 27 (0, 0)) ∧ IvB W (w.heap.size + 1 + 1) 0 0) := ⟨hBW, m1, m2, m3⟩
  have HK : Hid (∀ w', Below W.heap.size W w' → (w'.cell? ⟨w.heap.size, 0, none⟩ = some (.bool s1) ∧ w'.cell? ⟨w.heap.size, 1, none⟩ = some (.slice ao1 n1 cp1) ∧ w'.cell? ⟨w.heap.size, 2, none⟩ = some (.int .i64 e1)) ∧ (w'.cell? ⟨w.heap.size + 1, 0, none⟩ = some (.bool s2) ∧ w'.cell? ⟨w.heap.size + 1, 1, none⟩ = some (.slice ao2 n2 cp2) ∧ w'.cell? ⟨w.heap.size + 1, 2, none⟩ = some (.int .i64 e2)) ∧ IvF w' (w.heap.size + 1 + 1) 0 0) := fun w' hb => ⟨(cells3N (box_later HX.out.2.1 hb (lt_of_box HX.out.2.1))).1, (cells3N (box_later HX.out.2.2.1 hb (lt_of_box HX.out.2.2.1))).1, HX.out.2.2.2.later hb⟩
  obtain ⟨⟨c0, c1, c2⟩, ⟨d0, d1, d2⟩, ⟨i0, i1, z0, z1⟩⟩ := HK.out W (Below.refl _ _)
  clear m1 m2 m3 hBW
  go_enter Tryz.func8, Tryz.ntmps8
  have q1 := a1.later HX.out.1
  have q2 := a2.later HX.out.1
  have HQ : Hid (Arg W ao1 n1 cp1 u1 ∧ Arg W ao2 n2 cp2 u2) := ⟨q1, q2⟩
  have HKK : Hid _ := k3
  have HKL : Hid _ := k4
  have HKM : Hid _ := k5
  have HKN : Hid _ := k6
  clear a1 a2 q1 q2 k3 k4 k5 k6
  have kk := k1 W HX.out.1
  clear k1
  go_upto_region 1 with fail
  rw [← hW]
  clear hW
  go_wp2_with fail
  refine kk.mono ?_
  rintro r w1 ⟨rfl, hb1⟩
  clear kk
  clear c0 c1 c2 d0 d1 d2 i0 i1 z0 z1
  obtain ⟨⟨c0, c1, c2⟩, ⟨d0, d1, d2⟩, ⟨i0, i1, z0, z1⟩⟩ := HK.out w1 hb1
  have kk := k2 w1 (HX.out.1.trans (hb1.mono HX.out.1.size))
  have HB1 : Hid (Below W.heap.size W w1) := hb1
  clear hb1 k2
  go_wp2_with fail
  refine kk.mono ?_
  rintro r w2 ⟨rfl, hb2'⟩
  clear kk
  clear c0 c1 c2 d0 d1 d2 i0 i1 z0 z1
  have hb2 : Below W.heap.size W w2 := HB1.out.trans (hb2'.mono HB1.out.size)
  clear hb2' HB1
  obtain ⟨⟨c0, c1, c2⟩, ⟨d0, d1, d2⟩, ⟨i0, i1, z0, z1⟩⟩ := HK.out w2 hb2
  go_upto_region 5 with fail
  clear c0 c1 c2 d0 d1 d2 i0 i1 z0 z1
  obtain ⟨q1, q2⟩ := HQ.out
  have k3 := HKK.out
  have k4 := HKL.out
  have k5 := HKM.out
  have k6 := HKN.out
  have m1 := box_later HX.out.2.1 hb2 (lt_of_box HX.out.2.1)
  have m2 := box_later HX.out.2.2.1 hb2 (lt_of_box HX.out.2.2.1)
  have m3 : w2.heap[w.heap.size + 1 + 1]? = some (.cells #[.float .f64 0, .float .f64 0] 24 (0, 0)) := HX.out.2.2.2.box hb2
  have mB : Below w.heap.size w w2 := HX.out.1.trans (hb2.mono HX.out.1.size)
  have hbx : ∀ i, i < 1 → ∃ cs, w2.heap[(fun _ => w.heap.size + 1 + 1 : Nat → Nat) i]? = some (.cells cs 24 (0, 0)) ∧ IvC cs := fun i hi => ⟨_, m3, _, _, rfl⟩
  refine q_region follows_mixed [0, 1, 2, 3, 4, 5, 6, 7, 8, 10] [9] [22, 23, 24, 25, 26, 27, 28, 29, 30, 5] [[], [], [0, 1], [2], [], [], [4, 5], [6], [3, 7], []] [[8]] [8] (fun _ => 4) (fun _ => w.heap.size + 1 + 1) w.heap.size 24 IvC 2 w2 _ [isV (.agg #[.bool s1, .slice ao1 n1 cp1, .int .i64 e1]), isV (.agg #[.bool s2, .slice ao2 n2 cp2, .int .i64 e2]), isV (.float .f64 F), isV (.float .f64 x), isV (.agg #[.bool s1, .slice ao1 n1 cp1, .int .i64 e1]), isV (.agg #[.bool s2, .slice ao2 n2 cp2, .int .i64 e2]), isV (.float .f64 G), isV (.float .f64 y), isV (.agg #[.float .f64 x, .float .f64 y]), isV (.int .i64 0)] (by kernel_rfl) ⟨isV_stays _, isV_stays _, isV_stays _, isV_stays _, isV_stays _, isV_stays _, isV_stays _, isV_stays _, isV_stays _, isV_stays _, trivial⟩ ⟨isV_rows _ _ _, isV_rows _ _ _, isV_rows _ _ _, isV_rows _ _ _, isV_rows _ _ _, isV_rows _ _ _, isV_rows _ _ _, isV_rows _ _ _, isV_rows _ _ _, isV_rows _ _ _, trivial⟩ (by show ∀ s ∈ [22, 23, 24, 25, 26, 27, 28, 29, 30, 5], s < 31; decide) ?_ ?_ iv_info ?_ ?_ ?_ ?_ mB.size ?_
  · intro i hi U u h
    obtain rfl : i = 0 := Nat.lt_one_iff.1 hi
    obtain rfl : u = _ := h
    exact ⟨_, rfl, rfl, ⟨_, _, rfl⟩, by simp only [List.all_toArray, List.all_cons, List.all_nil, show ∀ z, (Value.float .f64 z).oneCell' = true from fun _ => rfl, Bool.and_self]⟩
  · intro j hj o ho act U hK hoth hdep hrd
    have t2 : act.tmps[(2 : Nat)]? = some (Value.pointer (some ⟨w.heap.size, 0, none⟩)) := (hoth 2 (by decide)).trans rfl
    have t3 : act.tmps[(3 : Nat)]? = some (Value.pointer (some ⟨w.heap.size + 1, 0, none⟩)) := (hoth 3 (by decide)).trans rfl
    have c2 := (cells3N ((hK.keep (w.heap.size) (lt_of_box m1) (fun i hi => by show w.heap.size ≠ w.heap.size + 1 + 1; omega)).trans m1)).1
    have c3 := (cells3N ((hK.keep (w.heap.size + 1) (lt_of_box m2) (fun i hi => by show w.heap.size + 1 ≠ w.heap.size + 1 + 1; omega)).trans m2)).1
    have hj' : j < 10 := hj
    rcases (by omega : j = 0 ∨ j = 1 ∨ j = 2 ∨ j = 3 ∨ j = 4 ∨ j = 5 ∨ j = 6 ∨ j = 7 ∨ j = 8 ∨ j = 9) with rfl | rfl | rfl | rfl | rfl | rfl | rfl | rfl | rfl | rfl
    · obtain rfl := Option.some.inj ho
      exact .inl ⟨rfl, owp_ldD rfl t2 c2.1 c2.2.1 c2.2.2 ⟨_, rfl, rfl, Below.refl _ _⟩⟩
    · obtain rfl := Option.some.inj ho
      exact .inl ⟨rfl, owp_ldD rfl t3 c3.1 c3.2.1 c3.2.2 ⟨_, rfl, rfl, Below.refl _ _⟩⟩
    · obtain rfl := Option.some.inj ho
      have y0 : act.tmps[(22 : Nat)]? = _ := dV (hdep 0 (by simp [dL])) rfl
      have y1 : act.tmps[(23 : Nat)]? = _ := dV (hdep 1 (by simp [dL])) rfl
      refine .inl ⟨rfl, owp_call rfl (enters Tryz.func25 (by kernel_rfl) (by kernel_rfl)) (map3c y0 y1) ?_⟩
      refine (k3 U (Arg.keepI hK hbx (q1.later hb2)) (Arg.keepI hK hbx (q2.later hb2))).mono ?_
      rintro r w' ⟨rfl, hb'⟩
      exact ⟨_, rfl, _, rfl, rfl, hb'⟩
    · obtain rfl := Option.some.inj ho
      have y0 : act.tmps[(24 : Nat)]? = _ := dV (hdep 2 (by simp [dL])) rfl
      refine .inl ⟨rfl, owp_call rfl (enters Tryz.func24 (by kernel_rfl) (by kernel_rfl)) (map1t y0) ?_⟩
      refine (k5 U).mono ?_
      rintro r w' ⟨rfl, rfl⟩
      exact ⟨_, rfl, _, rfl, rfl, Below.refl _ _⟩
    · obtain rfl := Option.some.inj ho
      exact .inl ⟨rfl, owp_ldD rfl t2 c2.1 c2.2.1 c2.2.2 ⟨_, rfl, rfl, Below.refl _ _⟩⟩
    · obtain rfl := Option.some.inj ho
      exact .inl ⟨rfl, owp_ldD rfl t3 c3.1 c3.2.1 c3.2.2 ⟨_, rfl, rfl, Below.refl _ _⟩⟩
    · obtain rfl := Option.some.inj ho
      have y0 : act.tmps[(26 : Nat)]? = _ := dV (hdep 4 (by simp [dL])) rfl
      have y1 : act.tmps[(27 : Nat)]? = _ := dV (hdep 5 (by simp [dL])) rfl
      refine .inl ⟨rfl, owp_call rfl (enters Tryz.func25 (by kernel_rfl) (by kernel_rfl)) (map3c y0 y1) ?_⟩
      refine (k4 U (Arg.keepI hK hbx (q1.later hb2)) (Arg.keepI hK hbx (q2.later hb2))).mono ?_
      rintro r w' ⟨rfl, hb'⟩
      exact ⟨_, rfl, _, rfl, rfl, hb'⟩
    · obtain rfl := Option.some.inj ho
      have y0 : act.tmps[(28 : Nat)]? = _ := dV (hdep 6 (by simp [dL])) rfl
      refine .inl ⟨rfl, owp_call rfl (enters Tryz.func24 (by kernel_rfl) (by kernel_rfl)) (map1t y0) ?_⟩
      refine (k6 U).mono ?_
      rintro r w' ⟨rfl, rfl⟩
      exact ⟨_, rfl, _, rfl, rfl, Below.refl _ _⟩
    · obtain rfl := Option.some.inj ho
      have y0 : act.tmps[(25 : Nat)]? = _ := dV (hdep 3 (by simp [dL])) rfl
      have y1 : act.tmps[(29 : Nat)]? = _ := dV (hdep 7 (by simp [dL])) rfl
      exact .inl ⟨rfl, owp_bldI rfl y0 y1 ⟨_, rfl, rfl, Below.refl _ _⟩⟩
    · obtain rfl := Option.some.inj ho
      exact .inl ⟨rfl, owp_cst8 rfl ⟨_, rfl, rfl, Below.refl _ _⟩⟩
  · intro i hi
    obtain rfl : i = 0 := Nat.lt_one_iff.1 hi
    exact ⟨_, rfl, rfl⟩
  · intro i hi
    exact ⟨rfl, by decide⟩
  · intro i hi
    exact ⟨by show w.heap.size ≤ w.heap.size + 1 + 1; omega, _, m3, rfl, _, _, rfl⟩
  · intro i i' hi hi' _
    exact (Nat.lt_one_iff.1 hi).trans (Nat.lt_one_iff.1 hi').symm
  · intro u U hK hu hcs
    obtain ⟨csa, ya, za⟩ := hcs 0 (by decide)
    have u8 : u 8 = .agg #[.float .f64 x, .float .f64 y] := hu 8 (by decide)
    have u9 : u 9 = .int .i64 0 := hu 9 (by decide)
    have ya' : u 8 = .agg csa := ya
    rw [u8] at ya'
    obtain rfl := Value.agg.inj ya'
    have HXX : Hid (U.heap[w.heap.size + 1 + 1]? = some (.cells #[.float .f64 x, .float .f64 y] 24 (0, 0)) ∧ Below w.heap.size w U) := ⟨za, mB.trans hK.below⟩
    clear hu hcs ya za ya' hK q1 q2 k3 k4 k5 k6 m1 m2 m3 mB hbx hb2 HX HK HQ HKK HKL HKM HKN
    simp only [putL, show List.range 10 = [0, 1, 2, 3, 4, 5, 6, 7, 8, 9] from rfl, List.length_cons, List.length_nil, List.getD_cons_zero, List.getD_cons_succ, List.map_cons, List.map_nil, List.cons_append, List.nil_append, List.foldl_cons, List.foldl_nil, Nat.reduceLT, Nat.reduceMod, Nat.reduceDiv, Nat.reduceMul, Nat.reduceAdd, Nat.reduceEqDiff, reduceIte, Nat.one_ne_zero, Act.put, List.setIfInBounds_toArray, List.set_cons_zero, List.set_cons_succ]
    rw [u9]
    go_wp2_with fail
    refine bodyPost_ret (results_cell_tmp_row rfl _ _ (w.heap.size + 1 + 1) 24 #[.float .f64 x, .float .f64 y] (0, 0) _ rfl HXX.out.1 Tryz.underlying24 rfl iv_info) rfl ?_
    exact ⟨rfl, HXX.out.2⟩
theorem dsimp_core {x y p Q : Nat} (hx : x < 18446744073709551616) (hy : y < 18446744073709551616) (nx : neg x = false) (ny : neg y = false) (hle : fU x * dU y ≤ cU y * kU) (hS : Smp (fU x) kU (cU y) (dU y) p Q) :
    ∃ tA tB tC tD : Bool × Nat × Int, (∀ W, Calls Tryz.prog 18 #[.float .f64 x] W fun r w' => Out2D W tA tB r w') ∧ (mag y < 9218868437227405312 → ∀ W, Calls Tryz.prog 18 #[.float .f64 y] W fun r w' => Out2D W tC tD r w') ∧ (¬ mag y < 9218868437227405312 → tC = un 1 0 ∧ tD = nilN) ∧
      ∀ (s1 : Bool) (ao1 : Option Addr) (n1 cp1 : Nat) (e1 : Int) (s2 : Bool) (ao2 : Option Addr) (n2 cp2 : Nat) (e2 : Int) (s3 : Bool) (ao3 : Option Addr) (n3 cp3 : Nat) (e3 : Int) (s4 : Bool) (ao4 : Option Addr) (n4 cp4 : Nat) (e4 : Int) (W : World), DN W (.agg #[.bool s1, .slice ao1 n1 cp1, .int .i64 e1]) tA → DN W (.agg #[.bool s2, .slice ao2 n2 cp2, .int .i64 e2]) tB → DN W (.agg #[.bool s3, .slice ao3 n3 cp3, .int .i64 e3]) tC → DN W (.agg #[.bool s4, .slice ao4 n4 cp4, .int .i64 e4]) tD → Calls Tryz.prog 19 #[.agg #[.bool s1, .slice ao1 n1 cp1, .int .i64 e1], .agg #[.bool s2, .slice ao2 n2 cp2, .int .i64 e2], .agg #[.bool s3, .slice ao3 n3 cp3, .int .i64 e3], .agg #[.bool s4, .slice ao4 n4 cp4, .int .i64 e4]] W fun r w' => Out2D W (un (p : Int) 0) (un (Q : Int) 0) r w' := by
  obtain ⟨A, B, s, hB, hs, eA, eB, lA, lB, kA⟩ := dparts hx nx
  have hbU : bU ≤ 20000 := by unfold bU; omega
  by_cases hf : mag y < 9218868437227405312
  · obtain ⟨C, D, t, hD, ht, eC, eD, lC, lD, kC⟩ := dparts hy ny
    have e1 : cU y = C * t := by unfold cU; rw [if_pos hf, eC]
    have e2 : dU y = D * t := by unfold dU; rw [if_pos hf, eD]
    obtain ⟨l', h'⟩ := smp_down hS hs ht eA eB e1 e2 hB hle
    exact ⟨_, _, _, _, kA, fun _ => kC, fun h => absurd hf h, fun s1 ao1 n1 cp1 e1 s2 ao2 n2 cp2 e2 s3 ao3 n3 cp3 e3 s4 ao4 n4 cp4 e4 W d1 d2 d3 d4 => dsmp8 h' bU l' hbU lA lB lC lD _ _ _ _ _ _ _ _ _ _ _ _ _ _ _ _ _ _ _ _ W d1 d2 d3 d4⟩
  · have e1 : cU y = 1 * kU := by unfold cU; rw [if_neg hf, Nat.one_mul]
    have e2 : dU y = 0 * kU := by unfold dU; rw [if_neg hf, Nat.zero_mul]
    obtain ⟨l', h'⟩ := smp_down hS hs kU_pos eA eB e1 e2 hB hle
    refine ⟨_, _, un 1 0, nilN, kA, fun h => absurd h hf, fun _ => ⟨rfl, rfl⟩, fun s1 ao1 n1 cp1 e1 s2 ao2 n2 cp2 e2 s3 ao3 n3 cp3 e3 s4 ao4 n4 cp4 e4 W d1 d2 d3 d4 => ?_⟩
    rw [← un_0 (p := 0)] at d4
    exact dsmp8 h' bU l' hbU lA lB (Nat.one_lt_two_pow (by unfold bU; omega)) (Nat.two_pow_pos _) _ _ _ _ _ _ _ _ _ _ _ _ _ _ _ _ _ _ _ _ W d1 d2 d3 d4
theorem le_big {y : Nat} (hy : y < 18446744073709551616) (ny : neg y = false) (my : mag y ≤ 9218868437227405312) : (FloatKind.f64.format.order y 9218868437227405311 == some Ordering.lt || FloatKind.f64.format.order y 9218868437227405311 == some Ordering.eq) = decide (mag y < 9218868437227405312) := by
  rw [ord_le y _ hy (by omega)]
  unfold le
  have e : stp y = (mag y : Int) := by unfold stp sgn; rw [ny]; rfl
  rw [show isNaN y = false from by unfold isNaN; exact decide_eq_false (by omega), show isNaN 9218868437227405311 = false by decide, show stp 9218868437227405311 = 9218868437227405311 by decide, e]
  simp only [Bool.not_false, Bool.true_and]
  congr 1
  exact propext ⟨fun h => by omega, fun h => by omega⟩
theorem eq_no {a : Nat} (ha : a < 18446744073709551616) (h : stp a ≠ 0) : (FloatKind.f64.format.order a 0 == some Ordering.eq) = false := by
  rw [ord_eq a 0 ha (by omega), eq_zero a ha]
  have h1 : a ≠ 0 := fun e => h (by rw [e]; decide)
  have h2 : a ≠ 9223372036854775808 := fun e => h (by rw [e]; decide)
  rw [decide_eq_false h1, decide_eq_false h2]
  rfl
theorem dsimple_ok {a b : Nat} {P : Int} {Q : Nat} (ha : a < 18446744073709551616) (hb : b < 18446744073709551616) (hv : vI a b = true) (hSM : SM a b P Q) (w : World) : Calls Tryz.prog 5 #[.agg #[.float .f64 a, .float .f64 b]] w fun r w' => Out3D w (un P 0) (un (Q : Int) 0) 0 r w' := by
  obtain ⟨na, nb, hs, h1, h2, a0, b0⟩ := vI_all hv
  have kv : ∀ W, Below w.heap.size w W → Calls Tryz.prog 16 #[.agg #[.float .f64 a, .float .f64 b]] W fun r w' => r = .returned (.bool true) ∧ Below W.heap.size W w' := fun W _ => by
    have := d8valid a b ha hb W
    rw [hv] at this
    exact this
  rcases hSM with ⟨c, p, rfl, hle, hS⟩ | ⟨c, p, rfl, hle, hS⟩ | ⟨c1, c2, rfl, rfl⟩
  · have fa := flp ha (by omega) a0
    have fb := flp hb (by omega) b0
    obtain ⟨tA, tB, tC, tD, k2, k3, k3', k4⟩ := dsimp_core ha hb fa.1 fb.1 hle hS
    have o1 := ord_lt a 0 ha (by omega)
    rw [lt_0r na, decide_eq_false (by omega)] at o1
    have o2 := ord_lt b 0 hb (by omega)
    rw [lt_0r nb, decide_eq_false (by omega)] at o2
    have o3 := le_big hb fb.1 (nn_mag nb)
    by_cases hf : mag b < 9218868437227405312
    · rw [decide_eq_true hf] at o3
      exact dsimp8_01 a b w tA tB tC tD _ _ o1 (eq_no ha (by omega)) o2 o3 kv (fun W _ => k2 W) (fun W _ => k3 hf W) (fun s1 ao1 n1 cp1 e1 s2 ao2 n2 cp2 e2 s3 ao3 n3 cp3 e3 s4 ao4 n4 cp4 e4 W _ => k4 s1 ao1 n1 cp1 e1 s2 ao2 n2 cp2 e2 s3 ao3 n3 cp3 e3 s4 ao4 n4 cp4 e4 W)
    · rw [decide_eq_false hf] at o3
      obtain ⟨rfl, rfl⟩ := k3' hf
      exact dsimp8_00 a b w tA tB (un 1 0) nilN _ _ o1 (eq_no ha (by omega)) o2 o3 kv (fun W _ => k2 W) (fun s1 ao1 n1 cp1 e1 s2 ao2 n2 cp2 e2 s3 ao3 n3 cp3 e3 s4 ao4 n4 cp4 e4 W _ => k4 s1 ao1 n1 cp1 e1 s2 ao2 n2 cp2 e2 s3 ao3 n3 cp3 e3 s4 ao4 n4 cp4 e4 W)
  · have fa := flq (a := a) (by omega)
    have fb := flq c
    have na' : stp (ngt a) = -stp a := ngt_stp ha
    have nb' : stp (ngt b) = -stp b := ngt_stp hb
    have ga : neg (ngt a) = false := by rw [ngt_neg ha, fa.1]; rfl
    have gb : neg (ngt b) = false := by rw [ngt_neg hb, fb.1]; rfl
    obtain ⟨tA, tB, tC, tD, k2, k3, k3', k4⟩ := dsimp_core (ngt_lt hb) (ngt_lt ha) gb ga hle hS
    have o1 := ord_lt a 0 ha (by omega)
    rw [lt_0r na, decide_eq_true (by omega)] at o1
    have o2 := ord_lt b 0 hb (by omega)
    rw [lt_0r nb, decide_eq_true (by omega)] at o2
    have o4 := ord_gt b 0 hb (by omega)
    rw [show lt 0 b = false from by unfold lt; rw [nb, show isNaN 0 = false by decide, show stp 0 = 0 by decide, decide_eq_false (by omega)]; rfl] at o4
    have o3 := le_big (ngt_lt ha) ga (by rw [ngt_mag ha]; exact nn_mag na)
    by_cases hf : mag (ngt a) < 9218868437227405312
    · rw [decide_eq_true hf] at o3
      exact dsimp8_11 a b w (ngt b) (ngt a) tA tB tC tD _ _ _ o1 (eq_no ha (by omega)) o4 (eq_no hb (by omega)) (negF b hb) (negF a ha) o2 o3 kv (fun W _ => k2 W) (fun W _ => k3 hf W) (fun s1 ao1 n1 cp1 e1 s2 ao2 n2 cp2 e2 s3 ao3 n3 cp3 e3 s4 ao4 n4 cp4 e4 W _ => k4 s1 ao1 n1 cp1 e1 s2 ao2 n2 cp2 e2 s3 ao3 n3 cp3 e3 s4 ao4 n4 cp4 e4 W) gN_un
    · rw [decide_eq_false hf] at o3
      obtain ⟨rfl, rfl⟩ := k3' hf
      exact dsimp8_10 a b w (ngt b) (ngt a) tA tB (un 1 0) nilN _ _ _ o1 (eq_no ha (by omega)) o4 (eq_no hb (by omega)) (negF b hb) (negF a ha) o2 o3 kv (fun W _ => k2 W) (fun s1 ao1 n1 cp1 e1 s2 ao2 n2 cp2 e2 s3 ao3 n3 cp3 e3 s4 ao4 n4 cp4 e4 W _ => k4 s1 ao1 n1 cp1 e1 s2 ao2 n2 cp2 e2 s3 ao3 n3 cp3 e3 s4 ao4 n4 cp4 e4 W) gN_un
  · have o1 := ord_le a 0 ha (by omega)
    rw [le_0r na, decide_eq_true c1] at o1
    have o2 := ord_ge b 0 hb (by omega)
    rw [le_0l nb, decide_eq_true c2] at o2
    rw [un_0]
    exact dsimp8_0 a b w o1 o2 kv
theorem dsimple_no {a b : Nat} (ha : a < 18446744073709551616) (hb : b < 18446744073709551616) (hv : vI a b = false) (w : World) : Calls Tryz.prog 5 #[.agg #[.float .f64 a, .float .f64 b]] w fun r w' => Out3D w nilN nilN 1 r w' :=
  dsimp8_no a b w (fun W _ => by
    have := d8valid a b ha hb W
    rw [hv] at this
    exact this)
theorem psimple_sm {a b : Nat} (ha : a < 18446744073709551616) (hb : b < 18446744073709551616) (hv : vI a b = true) : ∃ (P : Int) (Q : Nat), SM a b P Q ∧ ∀ w, Tab32 w → Ie.Tab w → Calls Tryz.prog 4 #[.agg #[.float .f64 a, .float .f64 b]] w fun r w' => Out2N w (un P 0) (un (Q : Int) 0) 0 r w' := by
  obtain ⟨na, nb, hs, h1, h2, a0, b0⟩ := vI_all hv
  have kv : ∀ W, Calls Tryz.prog 12 #[.agg #[.float .f64 a, .float .f64 b]] W fun r w' => r = .returned (.bool true) ∧ Below W.heap.size W w' := fun W => by
    have := svalid a b ha hb W
    rw [hv] at this
    exact this
  have km : ∀ W, Calls Tryz.prog 14 #[.agg #[.float .f64 a, .float .f64 b]] W fun r w' => r = .returned (.agg #[.float .f64 (mgX a b), .float .f64 (mgY a b)]) ∧ Below W.heap.size W w' := fun W => smag a b W ha hb na nb
  have ol := ord_lt b 0 hb (by omega)
  rw [lt_0r nb] at ol
  unfold mgX mgY at km
  rw [le_0l na, le_0r nb] at km
  by_cases c1 : 0 ≤ stp a
  · rw [decide_eq_true c1] at km
    simp only [if_true] at km
    rw [decide_eq_false (by omega)] at ol
    have fa := flp ha c1 a0
    have fb := flp hb (by omega) b0
    have ma : mag a < 9218868437227405312 := by omega
    obtain ⟨P, Q, hle, hS⟩ := smp_of ha hb fa.1 ma fb.1 hs
    obtain ⟨q0, qk, pk, lo, hi, mn⟩ := smp_sv hle hS
    refine ⟨P, Q, ?_, fun w hT hJ => ?_⟩
    · by_cases c0 : stp a = 0
      · refine .inr (.inr ⟨by omega, by omega, ?_⟩)
        have ea : a = 0 := by
          rcases (stp_zero ha).1 c0 with e | e
          · exact e
          · exact absurd e a0
        have g1 := (smp_le hS hle).1.1
        have g2 := ((smp_in hS hle).2 0 1 (by omega) (by rw [ea, fU_0]; omega) (by omega)).2
        rw [ea, fU_0] at g1
        exact ⟨by omega, by omega⟩
      · exact .inl ⟨by omega, P, rfl, hle, hS⟩
    · exact psimp_pos a b a b _ _ w ol (fun W _ => kv W) (fun W _ => km W) (fun W hW => simp_un ha hb fa.1 ma fb.1 (nn_mag nb) hle hS (hT.later hW) (Tab.later hJ hW))
  · rw [decide_eq_false c1] at km
    have fa := flq (a := a) (by omega)
    have na' : stp (ngt a) = -stp a := ngt_stp ha
    have nb' : stp (ngt b) = -stp b := ngt_stp hb
    have ga : neg (ngt a) = false := by rw [ngt_neg ha, fa.1]; rfl
    by_cases c2 : stp b < 0
    · rw [decide_eq_true (by omega : stp b ≤ 0), pl_id (x := ngt b) (by omega), pl_id (x := ngt a) (by omega)] at km
      simp only [if_true, if_false, Bool.false_eq_true] at km
      rw [decide_eq_true c2] at ol
      have fb := flq c2
      have gb : neg (ngt b) = false := by rw [ngt_neg hb, fb.1]; rfl
      have mb : mag b < 9218868437227405312 := by omega
      have mb' : mag (ngt b) < 9218868437227405312 := by rw [ngt_mag hb]; exact mb
      obtain ⟨P, Q, hle, hS⟩ := smp_of (ngt_lt hb) (ngt_lt ha) gb mb' ga (by omega)
      obtain ⟨q0, qk, pk, lo, hi, mn⟩ := smp_sv hle hS
      rw [ngt_mag ha, fU_ngt ha] at hi mn
      rw [fU_ngt hb] at lo mn
      refine ⟨-(P : Int), Q, .inr (.inl ⟨c2, P, rfl, hle, hS⟩), fun w hT hJ => ?_⟩
      · exact psimp_neg a b (ngt b) (ngt a) (un (P : Int) 0) _ _ w ol (fun W _ => kv W) (fun W _ => km W) (fun W hW => simp_un (ngt_lt hb) (ngt_lt ha) gb mb' ga (by rw [ngt_mag ha]; exact nn_mag na) hle hS (hT.later hW) (Tab.later hJ hW)) (fun W X _ hX => pneg_un (b := bU) (by rw [Int.natAbs_natCast]; exact pk) (by unfold bU; omega) hX)
    · rw [decide_eq_false c2] at ol
      have fb := flp hb (by omega) b0
      obtain ⟨y, hy, yn, ym, y0, km⟩ : ∃ y, y < 18446744073709551616 ∧ neg y = false ∧ mag y ≤ 9218868437227405312 ∧ 0 ≤ stp y ∧ ∀ W, Calls Tryz.prog 14 #[.agg #[.float .f64 a, .float .f64 b]] W fun r w' => r = .returned (.agg #[.float .f64 0, .float .f64 y]) ∧ Below W.heap.size W w' := by
        by_cases c3 : stp b ≤ 0
        · rw [decide_eq_true c3, pl_id (x := ngt a) (by omega)] at km
          simp only [if_true, if_false, Bool.false_eq_true] at km
          have eb : b = 0 := by
            rcases (stp_zero hb).1 (by omega) with e | e
            · exact e
            · exact absurd e b0
          have e0 : pl (ngt b) = 0 := by rw [eb]; decide
          rw [e0] at km
          exact ⟨ngt a, ngt_lt ha, ga, by rw [ngt_mag ha]; exact nn_mag na, by omega, km⟩
        · rw [decide_eq_false c3] at km
          simp only [if_true, if_false, Bool.false_eq_true] at km
          have e : fMax (ngt a) b = b ∨ fMax (ngt a) b = ngt a := by
            unfold fMax
            split
            · exact .inl rfl
            · split
              · exact .inr rfl
              · split
                · exact .inl rfl
                · exact .inr rfl
          rcases e with e | e
          · rw [e] at km
            exact ⟨b, hb, fb.1, nn_mag nb, by omega, km⟩
          · rw [e] at km
            exact ⟨ngt a, ngt_lt ha, ga, by rw [ngt_mag ha]; exact nn_mag na, by omega, km⟩
      obtain ⟨P, Q, hle, hS⟩ := smp_of (x := 0) (by omega) hy (by decide) (by decide) yn (by rw [show stp 0 = 0 by decide]; exact y0)
      have g1 := (smp_le hS hle).1.1
      have g2 := ((smp_in hS hle).2 0 1 (by omega) (by rw [fU_0]; omega) (by omega)).2
      have g3 := (smp_pos hS hle).1
      rw [fU_0] at g1
      have eP : P = 0 := by omega
      have eQ : Q = 1 := by omega
      refine ⟨0, 1, .inr (.inr ⟨by omega, by omega, rfl, rfl⟩), fun w hT hJ => ?_⟩
      · have k := psimp_pos a b 0 y (un (P : Int) 0) (un (Q : Int) 0) w ol (fun W _ => kv W) (fun W _ => km W) (fun W hW => simp_un (by omega) hy (by decide) (by decide) yn ym hle hS (hT.later hW) (Tab.later hJ hW))
        rw [eP, eQ] at k
        exact k
def OutI (W : World) (X Y : Nat) (E : Int) (r : Ending) (w' : World) : Prop := r = .returned (.tuple #[.agg #[.float .f64 X, .float .f64 Y], .int .i64 E]) ∧ Below W.heap.size W w'
theorem join_Fr {na nb : Bool} {ua va : Option Addr} {un uc vn vc x y : Nat} {ea eb : Int} {w : World} (hT : Tab32 w) (h1 : Arg w ua un uc x) (h2 : Arg w va vn vc y) (hx : dlen x ≤ un) (hy : dlen y ≤ vn) :
    ∃ X Y E, X < 18446744073709551616 ∧ Y < 18446744073709551616 ∧
      (∀ W A B, Below w.heap.size w W → PI na un x ea W A → PI nb vn y eb W B → Calls Tryz.prog 6 #[A, B] W fun r w' => OutI W X Y E r w') ∧
      (∀ W, Below w.heap.size w W → Calls Tryz.prog 8 #[.agg #[.bool na, .slice ua un uc, .int .i64 ea], .agg #[.bool nb, .slice va vn vc, .int .i64 eb]] W fun r w' => OutI W X Y E r w') := by
  have kM : ∀ V, (okN na un x ea && okN nb vn y eb) = V → ∀ W pa pc qa qc, At W pa un x → At W qa vn y → ∀ W' g, Below W.heap.size W W' → W'.heap[g]? = some (.cells #[.bool na, .slice pa un pc, .int .i64 ea, .bool nb, .slice qa vn qc, .int .i64 eb] 28 (0, 0)) → Calls Tryz.prog 44 #[.slice (some ⟨g, 0, none⟩) 2 2] W' fun r w' => r = .returned (.bool V) ∧ Below W'.heap.size W' w' := fun V hV W pa pc qa qc p2 q2 W' g hW' hg => by
    have := maybe2_at hg (p2.later hW') (q2.later hW') h1.small h2.small
    rw [hV] at this
    exact this
  have v1 : ∀ V, okN na un x ea = V → ∀ W, Below w.heap.size w W → Calls Tryz.prog 23 #[.agg #[.bool na, .slice ua un uc, .int .i64 ea]] W fun r w' => r = .returned (.bool V) ∧ Below W.heap.size W w' := fun V hV W hW => by
    have := rvalid (s := na) (e := ea) (h1.later hW)
    rw [hV] at this
    exact this
  have v2 : ∀ V, okN nb vn y eb = V → ∀ W, Below w.heap.size w W → Calls Tryz.prog 23 #[.agg #[.bool nb, .slice va vn vc, .int .i64 eb]] W fun r w' => r = .returned (.bool V) ∧ Below W.heap.size W w' := fun V hV W hW => by
    have := rvalid (s := nb) (e := eb) (h2.later hW)
    rw [hV] at this
    exact this
  by_cases hno : (okN na un x ea && okN nb vn y eb) = false
  · refine ⟨0, 0, 1, by omega, by omega, fun W X Y hW hX hY => ?_, fun W hW => ?_⟩
    · obtain ⟨v, b, rfl, d1⟩ := hX
      obtain ⟨v', b', rfl, d2⟩ := hY
      obtain ⟨pa, pc, rfl, p1, p2⟩ := d1.at
      obtain ⟨qa, qc, rfl, q1, q2⟩ := d2.at
      exact pfrac_no na pa un pc ea nb qa vn qc eb 1 W (by decide) (fun W' hW' => pratio_no na nb pa qa un pc vn qc ea eb 1 false W' (fun h => by cases h) (kM _ hno W' pa pc qa qc (p2.later hW') (q2.later hW')))
    · cases o1 : okN na un x ea
      · exact dfrac_no1 na ua un uc ea nb va vn vc eb W (fun W' hW' => v1 _ o1 W' (hW.trans (hW'.mono hW.size)))
      · have o2 : okN nb vn y eb = false := by rw [o1] at hno; exact hno
        exact dfrac_no2 na ua un uc ea nb va vn vc eb W (fun W' hW' => v1 _ o1 W' (hW.trans (hW'.mono hW.size))) (fun W' hW' => v2 _ o2 W' (hW.trans (hW'.mono hW.size)))
  · have hok : (okN na un x ea && okN nb vn y eb) = true := by
      cases h : (okN na un x ea && okN nb vn y eb)
      · exact absurd h hno
      · rfl
    have hok2 := hok
    rw [Bool.and_eq_true] at hok2
    obtain ⟨o1, o2⟩ := hok2
    obtain rfl := okN_len hx o1
    obtain rfl := okN_len hy o2
    have ok1 : Ok (na, x, ea) := o1
    have ok2 : Ok (nb, y, eb) := o2
    have f1 := ok1.facts
    have f2 := ok2.facts
    simp only at f1 f2
    have bx := bl_le_dlen x
    have by' := bl_le_dlen y
    by_cases hy0 : y = 0
    · subst hy0
      refine ⟨0, 0, 6, by omega, by omega, fun W X Y hW hX hY => ?_, fun W hW => ?_⟩
      · obtain ⟨v, b, rfl, d1⟩ := hX
        obtain ⟨v', b', rfl, d2⟩ := hY
        obtain ⟨pa, pc, rfl, p1, p2⟩ := d1.at
        obtain ⟨qa, qc, rfl, q1, q2⟩ := d2.at
        refine pfrac_no na pa _ pc ea nb qa _ qc eb 6 W (by decide) (fun W' hW' => ?_)
        have km := kM _ hok W' pa pc qa qc (p2.later hW') (q2.later hW')
        rw [dlen_zero] at km ⊢
        exact pratio_z na nb pa qa _ pc qc ea eb 1 W' (by decide) km
      · exact dfrac_z na ua _ uc ea nb va _ vc eb W (by rw [dlen_zero]; rfl) (fun W' hW' => v1 _ o1 W' (hW.trans (hW'.mono hW.size))) (fun W' hW' => v2 _ o2 W' (hW.trans (hW'.mono hW.size)))
    · have hn1 : ((dlen y : Int) == 0) = false := len_ne (n := 0) hy0
      by_cases hx0 : x = 0
      · subst hx0
        refine ⟨pl 0, pl 0, 0, by decide, by decide, fun W X Y hW hX hY => ?_, fun W hW => ?_⟩
        · obtain ⟨v, b, rfl, d1⟩ := hX
          obtain ⟨v', b', rfl, d2⟩ := hY
          obtain ⟨pa, pc, rfl, p1, p2⟩ := d1.at
          obtain ⟨qa, qc, rfl, q1, q2⟩ := d2.at
          have kr : ∀ (m : Int), ((m == 1) || (m == 2) || (m == 3)) = true → ∀ W', Below W.heap.size W W' → Calls Tryz.prog 21 #[.agg #[.bool na, .slice pa (dlen 0) pc, .int .i64 ea], .agg #[.bool nb, .slice qa (dlen y) qc, .int .i64 eb], .int .i64 m] W' fun r w' => Out2 W' 0 0 r w' := fun m hm W' hW' => by
            have km := kM _ hok W' pa pc qa qc (p2.later hW') (q2.later hW')
            rw [dlen_zero] at km ⊢
            exact pratio_a0 na nb pa qa pc _ qc ea eb m W' hm hn1 km
          exact pfrac_1 na pa _ pc ea nb qa _ qc eb 0 0 _ _ W (kr 1 (by decide)) (kr 3 (by decide)) (fun W' => sbetween 0 0 W' (by omega) (by omega))
        · have q := dfrac_1 na ua (dlen 0) uc ea nb va (dlen y) vc eb 0 0 (pl 0) (pl 0) 0 y W hn1 (h1.later hW) (h2.later hW) (fun W' hW' => v1 _ o1 W' (hW.trans (hW'.mono hW.size))) (fun W' hW' => v2 _ o2 W' (hW.trans (hW'.mono hW.size))) (fun W' _ _ => by rw [dlen_zero]; exact rratioto_0 _ _ _ _ _ _ _ _ _ _ _) (fun W' _ _ => by rw [dlen_zero]; exact rratioto_0 _ _ _ _ _ _ _ _ _ _ _) (fun W' => dpl 0 (by omega) W') (fun W' => dpl 0 (by omega) W')
          exact q
      · have hn0 : ((dlen x : Int) == 0) = false := len_ne (n := 0) hx0
        obtain ⟨k, hk⟩ : ∃ n : Nat, max 0 (64 + (bl y : Int) - (bl x : Int)) = (n : Int) := ⟨(max 0 (64 + (bl y : Int) - (bl x : Int))).toNat, by omega⟩
        obtain ⟨F, hF⟩ : ∃ F : Int → Nat, F = fun m => tfF (na != nb) (decide (x * 2 ^ k % y = 0)) (x * 2 ^ k / y) (ea - eb - k) m := ⟨_, rfl⟩
        have Fl : ∀ m : Int, 1 ≤ m ∧ m ≤ 3 → F m < 18446744073709551616 := fun m hm => by rw [hF]; exact tfF_lt' hm
        refine ⟨pl (F 1), pl (F 3), 0, pl_lt (Fl 1 (by omega)), pl_lt (Fl 3 (by omega)), fun W X Y hW hX hY => ?_, fun W hW => ?_⟩
        · obtain ⟨v, b, rfl, d1⟩ := hX
          obtain ⟨v', b', rfl, d2⟩ := hY
          obtain ⟨pa, pc, e1, i1⟩ := dn_pn (s := na) (e := ea) d1
          obtain ⟨qa, qc, e2, i2⟩ := dn_pn (s := nb) (e := eb) d2
          simp only at e1 i1 e2 i2
          rw [e1, e2]
          have kr : ∀ (m : Int), 1 ≤ m ∧ m ≤ 3 → ∀ W', Below W.heap.size W W' → Calls Tryz.prog 21 #[.agg #[.bool na, .slice pa (dlen x) pc, .int .i64 ea], .agg #[.bool nb, .slice qa (dlen y) qc, .int .i64 eb], .int .i64 m] W' fun r w' => Out2 W' (F m) 0 r w' := fun m hm W' hW' => by
            rw [hF]
            refine pratio_1 na nb pa qa _ pc _ qc x y k (bl x) (bl y) ea eb m (na != nb) W' (rfl : (!(na == nb)) = (na != nb)) ((hT.later hW).later hW') (i1.later hW') (i2.later hW') (by omega) (by omega) hy0 (by omega) (by omega) (by omega) (by omega) (by omega) rfl rfl (by omega) (by omega) hk (by omega) hn0 hn1 (fun W'' g hW'' hg => ?_)
            have := maybe2 hg ((i1.later hW').later hW'') ((i2.later hW').later hW'') (by omega) (by omega)
            rw [o1, o2] at this
            exact this
          exact pfrac_1 na pa _ pc ea nb qa _ qc eb (F 1) (F 3) _ _ W (kr 1 (by omega)) (kr 3 (by omega)) (fun W' => sbetween _ _ W' (Fl 1 (by omega)) (Fl 3 (by omega)))
        · have rt : ∀ (m : Int), 1 ≤ m ∧ m ≤ 3 → ∀ W', Arg W' ua (dlen x) uc x → Arg W' va (dlen y) vc y → Calls Tryz.prog 25 #[.agg #[.bool na, .slice ua (dlen x) uc, .int .i64 ea], .agg #[.bool nb, .slice va (dlen y) vc, .int .i64 eb], .int .i64 m] W' fun r w' => r = .returned (.float .f64 (F m)) ∧ Below W'.heap.size W' w' := fun m hm W' a1 a2 => by
            rw [hF]
            exact rratioto a1 a2 f1.1 f2.1 ⟨by omega, by omega⟩ ⟨by omega, by omega⟩ hx0 hy0 hm hk
          exact dfrac_1 na ua (dlen x) uc ea nb va (dlen y) vc eb (F 1) (F 3) _ _ x y W hn1 (h1.later hW) (h2.later hW) (fun W' hW' => v1 _ o1 W' (hW.trans (hW'.mono hW.size))) (fun W' hW' => v2 _ o2 W' (hW.trans (hW'.mono hW.size))) (rt 1 (by omega)) (rt 3 (by omega)) (fun W' => dpl _ (Fl 1 (by omega)) W') (fun W' => dpl _ (Fl 3 (by omega)) W')
end Go.Proofs.YtcdkkpjilgmncaaGreatDoor
namespace Go.Proofs.YtcdkkpjilgmncaaGreatDoor
set_option linter.unusedVariables false
set_option linter.unusedSimpArgs false
open Go.RowKit
structure ParX (pv pa ps : Nat → Nat) (W0 : World) (a0 : Act) (m n : Nat) (slot bx : Nat → Tmp) (vs : Nat → Nat) (T : TypeId) (zs : Array Value) (V : Nat → World → Value → Prop) (listed : Array Bool) (a : Act) (w : World) : Prop where
  below : Below W0.heap.size W0 w
  size : a.tmps.size = a0.tmps.size
  defers : a.defers = a0.defers
  other : ∀ s, (∀ j, j < m → s ≠ slot j) → (∀ k, k < n → s ≠ bx k) → a.tmps[s]? = a0.tmps[s]?
  val : ∀ j, j < m → listed.getD (pv j) false = true → ∃ u, a.tmps[slot j]? = some u ∧ V j w u
  box : ∀ k, k < n → listed.getD (pa k) false = true → ∃ g cs, a.tmps[bx k]? = some (.pointer (some ⟨g, 0, none⟩)) ∧ W0.heap.size ≤ g ∧ w.heap[g]? = some (.cells cs T (0, 0)) ∧ cs.size = zs.size ∧
    (listed.getD (ps k) false = true → a.tmps[slot (vs k)]? = some (.agg cs)) ∧ (listed.getD (ps k) false = false → cs = zs)
  apart : ∀ k k', k < n → k' < n → k ≠ k' → listed.getD (pa k) false = true → listed.getD (pa k') false = true → a.tmps[bx k]? ≠ a.tmps[bx k']?
  stored : ∀ k, k < n → listed.getD (ps k) false = true → listed.getD (pa k) false = true ∧ listed.getD (pv (vs k)) false = true
theorem parx_region {P : Program} {ops : Array Oper} {Q : Exit → Act → World → Prop} {id : Nat} (hm : P.follows .mixedOrders = true) (pv pa ps : Nat → Nat) (m n : Nat) (slot bx : Nat → Tmp) (vs : Nat → Nat) (dep : Nat → List Nat) (T : TypeId) (zs : Array Value)
    (W0 : World) (a0 : Act) (V : Nat → World → Value → Prop) (hall0 : ∀ i, i < ops.size → (∃ j, j < m ∧ i = pv j) ∨ (∃ k, k < n ∧ i = pa k) ∨ ∃ k, k < n ∧ i = ps k)
    (hpv : ∀ j, j < m → pv j < ops.size) (hpa : ∀ k, k < n → pa k < ops.size) (hps : ∀ k, k < n → ps k < ops.size)
    (hvv : ∀ j j', j < m → j' < m → pv j = pv j' → j = j') (haa : ∀ k k', k < n → k' < n → pa k = pa k' → k = k') (hss : ∀ k k', k < n → k' < n → ps k = ps k' → k = k')
    (hva : ∀ j k, j < m → k < n → pv j ≠ pa k) (hvs : ∀ j k, j < m → k < n → pv j ≠ ps k) (has : ∀ k k', k < n → k' < n → pa k ≠ ps k')
    (hord : ∀ (i : Nat) (o : Oper), ops[i]? = some o → ∀ e ∈ o.after, Region.binds .any e = true → e.on < i)
    (hV1 : ∀ j w w' u, Below w.heap.size w w' → V j w u → V j w' u)
    (hV2 : ∀ j w u g cs', w.heap[g]? = some (.cells zs T (0, 0)) → V j w u → V j (w.setRow g cs') u)
    (hVs : ∀ k, k < n → ∀ w u, V (vs k) w u → ∃ cs : Array Value, u = .agg cs ∧ cs.size = zs.size ∧ cs.all (·.oneCell') = true)
    (hdep : ∀ j, j < m → ∀ j' ∈ dep j, j' < m ∧ ∀ o, ops[pv j]? = some o → ∃ e ∈ o.after, e.on = pv j' ∧ Region.binds .any e = true)
    (hA : ∀ j, j < m → ∀ (a : Act) (w : World), Below W0.heap.size W0 w → (∀ s, (∀ j, j < m → s ≠ slot j) → (∀ k, k < n → s ≠ bx k) → a.tmps[s]? = a0.tmps[s]?) →
      (∀ j' ∈ dep j, ∃ u, a.tmps[slot j']? = some u ∧ V j' w u) → wpOp P ops Q (pv j) (fun a' w' => ∃ u, a' = a.put (some (slot j)) u ∧ V j w' u ∧ Below w.heap.size w w') a w)
    (hal : ∀ k, k < n → ∃ o, ops[pa k]? = some o ∧ o.guard = none ∧ o.op = .alloc T ∧ o.dst = some (bx k))
    (hz : ∀ w, (zeroValue T).run P w = .ok (.agg zs) w) (hi : (P.info? T).map (·.size) = some zs.size)
    (hst : ∀ k, k < n → vs k < m ∧ ∃ o, ops[ps k]? = some o ∧ o.guard = none ∧ o.op = .store T (.tmp (bx k)) (.tmp (slot (vs k))) ∧ o.dst = none ∧ (∃ e ∈ o.after, e.on = pa k ∧ Region.binds .any e = true) ∧ (∃ e ∈ o.after, e.on = pv (vs k) ∧ Region.binds .any e = true))
    (hin : ∀ j, j < m → slot j < a0.tmps.size) (hbin : ∀ k, k < n → bx k < a0.tmps.size)
    (hinj : ∀ j j', j < m → j' < m → slot j = slot j' → j = j') (hbinj : ∀ k k', k < n → k' < n → bx k = bx k' → k = k') (hsb : ∀ j k, j < m → k < n → slot j ≠ bx k)
    (hQ : ∀ (u : Nat → Value) (g : Nat → Nat) (a : Act) (w : World), Below W0.heap.size W0 w → (∀ j, j < m → a.tmps[slot j]? = some (u j) ∧ V j w (u j)) →
      (∀ k, k < n → a.tmps[bx k]? = some (.pointer (some ⟨g k, 0, none⟩)) ∧ W0.heap.size ≤ g k ∧ ∃ cs, u (vs k) = .agg cs ∧ w.heap[g k]? = some (.cells cs T (0, 0))) →
      (∀ k k', k < n → k' < n → k ≠ k' → g k ≠ g k') → a.tmps.size = a0.tmps.size → a.defers = a0.defers → (∀ s, (∀ j, j < m → s ≠ slot j) → (∀ k, k < n → s ≠ bx k) → a.tmps[s]? = a0.tmps[s]?) → Q .normal a w) :
    (Code.region id ops true).wp P Q a0 W0 := by
  refine wp_region_any hm ?_
  refine wpAny_inv (ParX pv pa ps W0 a0 m n slot bx vs T zs V) ?_ ?_ ops.size _ a0 _ (by simp) ?_ (by simp)
  · -- a step
    intro listed a w i hl hI hr
    obtain ⟨hun, o, ho, hall⟩ := mem_ready.1 hr
    have hunf := not_listed hun
    have hio : i < ops.size := (Array.getElem?_eq_some_iff.1 ho).1
    have hil : i < listed.size := by omega
    have hset := listed_set hil
    have hne : ∀ x, x ≠ i → (listed.setIfInBounds i true).getD x false = listed.getD x false := fun x hx => getD_set_ne false (Ne.symm hx)
    rcases hall0 i hio with ⟨i, him, rfl⟩ | ⟨k, hk, rfl⟩ | ⟨k, hk, rfl⟩
    · have nv : ∀ j, j < m → j ≠ i → pv j ≠ pv i := fun j hj e e2 => e (hvv j i hj him e2)
      have na : ∀ k, k < n → pa k ≠ pv i := fun k hk e => hva i k him hk e.symm
      have ns : ∀ k, k < n → ps k ≠ pv i := fun k hk e => hvs i k him hk e.symm
      refine wpOp_mono ?_ (hA i him a w hI.below hI.other fun j' hj' => ?_)
      · rintro a' w' ⟨u, rfl, hu, hb⟩
        have hlt : slot i < a.tmps.size := by rw [hI.size]; exact hin i him
        refine ⟨hI.below.trans (hb.mono hI.below.size), by rw [put_size]; exact hI.size, by rw [put_defers]; exact hI.defers, fun s h1 h2 => ?_, fun j hj h1 => ?_, fun k hk h1 => ?_, fun k k' hk hk' hkk h1 h2 => ?_, fun k hk h1 => ?_⟩
        · rw [put_get_ne (h1 i him)]; exact hI.other s h1 h2
        · by_cases e : j = i
          · subst e; exact ⟨u, put_get hlt, hu⟩
          · rw [hne _ (nv j hj e)] at h1
            obtain ⟨u', g1, g2⟩ := hI.val j hj h1
            exact ⟨u', by rw [put_get_ne (fun e2 => e (hinj j i hj him e2))]; exact g1, hV1 _ _ _ _ hb g2⟩
        · rw [hne _ (na k hk)] at h1
          obtain ⟨g, cs, g1, g2, g3, g4, g5, g6⟩ := hI.box k hk h1
          refine ⟨g, cs, by rw [put_get_ne (Ne.symm (hsb i k him hk))]; exact g1, g2, (hb.block g (Array.getElem?_eq_some_iff.1 g3).1).trans g3, g4, fun h2 => ?_, fun h2 => g6 (by rw [← hne (ps k) (ns k hk)]; exact h2)⟩
          rw [hne _ (ns k hk)] at h2
          have h3 := (hI.stored k hk h2).2
          have h4 : vs k ≠ i := fun e => by rw [e, hunf] at h3; cases h3
          rw [put_get_ne (fun e2 => h4 (hinj _ _ (hst k hk).1 him e2))]
          exact g5 h2
        · rw [hne _ (na k hk)] at h1
          rw [hne _ (na k' hk')] at h2
          rw [put_get_ne (Ne.symm (hsb i k him hk)), put_get_ne (Ne.symm (hsb i k' him hk'))]
          exact hI.apart k k' hk hk' hkk h1 h2
        · rw [hne _ (ns k hk)] at h1
          obtain ⟨h2, h3⟩ := hI.stored k hk h1
          exact ⟨getD_set_true h2, getD_set_true h3⟩
      · obtain ⟨h1, h2⟩ := hdep i him j' hj'
        obtain ⟨e, he, h3, hbd⟩ := h2 o ho
        exact hI.val _ h1 (by rw [← h3]; exact hall e he hbd)
    · have nv : ∀ j, j < m → pv j ≠ pa k := fun j hj => hva j k hj hk
      have na : ∀ k1, k1 < n → k1 ≠ k → pa k1 ≠ pa k := fun k1 hk1 e e2 => e (haa k1 k hk1 hk e2)
      have ns : ∀ k1, k1 < n → ps k1 ≠ pa k := fun k1 hk1 e => has k k1 hk hk1 e.symm
      obtain ⟨o', ho', hg, hop, hd⟩ := hal k hk
      refine step_alloc ho' hg hop hz ?_
      rw [hd]
      have hlt : bx k < a.tmps.size := by rw [hI.size]; exact hbin k hk
      have hbw : Below w.heap.size w (w.alloc (.cells zs T)) := (Below.refl _ _).alloc (Nat.le_refl _) _
      refine ⟨hI.below.trans (hbw.mono hI.below.size), by rw [put_size]; exact hI.size, by rw [put_defers]; exact hI.defers, fun s h1 h2 => ?_, fun j hj h1 => ?_, fun k1 hk1 h1 => ?_, fun k1 k2 hk1 hk2 hkk h1 h2 => ?_, fun k1 hk1 h1 => ?_⟩
      · rw [put_get_ne (h2 k hk)]; exact hI.other s h1 h2
      · rw [hne _ (nv j hj)] at h1
        obtain ⟨u', g1, g2⟩ := hI.val j hj h1
        exact ⟨u', by rw [put_get_ne (hsb j k hj hk)]; exact g1, hV1 _ _ _ _ hbw g2⟩
      · by_cases e : k1 = k
        · subst e
          refine ⟨w.heap.size, zs, put_get hlt, hI.below.size, heap_alloc_new _ _, rfl, fun h2 => ?_, fun _ => rfl⟩
          rw [hne _ (ns k1 hk)] at h2
          have := (hI.stored k1 hk h2).1
          rw [hunf] at this
          cases this
        · rw [hne _ (na k1 hk1 e)] at h1
          obtain ⟨g, cs, g1, g2, g3, g4, g5, g6⟩ := hI.box k1 hk1 h1
          refine ⟨g, cs, by rw [put_get_ne (fun e2 => e (hbinj _ _ hk1 hk e2))]; exact g1, g2, (hbw.block g (Array.getElem?_eq_some_iff.1 g3).1).trans g3, g4, fun h2 => ?_, fun h2 => g6 (by rw [← hne (ps k1) (ns k1 hk1)]; exact h2)⟩
          rw [hne _ (ns k1 hk1)] at h2
          rw [put_get_ne (hsb _ k (hst k1 hk1).1 hk)]
          exact g5 h2
      · have old : ∀ k1, k1 < n → k1 ≠ k → listed.getD (pa k1) false = true → a.tmps[bx k1]? ≠ some (.pointer (some ⟨w.heap.size, 0, none⟩)) := fun k1 hk1 e h1 h2 => by
          obtain ⟨g, cs, g1, g2, g3, g4, g5, g6⟩ := hI.box k1 hk1 h1
          have hlt := (Array.getElem?_eq_some_iff.1 g3).1
          rw [g1] at h2
          simp only [Option.some.injEq, Value.pointer.injEq, Addr.mk.injEq] at h2
          omega
        by_cases e1 : k1 = k
        · subst e1
          rw [hne _ (na k2 hk2 (Ne.symm hkk))] at h2
          rw [put_get hlt, put_get_ne (fun e2 => hkk (hbinj _ _ hk hk2 e2.symm))]
          exact Ne.symm (old k2 hk2 (Ne.symm hkk) h2)
        · rw [hne _ (na k1 hk1 e1)] at h1
          by_cases e2 : k2 = k
          · subst e2
            rw [put_get hlt, put_get_ne (fun e2 => e1 (hbinj _ _ hk1 hk e2))]
            exact old k1 hk1 e1 h1
          · rw [hne _ (na k2 hk2 e2)] at h2
            rw [put_get_ne (fun e3 => e1 (hbinj _ _ hk1 hk e3)), put_get_ne (fun e3 => e2 (hbinj _ _ hk2 hk e3))]
            exact hI.apart k1 k2 hk1 hk2 hkk h1 h2
      · rw [hne _ (ns k1 hk1)] at h1
        obtain ⟨h2, h3⟩ := hI.stored k1 hk1 h1
        exact ⟨getD_set_true h2, getD_set_true h3⟩
    · have nv : ∀ j, j < m → pv j ≠ ps k := fun j hj => hvs j k hj hk
      have na : ∀ k1, k1 < n → pa k1 ≠ ps k := fun k1 hk1 => has k1 k hk1 hk
      have ns : ∀ k1, k1 < n → k1 ≠ k → ps k1 ≠ ps k := fun k1 hk1 e e2 => e (hss k1 k hk1 hk e2)
      obtain ⟨hvm, o', ho', hg, hop, hd, ⟨e1, he1, hon1, hb1⟩, e2, he2, hon2, hb2⟩ := hst k hk
      obtain rfl : o' = o := Option.some.inj (ho'.symm.trans ho)
      have l1 := hall e1 he1 hb1
      have l2 := hall e2 he2 hb2
      rw [hon1] at l1
      rw [hon2] at l2
      obtain ⟨u, hu1, hu2⟩ := hI.val _ hvm l2
      obtain ⟨cs, rfl, hc1, hc2⟩ := hVs k hk w u hu2
      obtain ⟨g, old, g1, g2, g3, g4, g5, g6⟩ := hI.box k hk l1
      rw [g6 hunf] at g3 g4
      refine step_store ho' hg hop g1 hu1 g3 (by rw [hc1]; exact hi) (by omega) hc2 ?_
      rw [hd]
      show ParX pv pa ps W0 a0 m n slot bx vs T zs V _ a _
      refine ⟨below_row hI.below g2 _, hI.size, hI.defers, hI.other, fun j hj h1 => ?_, fun k1 hk1 h1 => ?_, fun k1 k2 hk1 hk2 hkk h1 h2 => ?_, fun k1 hk1 h1 => ?_⟩
      · rw [hne _ (nv j hj)] at h1
        obtain ⟨u', q1, q2⟩ := hI.val j hj h1
        exact ⟨u', q1, hV2 _ _ _ _ _ g3 q2⟩
      · rw [hne _ (na k1 hk1)] at h1
        by_cases e : k1 = k
        · subst e
          exact ⟨g, cs, g1, g2, setRow_heap w g _ cs T _ g3, hc1, fun _ => hu1, fun h2 => by rw [hset] at h2; cases h2⟩
        · obtain ⟨g', cs', q1, q2, q3, q4, q5, q6⟩ := hI.box k1 hk1 h1
          have hgg : g' ≠ g := fun e2 => by
            subst e2
            exact hI.apart k1 k hk1 hk e h1 l1 (q1.trans g1.symm)
          refine ⟨g', cs', q1, q2, (setRow_other w g g' cs hgg).trans q3, q4, fun h2 => ?_, fun h2 => q6 (by rw [← hne (ps k1) (ns k1 hk1 e)]; exact h2)⟩
          rw [hne _ (ns k1 hk1 e)] at h2
          exact q5 h2
      · rw [hne _ (na k1 hk1)] at h1
        rw [hne _ (na k2 hk2)] at h2
        exact hI.apart k1 k2 hk1 hk2 hkk h1 h2
      · by_cases e : k1 = k
        · subst e
          exact ⟨getD_set_true l1, getD_set_true l2⟩
        · rw [hne _ (ns k1 hk1 e)] at h1
          obtain ⟨h2, h3⟩ := hI.stored k1 hk1 h1
          exact ⟨getD_set_true h2, getD_set_true h3⟩
  · -- the end: all have come up
    intro listed a w hl hI hr
    have hfull : ∀ i, i < ops.size → listed.getD i false = true := by
      intro i
      induction i using Nat.strongRecOn with
      | _ i ih =>
        intro hi
        cases hx : listed.getD i false with
        | true => rfl
        | false =>
          exfalso
          have ho : ops[i]? = some ops[i] := Array.getElem?_eq_getElem hi
          have : i ∈ Region.ready .any ops listed := by
            refine mem_ready.2 ⟨?_, ops[i], ho, fun e he hbe => ih e.on (hord i _ ho e he hbe) (Nat.lt_trans (hord i _ ho e he hbe) hi)⟩
            have hil : i < listed.size := by omega
            simp only [Array.getD_eq_getD_getElem?, Array.getElem?_eq_getElem hil, Option.getD_some] at hx ⊢
            exact hx
          rw [hr] at this
          cases this
    have hval : ∀ j, ∃ u, j < m → a.tmps[slot j]? = some u ∧ V j w u := fun j => by
      by_cases hj : j < m
      · obtain ⟨u, h1, h2⟩ := hI.val j hj (hfull _ (hpv j hj))
        exact ⟨u, fun _ => ⟨h1, h2⟩⟩
      · exact ⟨undef, fun h => absurd h hj⟩
    obtain ⟨u, hu⟩ := Classical.axiomOfChoice hval
    have hbox : ∀ k, ∃ g, k < n → a.tmps[bx k]? = some (.pointer (some ⟨g, 0, none⟩)) ∧ W0.heap.size ≤ g ∧ ∃ cs, u (vs k) = .agg cs ∧ w.heap[g]? = some (.cells cs T (0, 0)) := fun k => by
      by_cases hk : k < n
      · obtain ⟨g, cs, h1, h2, h3, h4, h5, -⟩ := hI.box k hk (hfull _ (hpa k hk))
        refine ⟨g, fun _ => ⟨h1, h2, cs, ?_, h3⟩⟩
        have h6 := h5 (hfull _ (hps k hk))
        rw [(hu _ (hst k hk).1).1] at h6
        exact Option.some.inj h6
      · exact ⟨0, fun h => absurd h hk⟩
    obtain ⟨g, hg⟩ := Classical.axiomOfChoice hbox
    exact hQ u g a w hI.below hu hg (fun k k' hk hk' hkk e => hI.apart k k' hk hk' hkk (hfull _ (hpa k hk)) (hfull _ (hpa k' hk')) (by rw [(hg k hk).1, (hg k' hk').1, e])) hI.size hI.defers hI.other
  · -- the start
    have h0 : ∀ x, (Array.replicate ops.size false).getD x false = true → False := fun x h => by
      simp [Array.getD_eq_getD_getElem?, Array.getElem?_replicate] at h
      split at h <;> simp at h
    exact ⟨(Below.refl _ _).drew, rfl, rfl, fun _ _ _ => rfl, fun j _ h => (h0 _ h).elim, fun k _ h => (h0 _ h).elim, fun k k' _ _ _ h => (h0 _ h).elim, fun k _ h => (h0 _ h).elim⟩
end Go.Proofs.YtcdkkpjilgmncaaGreatDoor
