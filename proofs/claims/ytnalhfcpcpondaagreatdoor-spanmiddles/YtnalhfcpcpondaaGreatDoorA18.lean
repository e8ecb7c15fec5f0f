/- Own work: contracts of the program's functions, part 18: SNI SNJ SNL SNP SNQ SNR SNN SNS SNK SNT SNU SNV SNW SNX SNY. -/
import Derived.Test.YtnalhfcpcpondaaGreatDoorA17
import Derived.Test.YtnalhfcpcpondaaGreatDoorA8
import Derived.Test.YtnalhfcpcpondaaGreatDoorA9
import Derived.Test.YtnalhfcpcpondaaGreatDoorA14
import Derived.Test.YtnalhfcpcpondaaGreatDoorA4
import Derived.Test.YtnalhfcpcpondaaGreatDoorA6
import Derived.Test.YtnalhfcpcpondaaGreatDoorA15
import Derived.Test.YtnalhfcpcpondaaGreatDoorA10

/- The document's ends. -/
namespace Go.Proofs.YtnalhfcpcpondaaGreatDoor
set_option linter.unusedVariables false
set_option linter.unusedSimpArgs false
open Go.RowKit Go.Fl64
attribute [local go_sem] run_store_flt

/-- a box of an end: its cells, and that they can be written -/
def EnB (W : World) (g : Nat) (a b c d : Value) : Prop := W.heap[g]? = some (.cells #[a, b, c, d] 59 (0, 0))
theorem EnB.facts {W : World} {g : Nat} {a b c d : Value} (h : EnB W g a b c d) : (W.cell? ⟨g, 0, none⟩ = some a ∧ W.cell? ⟨g, 1, none⟩ = some b ∧ W.cell? ⟨g, 2, none⟩ = some c ∧ W.cell? ⟨g, 3, none⟩ = some d) ∧ (W.frozen? ⟨g, 0, none⟩ = false ∧ W.frozen? ⟨g, 1, none⟩ = false ∧ W.frozen? ⟨g, 2, none⟩ = false ∧ W.frozen? ⟨g, 3, none⟩ = false) := by
  unfold EnB at h
  simp [World.cell?, World.frozen?, h]
theorem EnB.lt {W : World} {g : Nat} {a b c d : Value} (h : EnB W g a b c d) : g < W.heap.size := lt_of_box h
theorem EnB.box {W w' : World} {g : Nat} {a b c d : Value} (h : EnB W g a b c d) (hb : Below W.heap.size W w') : EnB w' g a b c d := box_later h hb h.lt
theorem EnB.new (w : World) (a b c d : Value) : EnB (w.alloc (.cells #[a, b, c, d] 59)) w.heap.size a b c d := heap_alloc_new _ _
theorem EnB.alloc {W : World} {g : Nat} {a b c d : Value} (h : EnB W g a b c d) (o : Obj) : EnB (W.alloc o) g a b c d := h.box ((Below.refl _ _).alloc (Nat.le_refl _) _)
theorem EnB.set {W : World} {g : Nat} {a b c d : Value} (h : EnB W g a b c d) (a' b' c' d' : Value) : EnB ((((W.setCell ⟨g, 0, none⟩ a').setCell ⟨g, 1, none⟩ b').setCell ⟨g, 2, none⟩ c').setCell ⟨g, 3, none⟩ d') g a' b' c' d' := by
  unfold EnB at *
  simp [World.setCell, Array.getElem?_modify, h]
theorem below_store4 {B : Nat} {w w' : World} {g : Nat} (h : Below B w w') (hg : B ≤ g) (a b c d : Value) : Below B w ((((w'.setCell ⟨g, 0, none⟩ a).setCell ⟨g, 1, none⟩ b).setCell ⟨g, 2, none⟩ c).setCell ⟨g, 3, none⟩ d) :=
  (((h.setCell hg _).setCell hg _).setCell hg _).setCell hg _
theorem en_info : (Tryz.prog.info? 59).map (·.size) = some 4 := by kernel_rfl
/-- an end in memory: an infinity by its sign, or a number -/
def EN (w : World) (A : Value) (i : Int) (t : Bool × Nat × Int) : Prop := ∃ s ao n cap e, A = .agg #[.int .i64 i, .bool s, .slice ao n cap, .int .i64 e] ∧ DN w (.agg #[.bool s, .slice ao n cap, .int .i64 e]) t
theorem EN.later {w w' : World} {A : Value} {i : Int} {t : Bool × Nat × Int} (h : EN w A i t) (hb : Below w.heap.size w w') : EN w' A i t := by
  obtain ⟨s, ao, n, cap, e, h1, h2⟩ := h
  exact ⟨s, ao, n, cap, e, h1, h2.later hb⟩
theorem at_store4 {W : World} {ao : Option Addr} {n z g : Nat} (h : At W ao n z) (hE : EnB W g (.int .i64 0) (.bool false) (.slice none 0 0) (.int .i64 0)) (a' b' c' d' : Value) : At ((((W.setCell ⟨g, 0, none⟩ a').setCell ⟨g, 1, none⟩ b').setCell ⟨g, 2, none⟩ c').setCell ⟨g, 3, none⟩ d') ao n z := by
  obtain ⟨bb, o, h1, h2⟩ := h
  refine ⟨bb, o, h1, fun i hi => ?_⟩
  have hc := h2 i hi
  have hne : bb ≠ g := by
    rintro rfl
    unfold EnB at hE
    simp only [World.cell?, hE] at hc
    rcases (show o + i = 0 ∨ o + i = 1 ∨ o + i = 2 ∨ o + i = 3 ∨ 4 ≤ o + i by omega) with e | e | e | e | e
    · rw [e] at hc; simp at hc
    · rw [e] at hc; simp at hc
    · rw [e] at hc; simp at hc
    · rw [e] at hc; simp at hc
    · rw [Array.getElem?_eq_none (by simpa using e)] at hc; cases hc
  rw [World.cell?_setCell_other _ _ _ _ (by first | (simp; done) | (simp; omega)), World.cell?_setCell_other _ _ _ _ (by first | (simp; done) | (simp; omega)), World.cell?_setCell_other _ _ _ _ (by first | (simp; done) | (simp; omega)), World.cell?_setCell_other _ _ _ _ (by first | (simp; done) | (simp; omega))]
  exact hc
theorem dn_store48 {W : World} {A : Value} {t : Bool × Nat × Int} {g : Nat} (h : DN W A t) (hE : EnB W g (.int .i64 0) (.bool false) (.slice none 0 0) (.int .i64 0)) (a' b' c' d' : Value) : DN ((((W.setCell ⟨g, 0, none⟩ a').setCell ⟨g, 1, none⟩ b').setCell ⟨g, 2, none⟩ c').setCell ⟨g, 3, none⟩ d') A t := by
  obtain ⟨ao, cap, h1, h2⟩ := h
  exact ⟨ao, cap, h1, h2.nil, at_store4 h2.at_ hE _ _ _ _, h2.le, h2.small⟩
theorem dn_nil (w : World) : DN w (.agg #[.bool false, .slice none 0 0, .int .i64 0]) (false, 0, 0) :=
  ⟨none, 0, by rw [dlen_zero], ⟨fun _ => .inr ⟨rfl, rfl⟩, ⟨0, 0, fun h => by rw [dlen_zero] at h; omega, fun i hi => by rw [dlen_zero] at hi; omega⟩, by rw [dlen_zero]; omega, by rw [dlen_zero]; omega⟩⟩
/-- which infinity an end is; its number -/
def eI (f : Nat) : Int := if f = 9218868437227405312 then 1 else if f = 18442240474082181120 then -1 else 0
def eT (f : Nat) : Bool × Nat × Int := if eI f = 0 then tF f else (false, 0, 0)
set_option maxHeartbeats 2000000 in
theorem dend_inf (f : Nat) (w : World) (h1 : (FloatKind.f64.format.order f 9218868437227405311 == some Ordering.gt) = true) :
    Calls Tryz.prog 51 #[.float .f64 f] w fun r w' => r = .returned (.agg #[.int .i64 1, .bool false, .slice none 0 0, .int .i64 0]) ∧ Below w.heap.size w w' := by
  go_enter Tryz.func51, Tryz.ntmps51
  go_wp2
  refine bodyPost_ret (results_cell_row rfl _ _ (w.heap.size) 59 #[.int .i64 1, .bool false, .slice none 0 0, .int .i64 0] (0, 0) _ rfl (heap_alloc_new _ _) Tryz.underlying59 rfl en_info) rfl ?_
  exact ⟨rfl, (Below.refl _ _).alloc (Nat.le_refl _) _⟩
set_option maxHeartbeats 2000000 in
theorem dend_ninf (f : Nat) (w : World) (h1 : (FloatKind.f64.format.order f 9218868437227405311 == some Ordering.gt) = false) (h2 : (FloatKind.f64.format.order f 18442240474082181119 == some Ordering.lt) = true) :
    Calls Tryz.prog 51 #[.float .f64 f] w fun r w' => r = .returned (.agg #[.int .i64 (-1), .bool false, .slice none 0 0, .int .i64 0]) ∧ Below w.heap.size w w' := by
  go_enter Tryz.func51, Tryz.ntmps51
  go_wp2
  refine bodyPost_ret (results_cell_row rfl _ _ (w.heap.size) 59 #[.int .i64 (-1), .bool false, .slice none 0 0, .int .i64 0] (0, 0) _ rfl (heap_alloc_new _ _) Tryz.underlying59 rfl en_info) rfl ?_
  exact ⟨rfl, (Below.refl _ _).alloc (Nat.le_refl _) _⟩
set_option maxHeartbeats 2000000 in
theorem dend_fin (f : Nat) (t : Bool × Nat × Int) (w : World) (h1 : (FloatKind.f64.format.order f 9218868437227405311 == some Ordering.gt) = false) (h2 : (FloatKind.f64.format.order f 18442240474082181119 == some Ordering.lt) = false) (k : ∀ W, Calls Tryz.prog 71 #[.float .f64 f] W fun r w' => ∃ A, r = .returned A ∧ DN w' A t ∧ Below W.heap.size W w') :
    Calls Tryz.prog 51 #[.float .f64 f] w fun r w' => ∃ A, r = .returned A ∧ EN w' A 0 t ∧ Below w.heap.size w w' := by
  obtain ⟨W, hW⟩ : ∃ W, W = w.alloc (.cells #[.int .i64 0, .bool false, .slice none 0 0, .int .i64 0] 59) := ⟨_, rfl⟩
  have HX : Hid (Below w.heap.size w W ∧ EnB W w.heap.size (.int .i64 0) (.bool false) (.slice none 0 0) (.int .i64 0)) := by
    rw [hW]; exact ⟨(Below.refl _ _).alloc (Nat.le_refl _) _, EnB.new _ _ _ _ _⟩
  have kk := k W
  clear k
  go_enter Tryz.func51, Tryz.ntmps51
  go_wp2_with fail
  rw [← hW]
  clear hW
  refine kk.mono ?_
  rintro r w1 ⟨A, rfl, hA, hb⟩
  obtain ⟨s, ao, n, cap, e, rfl⟩ := hA.shape
  have hE := HX.out.2.box hb
  obtain ⟨⟨a0, a1, a2, a3⟩, z0, z1, z2, z3⟩ := hE.facts
  have HF : Hid (DN w1 (.agg #[.bool s, .slice ao n cap, .int .i64 e]) t ∧ Below w.heap.size w w1 ∧ EnB w1 w.heap.size (.int .i64 0) (.bool false) (.slice none 0 0) (.int .i64 0)) := ⟨hA, HX.out.1.trans (hb.mono HX.out.1.size), hE⟩
  clear kk hA hb hE HX
  go_wp2_with fail
  refine bodyPost_ret (results_cell_row rfl _ _ (w.heap.size) 59 #[.int .i64 0, .bool s, .slice ao n cap, .int .i64 e] (0, 0) _ rfl (HF.out.2.2.set _ _ _ _) Tryz.underlying59 rfl en_info) rfl ?_
  exact ⟨_, rfl, ⟨s, ao, n, cap, e, rfl, dn_store48 HF.out.1 HF.out.2.2 _ _ _ _⟩, below_store4 HF.out.2.1 (Nat.le_refl _) _ _ _ _⟩
end Go.Proofs.YtnalhfcpcpondaaGreatDoor
/- The document's ends: rounded, signed, turned, added. -/
namespace Go.Proofs.YtnalhfcpcpondaaGreatDoor
set_option linter.unusedVariables false
set_option linter.unusedSimpArgs false
open Go.RowKit Go.Fl64
attribute [local go_sem] run_store_flt

/-- a number turned -/
def tNeg (t : Bool × Nat × Int) : Bool × Nat × Int := if t.2.1 = 0 then (false, 0, 0) else (!t.1, t.2.1, t.2.2)
/-- an end rounded -/
def toD (t : Bool × Nat × Int) (m : Int) : Nat := if t.2.1 = 0 then 0 else tfF t.1 true t.2.1 t.2.2 m
def enF (i : Int) (t : Bool × Nat × Int) (m : Int) : Nat := if i = 0 then pl (toD t m) else if 0 < i then 9218868437227405312 else 18442240474082181120
theorem toD_lt {t : Bool × Nat × Int} {m : Int} (hm : 1 ≤ m ∧ m ≤ 3) : toD t m < 18446744073709551616 := by
  unfold toD
  split
  · omega
  · exact tfF_lt hm
theorem dto8 {t : Bool × Nat × Int} {m : Int} (o : Ok t) (hm : 1 ≤ m ∧ m ≤ 3) {W : World} {A : Value} (h : DN W A t) : Calls Tryz.prog 73 #[A, .int .i64 m] W fun r w' => r = .returned (.float .f64 (toD t m)) ∧ Below W.heap.size W w' := by
  obtain ⟨f1, f2, f3, -, f5⟩ := o.facts
  obtain ⟨ao, cap, rfl, hA⟩ := h
  unfold toD
  by_cases h0 : t.2.1 = 0
  · rw [if_pos h0, dlen_eq_zero.2 h0]
    exact rto_0 _ _ _ _ _ _
  · rw [if_neg h0, tf_bdy hm]
    exact rto hA.at_ hA.le (f5 h0) (by omega) (by omega) (by omega) hm
theorem eT_ok (f : Nat) : Ok (eT f) := by
  unfold eT
  split
  · exact tF_ok f
  · unfold Ok; rw [dlen_zero]; rfl
theorem tNeg_ok {t : Bool × Nat × Int} (o : Ok t) : Ok (tNeg t) := by
  unfold tNeg
  by_cases h0 : t.2.1 = 0
  · rw [if_pos h0]; unfold Ok; rw [dlen_zero]; rfl
  · rw [if_neg h0]
    have hd : dlen t.2.1 ≠ 0 := fun e => h0 (dlen_eq_zero.1 e)
    unfold Ok okN at o ⊢
    rw [if_neg hd] at o
    rw [if_neg hd]
    exact o
theorem dend (f : Nat) (hf : f < 18446744073709551616) (hn : isNaN f = false) (w : World) : Calls Tryz.prog 51 #[.float .f64 f] w fun r w' => ∃ A, r = .returned A ∧ EN w' A (eI f) (eT f) ∧ Below w.heap.size w w' := by
  have o1 := ord_gt f 9218868437227405311 hf (by omega)
  have o2 := ord_lt f 18442240474082181119 hf (by omega)
  have b := nan_stp hn
  unfold lt at o1 o2
  rw [hn, show isNaN 9218868437227405311 = false by decide, show isNaN 18442240474082181119 = false by decide, show stp 9218868437227405311 = 9218868437227405311 by decide, show stp 18442240474082181119 = -9218868437227405311 by decide] at *
  simp only [Bool.not_false, Bool.true_and] at o1 o2
  by_cases h1 : f = 9218868437227405312
  · have e : eI f = 1 := by unfold eI; rw [if_pos h1]
    have e2 : eT f = (false, 0, 0) := by unfold eT; rw [e]; rfl
    rw [e, e2]
    rw [decide_eq_true (by rw [h1]; decide)] at o1
    refine (dend_inf f w o1).mono ?_
    rintro r w' ⟨rfl, hb⟩
    exact ⟨_, rfl, ⟨_, _, _, _, _, rfl, dn_nil _⟩, hb⟩
  · have s1 : ¬ 9218868437227405311 < stp f := by
      intro h
      exact h1 (stp_eq hf (by omega) (by rw [show stp 9218868437227405312 = 9218868437227405312 by decide]; omega) (by omega))
    rw [decide_eq_false s1] at o1
    by_cases h2 : f = 18442240474082181120
    · have e : eI f = -1 := by unfold eI; rw [if_neg h1, if_pos h2]
      have e2 : eT f = (false, 0, 0) := by unfold eT; rw [e]; rfl
      rw [e, e2]
      rw [decide_eq_true (by rw [h2]; decide)] at o2
      refine (dend_ninf f w o1 o2).mono ?_
      rintro r w' ⟨rfl, hb⟩
      exact ⟨_, rfl, ⟨_, _, _, _, _, rfl, dn_nil _⟩, hb⟩
    · have s2 : ¬ stp f < -9218868437227405311 := by
        intro h
        exact h2 (stp_eq hf (by omega) (by rw [show stp 18442240474082181120 = -9218868437227405312 by decide]; omega) (by omega))
      rw [decide_eq_false s2] at o2
      have e : eI f = 0 := by unfold eI; rw [if_neg h1, if_neg h2]
      have e2 : eT f = tF f := by unfold eT; rw [e]; rfl
      rw [e, e2]
      exact dend_fin f _ w o1 o2 (fun W => float_dn f hf W)
end Go.Proofs.YtnalhfcpcpondaaGreatDoor
/- The document's ends added; the tightest interval; Neg, Add, Sub. -/
namespace Go.Proofs.YtnalhfcpcpondaaGreatDoor
set_option linter.unusedVariables false
set_option linter.unusedSimpArgs false
open Go.RowKit Go.Fl64
attribute [local go_sem] run_store_flt

/-- two ends added -/
def plT (i j : Int) (t u : Bool × Nat × Int) : Bool × Nat × Int := if i + j = 0 then tS t u else (false, 0, 0)
end Go.Proofs.YtnalhfcpcpondaaGreatDoor
/- Several values made at once and put into boxes, which hold their zero value till then. -/
namespace Go.Proofs.YtnalhfcpcpondaaGreatDoor
set_option linter.unusedVariables false
set_option linter.unusedSimpArgs false
open Go.RowKit

/-- What holds while such a region runs: the operations ahead of m make values (number j in slot 'slot j', of which V j holds), the next n lay boxes of type T, the last n store number 'vs k' into box k. -/
structure ParZ (W0 : World) (a0 : Act) (m n : Nat) (slot bx : Nat → Tmp) (vs : Nat → Nat) (T : TypeId) (zs : Array Value) (V : Nat → World → Value → Prop) (listed : Array Bool) (a : Act) (w : World) : Prop where
  below : Below W0.heap.size W0 w
  size : a.tmps.size = a0.tmps.size
  defers : a.defers = a0.defers
  other : ∀ s, (∀ j, j < m → s ≠ slot j) → (∀ k, k < n → s ≠ bx k) → a.tmps[s]? = a0.tmps[s]?
  val : ∀ j, j < m → listed.getD j false = true → ∃ u, a.tmps[slot j]? = some u ∧ V j w u
  box : ∀ k, k < n → listed.getD (m + k) false = true → ∃ g cs, a.tmps[bx k]? = some (.pointer (some ⟨g, 0, none⟩)) ∧ W0.heap.size ≤ g ∧ w.heap[g]? = some (.cells cs T (0, 0)) ∧ cs.size = zs.size ∧
    (listed.getD (m + n + k) false = true → a.tmps[slot (vs k)]? = some (.agg cs)) ∧ (listed.getD (m + n + k) false = false → cs = zs)
  apart : ∀ k k', k < n → k' < n → k ≠ k' → listed.getD (m + k) false = true → listed.getD (m + k') false = true → a.tmps[bx k]? ≠ a.tmps[bx k']?
  stored : ∀ k, k < n → listed.getD (m + n + k) false = true → listed.getD (m + k) false = true ∧ listed.getD (vs k) false = true

theorem parz_region {P : Program} {ops : Array Oper} {Q : Exit → Act → World → Prop} {id : Nat} (hm : P.follows .mixedOrders = true) (m n : Nat) (slot bx : Nat → Tmp) (vs : Nat → Nat) (dep : Nat → List Nat) (T : TypeId) (zs : Array Value)
    (W0 : World) (a0 : Act) (V : Nat → World → Value → Prop) (hsz : ops.size = m + n + n)
    (hord : ∀ (i : Nat) (o : Oper), ops[i]? = some o → ∀ e ∈ o.after, e.on < i)
    (hV1 : ∀ j w w' u, Below w.heap.size w w' → V j w u → V j w' u)
    (hV2 : ∀ j w u g cs', w.heap[g]? = some (.cells zs T (0, 0)) → V j w u → V j (w.setRow g cs') u)
    (hVs : ∀ k, k < n → ∀ w u, V (vs k) w u → ∃ cs : Array Value, u = .agg cs ∧ cs.size = zs.size ∧ cs.all (·.oneCell') = true)
    (hdep : ∀ j, j < m → ∀ j' ∈ dep j, j' < m ∧ ∀ o, ops[j]? = some o → ∃ e ∈ o.after, e.on = j' ∧ Region.binds .any e = true)
    (hA : ∀ j, j < m → ∀ (a : Act) (w : World), Below W0.heap.size W0 w → (∀ s, (∀ j, j < m → s ≠ slot j) → (∀ k, k < n → s ≠ bx k) → a.tmps[s]? = a0.tmps[s]?) →
      (∀ j' ∈ dep j, ∃ u, a.tmps[slot j']? = some u ∧ V j' w u) → wpOp P ops Q j (fun a' w' => ∃ u, a' = a.put (some (slot j)) u ∧ V j w' u ∧ Below w.heap.size w w') a w)
    (hal : ∀ k, k < n → ∃ o, ops[m + k]? = some o ∧ o.guard = none ∧ o.op = .alloc T ∧ o.dst = some (bx k))
    (hz : ∀ w, (zeroValue T).run P w = .ok (.agg zs) w) (hi : (P.info? T).map (·.size) = some zs.size)
    (hst : ∀ k, k < n → vs k < m ∧ ∃ o, ops[m + n + k]? = some o ∧ o.guard = none ∧ o.op = .store T (.tmp (bx k)) (.tmp (slot (vs k))) ∧ o.dst = none ∧ (∃ e ∈ o.after, e.on = m + k ∧ Region.binds .any e = true) ∧ (∃ e ∈ o.after, e.on = vs k ∧ Region.binds .any e = true))
    (hin : ∀ j, j < m → slot j < a0.tmps.size) (hbin : ∀ k, k < n → bx k < a0.tmps.size)
    (hinj : ∀ j j', j < m → j' < m → slot j = slot j' → j = j') (hbinj : ∀ k k', k < n → k' < n → bx k = bx k' → k = k') (hsb : ∀ j k, j < m → k < n → slot j ≠ bx k)
    (hQ : ∀ (u : Nat → Value) (g : Nat → Nat) (a : Act) (w : World), Below W0.heap.size W0 w → (∀ j, j < m → a.tmps[slot j]? = some (u j) ∧ V j w (u j)) →
      (∀ k, k < n → a.tmps[bx k]? = some (.pointer (some ⟨g k, 0, none⟩)) ∧ W0.heap.size ≤ g k ∧ ∃ cs, u (vs k) = .agg cs ∧ w.heap[g k]? = some (.cells cs T (0, 0))) →
      a.tmps.size = a0.tmps.size → a.defers = a0.defers → (∀ s, (∀ j, j < m → s ≠ slot j) → (∀ k, k < n → s ≠ bx k) → a.tmps[s]? = a0.tmps[s]?) → Q .normal a w) :
    (Code.region id ops true).wp P Q a0 W0 := by
  refine wp_region_any hm ?_
  refine wpAny_inv (ParZ W0 a0 m n slot bx vs T zs V) ?_ ?_ ops.size _ a0 _ (by simp) ?_ (by simp)
  · -- a step
    intro listed a w i hl hI hr
    obtain ⟨hun, o, ho, hall⟩ := mem_ready.1 hr
    have hunf := not_listed hun
    have hio : i < ops.size := (Array.getElem?_eq_some_iff.1 ho).1
    have hil : i < listed.size := by omega
    have hset := listed_set hil
    have hne : ∀ x, x ≠ i → (listed.setIfInBounds i true).getD x false = listed.getD x false := fun x hx => getD_set_ne false (Ne.symm hx)
    have hpart : i < m ∨ (∃ k, k < n ∧ i = m + k) ∨ ∃ k, k < n ∧ i = m + n + k := by
      by_cases h1 : i < m
      · exact .inl h1
      · by_cases h2 : i < m + n
        · exact .inr (.inl ⟨i - m, by omega, by omega⟩)
        · exact .inr (.inr ⟨i - m - n, by omega, by omega⟩)
    rcases hpart with him | ⟨k, hk, rfl⟩ | ⟨k, hk, rfl⟩
    · refine wpOp_mono ?_ (hA i him a w hI.below hI.other fun j' hj' => ?_)
      · rintro a' w' ⟨u, rfl, hu, hb⟩
        have hlt : slot i < a.tmps.size := by rw [hI.size]; exact hin i him
        refine ⟨hI.below.trans (hb.mono hI.below.size), by rw [put_size]; exact hI.size, by rw [put_defers]; exact hI.defers, fun s h1 h2 => ?_, fun j hj h1 => ?_, fun k hk h1 => ?_, fun k k' hk hk' hkk h1 h2 => ?_, fun k hk h1 => ?_⟩
        · rw [put_get_ne (h1 i him)]; exact hI.other s h1 h2
        · by_cases e : j = i
          · subst e; exact ⟨u, put_get hlt, hu⟩
          · rw [hne j e] at h1
            obtain ⟨u', g1, g2⟩ := hI.val j hj h1
            exact ⟨u', by rw [put_get_ne (fun e2 => e (hinj j i hj him e2))]; exact g1, hV1 _ _ _ _ hb g2⟩
        · rw [hne _ (by omega)] at h1
          obtain ⟨g, cs, g1, g2, g3, g4, g5, g6⟩ := hI.box k hk h1
          refine ⟨g, cs, by rw [put_get_ne (Ne.symm (hsb i k him hk))]; exact g1, g2, (hb.block g (Array.getElem?_eq_some_iff.1 g3).1).trans g3, g4, fun h2 => ?_, fun h2 => g6 (by rw [← hne (m + n + k) (by omega)]; exact h2)⟩
          rw [hne _ (by omega)] at h2
          have h3 := (hI.stored k hk h2).2
          have h4 : vs k ≠ i := fun e => by rw [e, hunf] at h3; cases h3
          rw [put_get_ne (fun e2 => h4 (hinj _ _ (hst k hk).1 him e2))]
          exact g5 h2
        · rw [hne _ (by omega)] at h1 h2
          rw [put_get_ne (Ne.symm (hsb i k him hk)), put_get_ne (Ne.symm (hsb i k' him hk'))]
          exact hI.apart k k' hk hk' hkk h1 h2
        · rw [hne _ (by omega)] at h1
          obtain ⟨h2, h3⟩ := hI.stored k hk h1
          exact ⟨by rw [hne _ (by omega)]; exact h2, getD_set_true h3⟩
      · obtain ⟨h1, h2⟩ := hdep i him j' hj'
        obtain ⟨e, he, rfl, hbd⟩ := h2 o ho
        exact hI.val _ h1 (hall e he hbd)
    · obtain ⟨o', ho', hg, hop, hd⟩ := hal k hk
      refine step_alloc ho' hg hop hz ?_
      rw [hd]
      have hlt : bx k < a.tmps.size := by rw [hI.size]; exact hbin k hk
      have hbw : Below w.heap.size w (w.alloc (.cells zs T)) := (Below.refl _ _).alloc (Nat.le_refl _) _
      refine ⟨hI.below.trans (hbw.mono hI.below.size), by rw [put_size]; exact hI.size, by rw [put_defers]; exact hI.defers, fun s h1 h2 => ?_, fun j hj h1 => ?_, fun k1 hk1 h1 => ?_, fun k1 k2 hk1 hk2 hkk h1 h2 => ?_, fun k1 hk1 h1 => ?_⟩
      · rw [put_get_ne (h2 k hk)]; exact hI.other s h1 h2
      · rw [hne j (by omega)] at h1
        obtain ⟨u', g1, g2⟩ := hI.val j hj h1
        exact ⟨u', by rw [put_get_ne (hsb j k hj hk)]; exact g1, hV1 _ _ _ _ hbw g2⟩
      · by_cases e : k1 = k
        · subst e
          refine ⟨w.heap.size, zs, put_get hlt, hI.below.size, heap_alloc_new _ _, rfl, fun h2 => ?_, fun _ => rfl⟩
          rw [hne _ (by omega)] at h2
          have := (hI.stored k1 hk h2).1
          rw [hunf] at this
          cases this
        · rw [hne _ (by omega)] at h1
          obtain ⟨g, cs, g1, g2, g3, g4, g5, g6⟩ := hI.box k1 hk1 h1
          refine ⟨g, cs, by rw [put_get_ne (fun e2 => e (hbinj _ _ hk1 hk e2))]; exact g1, g2, (hbw.block g (Array.getElem?_eq_some_iff.1 g3).1).trans g3, g4, fun h2 => ?_, fun h2 => g6 (by rw [← hne (m + n + k1) (by omega)]; exact h2)⟩
          rw [hne _ (by omega)] at h2
          rw [put_get_ne (hsb _ k (hst k1 hk1).1 hk)]
          exact g5 h2
      · have old : ∀ k1, k1 < n → k1 ≠ k → listed.getD (m + k1) false = true → a.tmps[bx k1]? ≠ some (.pointer (some ⟨w.heap.size, 0, none⟩)) := fun k1 hk1 e h1 h2 => by
          obtain ⟨g, cs, g1, g2, g3, g4, g5, g6⟩ := hI.box k1 hk1 h1
          have hlt := (Array.getElem?_eq_some_iff.1 g3).1
          rw [g1] at h2
          simp only [Option.some.injEq, Value.pointer.injEq, Addr.mk.injEq] at h2
          omega
        by_cases e1 : k1 = k
        · subst e1
          rw [hne _ (by omega)] at h2
          rw [put_get hlt, put_get_ne (fun e2 => hkk (hbinj _ _ hk hk2 e2.symm))]
          exact Ne.symm (old k2 hk2 (Ne.symm hkk) h2)
        · rw [hne _ (by omega)] at h1
          by_cases e2 : k2 = k
          · subst e2
            rw [put_get hlt, put_get_ne (fun e2 => e1 (hbinj _ _ hk1 hk e2))]
            exact old k1 hk1 e1 h1
          · rw [hne _ (by omega)] at h2
            rw [put_get_ne (fun e3 => e1 (hbinj _ _ hk1 hk e3)), put_get_ne (fun e3 => e2 (hbinj _ _ hk2 hk e3))]
            exact hI.apart k1 k2 hk1 hk2 hkk h1 h2
      · rw [hne _ (by omega)] at h1
        obtain ⟨h2, h3⟩ := hI.stored k1 hk1 h1
        exact ⟨getD_set_true h2, getD_set_true h3⟩
    · obtain ⟨hvm, o', ho', hg, hop, hd, ⟨e1, he1, hon1, hb1⟩, e2, he2, hon2, hb2⟩ := hst k hk
      obtain rfl : o' = o := Option.some.inj (ho'.symm.trans ho)
      have l1 := hall e1 he1 hb1
      have l2 := hall e2 he2 hb2
      rw [hon1] at l1
      rw [hon2] at l2
      obtain ⟨u, hu1, hu2⟩ := hI.val _ hvm l2
      obtain ⟨cs, rfl, hc1, hc2⟩ := hVs k hk w u hu2
      obtain ⟨g, old, g1, g2, g3, g4, g5, g6⟩ := hI.box k hk l1
      rw [g6 hunf] at g3 g4
      refine step_store ho' hg hop g1 hu1 g3 (by rw [hc1]; exact hi) (by omega) hc2 ?_
      rw [hd]
      show ParZ W0 a0 m n slot bx vs T zs V _ a _
      refine ⟨below_row hI.below g2 _, hI.size, hI.defers, hI.other, fun j hj h1 => ?_, fun k1 hk1 h1 => ?_, fun k1 k2 hk1 hk2 hkk h1 h2 => ?_, fun k1 hk1 h1 => ?_⟩
      · rw [hne j (by omega)] at h1
        obtain ⟨u', q1, q2⟩ := hI.val j hj h1
        exact ⟨u', q1, hV2 _ _ _ _ _ g3 q2⟩
      · rw [hne _ (by omega)] at h1
        by_cases e : k1 = k
        · subst e
          exact ⟨g, cs, g1, g2, setRow_heap w g _ cs T _ g3, hc1, fun _ => hu1, fun h2 => by rw [hset] at h2; cases h2⟩
        · obtain ⟨g', cs', q1, q2, q3, q4, q5, q6⟩ := hI.box k1 hk1 h1
          have hgg : g' ≠ g := fun e2 => by
            subst e2
            exact hI.apart k1 k hk1 hk e h1 l1 (q1.trans g1.symm)
          refine ⟨g', cs', q1, q2, (setRow_other w g g' cs hgg).trans q3, q4, fun h2 => ?_, fun h2 => q6 (by rw [← hne (m + n + k1) (by omega)]; exact h2)⟩
          rw [hne _ (by omega)] at h2
          exact q5 h2
      · rw [hne _ (by omega)] at h1 h2
        exact hI.apart k1 k2 hk1 hk2 hkk h1 h2
      · by_cases e : k1 = k
        · subst e
          exact ⟨getD_set_true l1, getD_set_true l2⟩
        · rw [hne _ (by omega)] at h1
          obtain ⟨h2, h3⟩ := hI.stored k1 hk1 h1
          exact ⟨getD_set_true h2, getD_set_true h3⟩
  · -- the end: all have come up
    intro listed a w hl hI hr
    have hfull : ∀ i, i < ops.size → listed.getD i false = true := by
      intro i
      induction i using Nat.strongRecOn with
      | _ i ih =>
        intro hi
        cases hx : listed.getD i false with
        | true => rfl
        | false =>
          exfalso
          have ho : ops[i]? = some ops[i] := Array.getElem?_eq_getElem hi
          have : i ∈ Region.ready .any ops listed := by
            refine mem_ready.2 ⟨?_, ops[i], ho, fun e he _ => ih e.on (hord i _ ho e he) (Nat.lt_trans (hord i _ ho e he) hi)⟩
            have hil : i < listed.size := by omega
            simp only [Array.getD_eq_getD_getElem?, Array.getElem?_eq_getElem hil, Option.getD_some] at hx ⊢
            exact hx
          rw [hr] at this
          cases this
    have hval : ∀ j, ∃ u, j < m → a.tmps[slot j]? = some u ∧ V j w u := fun j => by
      by_cases hj : j < m
      · obtain ⟨u, h1, h2⟩ := hI.val j hj (hfull j (by omega))
        exact ⟨u, fun _ => ⟨h1, h2⟩⟩
      · exact ⟨undef, fun h => absurd h hj⟩
    obtain ⟨u, hu⟩ := Classical.axiomOfChoice hval
    have hbox : ∀ k, ∃ g, k < n → a.tmps[bx k]? = some (.pointer (some ⟨g, 0, none⟩)) ∧ W0.heap.size ≤ g ∧ ∃ cs, u (vs k) = .agg cs ∧ w.heap[g]? = some (.cells cs T (0, 0)) := fun k => by
      by_cases hk : k < n
      · obtain ⟨g, cs, h1, h2, h3, h4, h5, -⟩ := hI.box k hk (hfull _ (by omega))
        refine ⟨g, fun _ => ⟨h1, h2, cs, ?_, h3⟩⟩
        have h6 := h5 (hfull _ (by omega))
        rw [(hu _ (hst k hk).1).1] at h6
        exact Option.some.inj h6
      · exact ⟨0, fun h => absurd h hk⟩
    obtain ⟨g, hg⟩ := Classical.axiomOfChoice hbox
    exact hQ u g a w hI.below hu hg hI.size hI.defers hI.other
  · -- the start
    have h0 : ∀ x, (Array.replicate ops.size false).getD x false = true → False := fun x h => by
      simp [Array.getD_eq_getD_getElem?, Array.getElem?_replicate] at h
      split at h <;> simp at h
    exact ⟨(Below.refl _ _).drew, rfl, rfl, fun _ _ _ => rfl, fun j _ h => (h0 _ h).elim, fun k _ h => (h0 _ h).elim, fun k k' _ _ _ h => (h0 _ h).elim, fun k _ h => (h0 _ h).elim⟩
end Go.Proofs.YtnalhfcpcpondaaGreatDoor
/- The ends of several floats at once: x, y := end(a.Lo), end(a.Hi). -/
namespace Go.Proofs.YtnalhfcpcpondaaGreatDoor
set_option linter.unusedVariables false
set_option linter.unusedSimpArgs false
open Go.RowKit Go.Fl64

theorem run_fieldI0 (g : Nat) (w : World) : (Instr.fieldAt 24 (.pointer (some ⟨g, 0, none⟩)) 0).run Tryz.prog w = .ok (.pointer (some ⟨g, 0, none⟩)) w := by kernel_rfl
theorem run_fieldI1 (g : Nat) (w : World) : (Instr.fieldAt 24 (.pointer (some ⟨g, 0, none⟩)) 1).run Tryz.prog w = .ok (.pointer (some ⟨g, 1, none⟩)) w := by kernel_rfl
theorem run_loadF (g f x : Nat) (w : World) (h : w.cell? ⟨g, f, none⟩ = some (.float .f64 x)) : (Instr.loadAt 22 (.pointer (some ⟨g, f, none⟩))).run Tryz.prog w = .ok (.float .f64 x) w := by
  have u := Tryz.isAgg22
  simp [Instr.loadAt, Instr.sureAddr, loadVar, h, go_sem]
theorem step_fieldI {ops : Array Oper} {Q : Exit → Act → World → Prop} {i : Nat} {o : Oper} {K : Act → World → Prop} {a : Act} {w : World}
    (hi : ops[i]? = some o) (hg : o.guard = none) {s : Tmp} {f : Nat} (hop : o.op = .fieldAddr 24 (.tmp s) f) {g : Nat} (hf : f = 0 ∨ f = 1)
    (hs : a.tmps[s]? = some (.pointer (some ⟨g, 0, none⟩))) (h : K (a.put o.dst (.pointer (some ⟨g, f, none⟩))) w) : wpOp Tryz.prog ops Q i K a w := by
  refine step_wanted hi hg ?_
  unfold Oper.wp
  rcases hf with rfl | rfl
  · simp [execOp, hop, eval_get hs, run_fieldI0, Result.andThen, Oper.upon, h]
  · simp [execOp, hop, eval_get hs, run_fieldI1, Result.andThen, Oper.upon, h]
theorem step_loadF {ops : Array Oper} {Q : Exit → Act → World → Prop} {i : Nat} {o : Oper} {K : Act → World → Prop} {a : Act} {w : World}
    (hi : ops[i]? = some o) (hg : o.guard = none) {s : Tmp} (hop : o.op = .load 22 (.tmp s)) {g f x : Nat}
    (hs : a.tmps[s]? = some (.pointer (some ⟨g, f, none⟩))) (hc : w.cell? ⟨g, f, none⟩ = some (.float .f64 x)) (h : K (a.put o.dst (.float .f64 x)) w) : wpOp Tryz.prog ops Q i K a w := by
  refine step_wanted hi hg ?_
  unfold Oper.wp
  simp [execOp, hop, eval_get hs, run_loadF g f x w hc, Result.andThen, Oper.upon, h]
theorem zero_end (w : World) : (zeroValue 59).run Tryz.prog w = .ok (.agg #[.int .i64 0, .bool false, .slice none 0 0, .int .i64 0]) w := Tryz.zeroValue59 w

def eslot (fa ld cl : Nat → Tmp) (j : Nat) : Tmp := if j % 3 = 0 then fa (j / 3) else if j % 3 = 1 then ld (j / 3) else cl (j / 3)
def evalE (gs fld f : Nat → Nat) (j : Nat) (w : World) (u : Value) : Prop :=
  if j % 3 = 0 then u = .pointer (some ⟨gs (j / 3), fld (j / 3), none⟩) else if j % 3 = 1 then u = .float .f64 (f (j / 3)) else EN w u (eI (f (j / 3))) (eT (f (j / 3)))
theorem at_row {W : World} {ao : Option Addr} {n z g : Nat} (h : At W ao n z) (hE : EnB W g (.int .i64 0) (.bool false) (.slice none 0 0) (.int .i64 0)) (cs : Array Value) : At (W.setRow g cs) ao n z := by
  obtain ⟨bb, o, h1, h2⟩ := h
  refine ⟨bb, o, h1, fun i hi => ?_⟩
  have hc := h2 i hi
  have hne : bb ≠ g := by
    rintro rfl
    unfold EnB at hE
    simp only [World.cell?, hE] at hc
    rcases (show o + i = 0 ∨ o + i = 1 ∨ o + i = 2 ∨ o + i = 3 ∨ 4 ≤ o + i by omega) with e | e | e | e | e
    · rw [e] at hc; simp at hc
    · rw [e] at hc; simp at hc
    · rw [e] at hc; simp at hc
    · rw [e] at hc; simp at hc
    · rw [Array.getElem?_eq_none (by simpa using e)] at hc; cases hc
  have hs := setRow_other W g bb cs hne
  unfold World.cell? at hc ⊢
  rw [hs]
  exact hc
theorem EN.row {W : World} {A : Value} {i : Int} {t : Bool × Nat × Int} {g : Nat} (h : EN W A i t) (hE : EnB W g (.int .i64 0) (.bool false) (.slice none 0 0) (.int .i64 0)) (cs : Array Value) : EN (W.setRow g cs) A i t := by
  obtain ⟨s, ao, n, cap, e, h1, ao', cap', h2, h3⟩ := h
  exact ⟨s, ao, n, cap, e, h1, ao', cap', h2, h3.nil, at_row h3.at_ hE cs, h3.le, h3.small⟩
theorem one4 (i e : Int) (s : Bool) (ao : Option Addr) (n cap : Nat) : (#[.int .i64 i, .bool s, .slice ao n cap, .int .i64 e] : Array Value).all (·.oneCell') = true := by
  have h1 : (Value.int .i64 i).oneCell' = true := rfl
  have h2 : (Value.bool s).oneCell' = true := rfl
  have h3 : (Value.slice ao n cap).oneCell' = true := rfl
  have h4 : (Value.int .i64 e).oneCell' = true := rfl
  simp only [List.all_toArray, List.all_cons, List.all_nil, h1, h2, h3, h4, Bool.and_self]

theorem ends_region {ops : Array Oper} {Q : Exit → Act → World → Prop} {id : Nat} (n : Nat) (src fa ld cl bx : Nat → Tmp) (gs fld f : Nat → Nat) (W0 : World) (a0 : Act)
    (hsz : ops.size = 3 * n + n + n) (hord : ∀ (i : Nat) (o : Oper), ops[i]? = some o → ∀ e ∈ o.after, e.on < i)
    (hsrc : ∀ k, k < n → a0.tmps[src k]? = some (.pointer (some ⟨gs k, 0, none⟩)) ∧ (fld k = 0 ∨ fld k = 1) ∧ (∀ w, Below W0.heap.size W0 w → w.cell? ⟨gs k, fld k, none⟩ = some (.float .f64 (f k))) ∧ f k < 18446744073709551616 ∧ isNaN (f k) = false)
    (hfree : ∀ k, k < n → (∀ j, j < 3 * n → src k ≠ eslot fa ld cl j) ∧ ∀ j, j < n → src k ≠ bx j)
    (hfa : ∀ k, k < n → ∃ o, ops[3 * k]? = some o ∧ o.guard = none ∧ o.op = .fieldAddr 24 (.tmp (src k)) (fld k) ∧ o.dst = some (fa k))
    (hld : ∀ k, k < n → ∃ o, ops[3 * k + 1]? = some o ∧ o.guard = none ∧ o.op = .load 22 (.tmp (fa k)) ∧ o.dst = some (ld k) ∧ ∃ e ∈ o.after, e.on = 3 * k ∧ Region.binds .any e = true)
    (hcl : ∀ k, k < n → ∃ o, ops[3 * k + 2]? = some o ∧ o.guard = none ∧ (∃ ts, o.op = .call { callee := .value (.func 51), args := #[.tmp (ld k)], argTypes := ts }) ∧ o.dst = some (cl k) ∧ ∃ e ∈ o.after, e.on = 3 * k + 1 ∧ Region.binds .any e = true)
    (hal : ∀ k, k < n → ∃ o, ops[3 * n + k]? = some o ∧ o.guard = none ∧ o.op = .alloc 59 ∧ o.dst = some (bx k))
    (hst : ∀ k, k < n → ∃ o, ops[3 * n + n + k]? = some o ∧ o.guard = none ∧ o.op = .store 59 (.tmp (bx k)) (.tmp (cl k)) ∧ o.dst = none ∧ (∃ e ∈ o.after, e.on = 3 * n + k ∧ Region.binds .any e = true) ∧ (∃ e ∈ o.after, e.on = 3 * k + 2 ∧ Region.binds .any e = true))
    (hin : ∀ j, j < 3 * n → eslot fa ld cl j < a0.tmps.size) (hbin : ∀ k, k < n → bx k < a0.tmps.size)
    (hinj : ∀ j, j < 3 * n → ∀ j', j' < 3 * n → eslot fa ld cl j = eslot fa ld cl j' → j = j') (hbinj : ∀ k, k < n → ∀ k', k' < n → bx k = bx k' → k = k') (hsb : ∀ j, j < 3 * n → ∀ k, k < n → eslot fa ld cl j ≠ bx k)
    (hQ : ∀ (u : Nat → Value) (g : Nat → Nat) (w : World), Below W0.heap.size W0 w → (∀ k, k < n → EN w (u (3 * k + 2)) (eI (f k)) (eT (f k)) ∧ W0.heap.size ≤ g k ∧ ∃ cs, u (3 * k + 2) = .agg cs ∧ w.heap[g k]? = some (.cells cs 59 (0, 0))) →
      Q .normal (putL a0 ((List.range (3 * n)).map (fun j => (eslot fa ld cl j, u j)) ++ (List.range n).map (fun k => (bx k, .pointer (some ⟨g k, 0, none⟩))))) w) :
    (Code.region id ops true).wp Tryz.prog Q a0 W0 := by
  have sl0 : ∀ k, eslot fa ld cl (3 * k) = fa k := fun k => by unfold eslot; rw [if_pos (by omega), show 3 * k / 3 = k by omega]
  have sl1 : ∀ k, eslot fa ld cl (3 * k + 1) = ld k := fun k => by unfold eslot; rw [if_neg (by omega), if_pos (by omega), show (3 * k + 1) / 3 = k by omega]
  have sl2 : ∀ k, eslot fa ld cl (3 * k + 2) = cl k := fun k => by unfold eslot; rw [if_neg (by omega), if_neg (by omega), show (3 * k + 2) / 3 = k by omega]
  have va0 : ∀ k w u, evalE gs fld f (3 * k) w u = (u = .pointer (some ⟨gs k, fld k, none⟩)) := fun k w u => by unfold evalE; rw [if_pos (by omega), show 3 * k / 3 = k by omega]
  have va1 : ∀ k w u, evalE gs fld f (3 * k + 1) w u = (u = .float .f64 (f k)) := fun k w u => by unfold evalE; rw [if_neg (by omega), if_pos (by omega), show (3 * k + 1) / 3 = k by omega]
  have va2 : ∀ k w u, evalE gs fld f (3 * k + 2) w u = EN w u (eI (f k)) (eT (f k)) := fun k w u => by unfold evalE; rw [if_neg (by omega), if_neg (by omega), show (3 * k + 2) / 3 = k by omega]
  have hthree : ∀ j, ∃ k, j = 3 * k ∨ j = 3 * k + 1 ∨ j = 3 * k + 2 := fun j => ⟨j / 3, by omega⟩
  refine parz_region follows_mixed (3 * n) n (eslot fa ld cl) bx (fun k => 3 * k + 2) (fun j => if j % 3 = 0 then [] else [j - 1]) 59 #[.int .i64 0, .bool false, .slice none 0 0, .int .i64 0] W0 a0 (evalE gs fld f) hsz hord ?_ ?_ ?_ ?_ ?_ hal zero_end en_info ?_ hin hbin (fun j j' hj hj' h => hinj j hj j' hj' h) (fun k k' hk hk' h => hbinj k hk k' hk' h) (fun j k hj hk => hsb j hj k hk) ?_
  · intro j w w' u hb h
    obtain ⟨k, rfl | rfl | rfl⟩ := hthree j
    · rw [va0] at h ⊢; exact h
    · rw [va1] at h ⊢; exact h
    · rw [va2] at h ⊢; exact h.later hb
  · intro j w u g cs' hg h
    obtain ⟨k, rfl | rfl | rfl⟩ := hthree j
    · rw [va0] at h ⊢; exact h
    · rw [va1] at h ⊢; exact h
    · rw [va2] at h ⊢; exact h.row hg cs'
  · intro k hk w u h
    rw [va2] at h
    obtain ⟨s, ao, nn, cap, e, rfl, -⟩ := h
    exact ⟨_, rfl, rfl, one4 _ _ _ _ _ _⟩
  · intro j hj j' hj'
    obtain ⟨k, rfl | rfl | rfl⟩ := hthree j
    · rw [if_pos (by omega)] at hj'; cases hj'
    · rw [if_neg (by omega)] at hj'
      obtain rfl : j' = 3 * k + 1 - 1 := by simpa using hj'
      refine ⟨by omega, fun o ho => ?_⟩
      obtain ⟨o', ho', -, -, -, e, he, h1, h2⟩ := hld k (by omega)
      obtain rfl : o' = o := Option.some.inj (ho'.symm.trans ho)
      exact ⟨e, he, by omega, h2⟩
    · rw [if_neg (by omega)] at hj'
      obtain rfl : j' = 3 * k + 2 - 1 := by simpa using hj'
      refine ⟨by omega, fun o ho => ?_⟩
      obtain ⟨o', ho', -, -, -, e, he, h1, h2⟩ := hcl k (by omega)
      obtain rfl : o' = o := Option.some.inj (ho'.symm.trans ho)
      exact ⟨e, he, by omega, h2⟩
  · intro j hj a w hb hoth hdep
    obtain ⟨k, rfl | rfl | rfl⟩ := hthree j
    · obtain ⟨o, ho, hg, hop, hd⟩ := hfa k (by omega)
      obtain ⟨s1, s2, -⟩ := hsrc k (by omega)
      obtain ⟨f1, f2⟩ := hfree k (by omega)
      refine step_fieldI ho hg hop s2 (by rw [hoth _ f1 f2]; exact s1) ?_
      exact ⟨_, by rw [hd, sl0], by rw [va0], Below.refl _ _⟩
    · obtain ⟨o, ho, hg, hop, hd, -⟩ := hld k (by omega)
      obtain ⟨s1, s2, s3, -⟩ := hsrc k (by omega)
      obtain ⟨u, hu, hv⟩ := hdep (3 * k + 1 - 1) (by rw [if_neg (by omega)]; simp)
      rw [show 3 * k + 1 - 1 = 3 * k by omega] at hu hv
      rw [va0] at hv
      subst hv
      rw [sl0] at hu
      refine step_loadF ho hg hop hu (s3 w hb) ?_
      exact ⟨_, by rw [hd, sl1], by rw [va1], Below.refl _ _⟩
    · obtain ⟨o, ho, hg, ⟨ts, hop⟩, hd, -⟩ := hcl k (by omega)
      obtain ⟨s1, s2, s3, s4, s5⟩ := hsrc k (by omega)
      obtain ⟨u, hu, hv⟩ := hdep (3 * k + 2 - 1) (by rw [if_neg (by omega)]; simp)
      rw [show 3 * k + 2 - 1 = 3 * k + 1 by omega] at hu hv
      rw [va1] at hv
      subst hv
      rw [sl1] at hu
      refine step_call ho hg hop (enters Tryz.func51 (by kernel_rfl) (by kernel_rfl)) (vs := #[_]) (by simp only [List.map_toArray, List.map_cons, List.map_nil]; rw [eval_get hu]) ?_
      refine (dend (f k) s4 s5 w).mono ?_
      rintro r w' ⟨A, rfl, hE, hb'⟩
      refine ⟨_, rfl, _, by rw [hd, sl2], ?_, hb'⟩
      rw [va2]
      exact hE
  · intro k hk
    obtain ⟨o, h1, h2, h3, h4, h5, h6⟩ := hst k hk
    exact ⟨by omega, o, h1, h2, by rw [h3, sl2], h4, h5, h6⟩
  · intro u g a w hb hu hg hs hd hoth
    have hv : ∀ k, k < n → EN w (u (3 * k + 2)) (eI (f k)) (eT (f k)) ∧ W0.heap.size ≤ g k ∧ ∃ cs, u (3 * k + 2) = .agg cs ∧ w.heap[g k]? = some (.cells cs 59 (0, 0)) := fun k hk => by
      have h1 := (hu (3 * k + 2) (by omega)).2
      rw [va2] at h1
      exact ⟨h1, (hg k hk).2⟩
    have ha : a = putL a0 ((List.range (3 * n)).map (fun j => (eslot fa ld cl j, u j)) ++ (List.range n).map (fun k => (bx k, .pointer (some ⟨g k, 0, none⟩)))) := by
      have hkeys : ((List.range (3 * n)).map (fun j => (eslot fa ld cl j, u j)) ++ (List.range n).map (fun k => (bx k, Value.pointer (some ⟨g k, 0, none⟩)))).map (·.1) = (List.range (3 * n)).map (eslot fa ld cl) ++ (List.range n).map bx := by
        simp [Function.comp_def]
      refine act_putL ?_ hs hd ?_ ?_
      · rw [hkeys, List.nodup_append]
        refine ⟨?_, ?_, ?_⟩
        · refine List.pairwise_map.2 ((List.nodup_range (n := 3 * n)).imp_of_mem ?_)
          intro x y hx hy hne he
          exact hne (hinj x (List.mem_range.1 hx) y (List.mem_range.1 hy) he)
        · refine List.pairwise_map.2 ((List.nodup_range (n := n)).imp_of_mem ?_)
          intro x y hx hy hne he
          exact hne (hbinj x (List.mem_range.1 hx) y (List.mem_range.1 hy) he)
        · intro x hx y hy
          obtain ⟨j, hj, rfl⟩ := List.mem_map.1 hx
          obtain ⟨k, hk, rfl⟩ := List.mem_map.1 hy
          exact hsb j (List.mem_range.1 hj) k (List.mem_range.1 hk)
      · intro p hp
        rcases List.mem_append.1 hp with h | h
        · obtain ⟨j, hj, rfl⟩ := List.mem_map.1 h
          exact (hu j (List.mem_range.1 hj)).1
        · obtain ⟨k, hk, rfl⟩ := List.mem_map.1 h
          exact (hg k (List.mem_range.1 hk)).1
      · intro s hsn
        rw [hkeys] at hsn
        refine hoth s (fun j hj he => hsn ?_) (fun k hk he => hsn ?_)
        · exact List.mem_append_left _ (List.mem_map.2 ⟨j, List.mem_range.2 hj, he.symm⟩)
        · exact List.mem_append_right _ (List.mem_map.2 ⟨k, List.mem_range.2 hk, he.symm⟩)
    rw [ha]
    exact hQ u g w hb hv
end Go.Proofs.YtnalhfcpcpondaaGreatDoor
/- The document's order of ends, and Abs. -/
namespace Go.Proofs.YtnalhfcpcpondaaGreatDoor
set_option linter.unusedVariables false
set_option linter.unusedSimpArgs false
open Go.RowKit Go.Fl64
attribute [local go_sem] run_store_flt

end Go.Proofs.YtnalhfcpcpondaaGreatDoor
/- The document's Neg, Add, Sub. -/
namespace Go.Proofs.YtnalhfcpcpondaaGreatDoor
set_option linter.unusedVariables false
set_option linter.unusedSimpArgs false
open Go.RowKit Go.Fl64
attribute [local go_sem] run_store_flt

end Go.Proofs.YtnalhfcpcpondaaGreatDoor
/- The document's Abs. -/
namespace Go.Proofs.YtnalhfcpcpondaaGreatDoor
set_option linter.unusedVariables false
set_option linter.unusedSimpArgs false
open Go.RowKit Go.Fl64
attribute [local go_sem] run_store_flt

theorem lt28 {k : Nat} (h : k < 2) : k = 0 ∨ k = 1 := by omega
end Go.Proofs.YtnalhfcpcpondaaGreatDoor
/- The sums of span. -/
namespace Go.Proofs.YtnalhfcpcpondaaGreatDoor
set_option linter.unusedVariables false
set_option linter.unusedSimpArgs false
open Go.RowKit Go.Fl64
attribute [local go_sem] run_store_flt

end Go.Proofs.YtnalhfcpcpondaaGreatDoor
/- Ends that are floats: what they round to, their order, their sums. -/
namespace Go.Proofs.YtnalhfcpcpondaaGreatDoor
set_option linter.unusedVariables false
set_option linter.unusedSimpArgs false
open Go.RowKit Go.Fl64

theorem tF_zero8 {a : Nat} (h : mag a = 0) : tF a = (false, 0, 0) := by
  obtain ⟨-, -, -, f4, -⟩ := (tF_ok a).facts
  refine f4 ?_
  unfold tF cn
  have hm : Ie.mant a = 0 := by
    have e := (val_mant a (by omega)).1
    rw [h, val_zero] at e
    have hp := Nat.two_pow_pos (Ie.lp a + 1074).toNat
    rcases Nat.mul_eq_zero.1 e.symm with h | h
    · exact h
    · omega
  rw [if_pos hm]
theorem tF_ngt8 {b : Nat} (hb : b < 18446744073709551616) (h0 : mag b ≠ 0) : tF (ngt b) = (!(tF b).1, (tF b).2.1, (tF b).2.2) := by
  have e1 : Ie.mant (ngt b) = Ie.mant b := by unfold Ie.mant; rw [ngt_mag hb]
  have e2 : Ie.lp (ngt b) = Ie.lp b := by unfold Ie.lp; rw [ngt_mag hb]
  unfold tF cn
  rw [e1, e2, ngt_neg hb, if_neg (Ie.mant_ne h0), if_neg (Ie.mant_ne h0)]
theorem tf_cn8 {s : Bool} {z : Nat} {e m : Int} (hm : 1 ≤ m ∧ m ≤ 3) (h : z ≠ 0) : tfF (cn s z e).1 true (cn s z e).2.1 (cn s z e).2.2 m = tfF s true z e m := by
  have hs := tz_spec z z (Nat.le_refl _) h
  unfold cn
  rw [if_neg h]
  show tfF s true (z / 2 ^ tz z) (e + (tz z : Int)) m = _
  rw [← tf_shl hm, Nat.mul_comm, hs.1]
theorem tF_val8 {a : Nat} (hf : mag a < 9218868437227405312) (h0 : mag a ≠ 0) : (tF a).1 = neg a ∧ val (mag a) = (tF a).2.1 * 2 ^ ((tF a).2.2 + 1074).toNat ∧ -1074 ≤ (tF a).2.2 := by
  obtain ⟨e1, e2, e3⟩ := val_mant a hf
  have hm : Ie.mant a ≠ 0 := by
    intro h
    rw [h, Nat.zero_mul] at e1
    exact h0 ((val_eq_zero _).1 e1)
  have hs := tz_spec (Ie.mant a) (Ie.mant a) (Nat.le_refl _) hm
  unfold tF cn
  rw [if_neg hm]
  refine ⟨rfl, ?_, by show -1074 ≤ Ie.lp a + (tz (Ie.mant a) : Int); omega⟩
  show val (mag a) = Ie.mant a / 2 ^ tz (Ie.mant a) * 2 ^ (Ie.lp a + (tz (Ie.mant a) : Int) + 1074).toNat
  rw [e1, show (Ie.lp a + (tz (Ie.mant a) : Int) + 1074).toNat = tz (Ie.mant a) + (Ie.lp a + 1074).toNat by omega, Nat.pow_add, ← Nat.mul_assoc, Nat.mul_comm (Ie.mant a / 2 ^ tz (Ie.mant a)), hs.1]
theorem tf_tF8 {a : Nat} (ha : a < 18446744073709551616) (hf : mag a < 9218868437227405312) (h0 : mag a ≠ 0) (m : Int) (hm : 1 ≤ m ∧ m ≤ 3) : tfF (neg a) true (tF a).2.1 (tF a).2.2 m = a := by
  obtain ⟨M, hM, hl⟩ := sM_lt a ha
  have hc := cn_parts a M ha hf hM
  have hn : nM a = M := by unfold nM; rw [hM]; rfl
  have hb := tf_back ha hf m hm
  rw [if_neg h0, hn, show nN a = neg a by unfold nN; rw [if_neg h0]] at hb
  have hM0 : M ≠ 0 := by
    intro h
    rw [h] at hc
    have := tF_ne h0
    rw [← hc] at this
    exact this rfl
  have := tf_cn8 (s := neg a) (e := Ie.sE a) hm hM0
  rw [hc, (tF_val8 hf h0).1] at this
  rw [this, hb]
theorem val_sgn8 {x : Nat} (hx : x < 18446744073709551616) : x = if neg x then mag x + 9223372036854775808 else mag x := by
  unfold neg mag
  split <;> rename_i h <;> simp only [decide_eq_true_eq] at h <;> omega
theorem ngt_ngt8 {a : Nat} (h : a < 18446744073709551616) : ngt (ngt a) = a := by
  unfold ngt neg
  split <;> rename_i h1 <;> simp only [decide_eq_true_eq] at h1 <;> split <;> rename_i h2 <;> simp only [decide_eq_true_eq] at h2 <;> omega
theorem eI_zero_fin {f : Nat} (hf : f < 18446744073709551616) (hn : isNaN f = false) : (eI f = 0 ↔ mag f < 9218868437227405312) := by
  have n' : ¬ 9218868437227405312 < mag f := of_decide_eq_false hn
  have hv := val_sgn8 hf
  unfold eI
  constructor
  · intro h
    by_cases h1 : mag f < 9218868437227405312
    · exact h1
    · exfalso
      have e : mag f = 9218868437227405312 := by omega
      rw [e] at hv
      cases hs : neg f
      · rw [hs] at hv
        rw [if_pos (by simpa using hv)] at h
        omega
      · rw [hs] at hv
        have hv2 : f = 18442240474082181120 := by simpa using hv
        rw [if_neg (by omega), if_pos hv2] at h
        omega
  · intro h
    rw [if_neg ?_, if_neg ?_]
    · rintro rfl; revert h; decide
    · rintro rfl; revert h; decide
theorem eI_ngt {f : Nat} (hf : f < 18446744073709551616) : eI (ngt f) = -eI f := by
  unfold eI
  by_cases h1 : f = 9218868437227405312
  · subst h1; decide
  · by_cases h2 : f = 18442240474082181120
    · subst h2; decide
    · rw [if_neg h1, if_neg h2, if_neg ?_, if_neg ?_]
      · rfl
      · intro h; exact h1 (by rw [← ngt_ngt8 hf, h]; decide)
      · intro h; exact h2 (by rw [← ngt_ngt8 hf, h]; decide)
theorem eT_ngt {f : Nat} (hf : f < 18446744073709551616) : eT (ngt f) = tNeg (eT f) := by
  unfold eT
  rw [eI_ngt hf]
  by_cases h : eI f = 0
  · rw [if_pos h, if_pos (by omega)]
    unfold tNeg
    by_cases h0 : mag f = 0
    · have h0' : mag (ngt f) = 0 := by rw [ngt_mag hf]; exact h0
      rw [tF_zero8 h0, tF_zero8 h0', if_pos rfl]
    · rw [if_neg (tF_ne h0), tF_ngt8 hf h0]
  · rw [if_neg h, if_neg (by omega)]
    rfl
theorem pl_cases (f : Nat) : pl f = f ∨ (f = 9223372036854775808 ∧ pl f = 0) := by
  unfold pl
  by_cases h : f = 9223372036854775808
  · exact .inr ⟨h, if_pos h⟩
  · exact .inl (if_neg h)
end Go.Proofs.YtnalhfcpcpondaaGreatDoor
/- Ends that are floats: their signs, their order, their sums. -/
namespace Go.Proofs.YtnalhfcpcpondaaGreatDoor
set_option linter.unusedVariables false
set_option linter.unusedSimpArgs false
open Go.RowKit Go.Fl64

theorem cmpI_neg_iff (x y : Int) : (cmpI x y < 0 ↔ x < y) ∧ (0 < cmpI x y ↔ y < x) := by
  unfold cmpI
  constructor
  · split
    · omega
    · split <;> omega
  · split
    · omega
    · split <;> omega
theorem vz_tF8 {a : Nat} (ha : a < 18446744073709551616) (hf : mag a < 9218868437227405312) : vz 5000000 (tF a).1 (tF a).2.1 (tF a).2.2 = vz 5000000 (nN a) (nM a) (Ie.sE a) := by
  obtain ⟨M, hM, hl⟩ := sM_lt a ha
  have hc := cn_parts a M ha hf hM
  have hn : nM a = M := by unfold nM; rw [hM]; rfl
  have hb : 0 ≤ Ie.sE a + (5000000 : Nat) := by
    have := (sE_le a).1
    omega
  rw [← hc, vz_cn hb, hn]
  unfold nN
  by_cases h0 : mag a = 0
  · have : M = 0 := by
      rcases of_parts a M ha hf hM with ⟨h1, h2⟩ | ⟨h1, h2, -, h3, h4⟩
      · omega
      · exfalso
        have e := tF_zero8 h0
        rw [← hc] at e
        unfold cn at e
        by_cases hM0 : M = 0
        · omega
        · rw [if_neg hM0] at e
          have e2 : M / 2 ^ tz M = 0 := congrArg (fun t => t.2.1) e
          have hs := tz_spec M M (Nat.le_refl _) hM0
          rw [e2] at hs
          have := hs.1
          omega
    subst this
    unfold vz
    rw [sv_zero, sv_zero]
  · rw [if_neg h0]
theorem tF_e5000000 (a : Nat) : 0 ≤ (tF a).2.2 + (5000000 : Nat) := by
  obtain ⟨f1, f2, f3, f4, f5⟩ := (tF_ok a).facts
  omega
theorem sE_e5000000 {a : Nat} (ha : a < 18446744073709551616) (hf : mag a < 9218868437227405312) : 0 ≤ Ie.sE a + (5000000 : Nat) := by
  have := (sE_le a).1
  omega
theorem ord_tF8 {a b : Nat} (ha : a < 18446744073709551616) (hb : b < 18446744073709551616) (fa : mag a < 9218868437227405312) (fb : mag b < 9218868437227405312) :
    ordN (tF a).1 (tF a).2.1 (tF a).2.2 (tF b).1 (tF b).2.1 (tF b).2.2 = cmpI (stp a) (stp b) := by
  rw [ordN_vz (tF_e5000000 a) (tF_e5000000 b), vz_tF8 ha fa, vz_tF8 hb fb, ← ordN_vz (sE_e5000000 ha fa) (sE_e5000000 hb fb)]
  exact ord_num fa fb
theorem inf_or {f : Nat} (hf : f < 18446744073709551616) (hn : isNaN f = false) : (mag f < 9218868437227405312 ∧ eI f = 0 ∧ eT f = tF f) ∨ (f = 9218868437227405312 ∧ eI f = 1) ∨ (f = 18442240474082181120 ∧ eI f = -1) := by
  by_cases h : eI f = 0
  · exact .inl ⟨(eI_zero_fin hf hn).1 h, h, by unfold eT; rw [if_pos h]⟩
  · by_cases h1 : f = 9218868437227405312
    · exact .inr (.inl ⟨h1, by rw [h1]; decide⟩)
    · by_cases h2 : f = 18442240474082181120
      · exact .inr (.inr ⟨h2, by rw [h2]; decide⟩)
      · exfalso
        apply h
        unfold eI
        rw [if_neg h1, if_neg h2]
theorem fin_stp {f : Nat} (h : mag f < 9218868437227405312) : -9218868437227405312 < stp f ∧ stp f < 9218868437227405312 := by
  unfold stp sgn
  split <;> omega
/-- sums -/
theorem enF_plus {a c : Nat} (ha : a < 18446744073709551616) (hc : c < 18446744073709551616) (na : isNaN a = false) (nc : isNaN c = false) (hx : ¬ (eI a = 1 ∧ eI c = -1)) (hy : ¬ (eI a = -1 ∧ eI c = 1)) {m : Int} (hm : 1 ≤ m ∧ m ≤ 3) :
    enF (eI a + eI c) (plT (eI a) (eI c) (eT a) (eT c)) m = pl (fAdM a c m) := by
  have fI : fin 9218868437227405312 = false := by decide
  have fN : fin 18442240474082181120 = false := by decide
  unfold enF plT fAdM
  rcases inf_or ha na with ⟨fa, ia, ta⟩ | ⟨rfl, ia⟩ | ⟨rfl, ia⟩ <;> rcases inf_or hc nc with ⟨fb, ib, tb⟩ | ⟨rfl, ib⟩ | ⟨rfl, ib⟩
  · have f1 : fin a = true := decide_eq_true fa
    have f2 : fin c = true := decide_eq_true fb
    rw [ia, ib, if_pos (by omega), if_pos (by omega), ta, tb, if_neg (by rw [f1, f2]; simp)]
    unfold toD
    by_cases h0 : (tS (tF a) (tF c)).2.1 = 0
    · rw [if_pos h0, if_pos h0]
      cases z0 (neg a) (neg c) m <;> rfl
    · rw [if_neg h0, if_neg h0]
  · rw [ia, ib, if_neg (by omega), if_pos (by omega), if_pos (.inr fI)]
    unfold addX
    rw [na, nc, if_neg (by simp), if_neg (by omega)]
    rfl
  · rw [ia, ib, if_neg (by omega), if_neg (by omega), if_pos (.inr fN)]
    unfold addX
    rw [na, nc, if_neg (by simp), if_neg (by omega)]
    rfl
  · rw [ia, ib, if_neg (by omega), if_pos (by omega), if_pos (.inl fI)]
    unfold addX
    rw [na, nc, if_neg (by simp), if_pos (by decide), if_neg (by omega)]
    rfl
  · rw [ia, if_neg (by omega), if_pos (by omega), if_pos (.inl fI)]; decide
  · exact absurd ⟨ia, ib⟩ hx
  · rw [ia, ib, if_neg (by omega), if_neg (by omega), if_pos (.inl fN)]
    unfold addX
    rw [na, nc, if_neg (by simp), if_pos (by decide), if_neg (by omega)]
    rfl
  · exact absurd ⟨ia, ib⟩ hy
  · rw [ia, if_neg (by omega), if_neg (by omega), if_pos (.inl fN)]; decide
end Go.Proofs.YtnalhfcpcpondaaGreatDoor
/- SpanSums. -/
namespace Go.Proofs.YtnalhfcpcpondaaGreatDoor
set_option linter.unusedVariables false
set_option linter.unusedSimpArgs false
open Go.RowKit Go.Fl64
attribute [local go_sem] run_store_flt

theorem toD_nn (t : Bool × Nat × Int) {m : Int} (hm : 1 ≤ m ∧ m ≤ 3) : isNaN (toD t m) = false := by
  unfold toD
  split
  · decide
  · rw [tf_bdy hm]
    have h := bdy_le t.2.1 t.2.2 (wyN t.1 m)
    unfold isNaN
    rw [(mag_sig h).1]
    exact decide_eq_false (by omega)
theorem enF_nn (i : Int) (t : Bool × Nat × Int) {m : Int} (hm : 1 ≤ m ∧ m ≤ 3) : isNaN (enF i t m) = false := by
  unfold enF
  split
  · rw [pl_nan]; exact toD_nn t hm
  · split <;> decide
theorem fAdM_nn {a c : Nat} (ha : a < 18446744073709551616) (hc : c < 18446744073709551616) (na : isNaN a = false) (nc : isNaN c = false) (hx : ¬ (eI a = 1 ∧ eI c = -1)) (hy : ¬ (eI a = -1 ∧ eI c = 1)) {m : Int} (hm : 1 ≤ m ∧ m ≤ 3) : isNaN (fAdM a c m) = false := by
  rw [← pl_nan, ← enF_plus ha hc na nc hx hy hm]
  exact enF_nn _ _ hm
theorem fAdM_lt {a c : Nat} (ha : a < 18446744073709551616) (hc : c < 18446744073709551616) {m : Int} (hm : 1 ≤ m ∧ m ≤ 3) : fAdM a c m < 18446744073709551616 := (faddM_p a c m hm ha hc).1
/-- the lower end is never +Inf, the upper one never -Inf -/
theorem vI_ends {a b : Nat} (h : vI a b = true) : eI a ≠ 1 ∧ eI b ≠ -1 := by
  unfold vI at h
  simp only [Bool.and_eq_true] at h
  constructor
  · intro e
    have : a = 9218868437227405312 := by
      unfold eI at e
      by_cases h1 : a = 9218868437227405312
      · exact h1
      · rw [if_neg h1] at e
        split at e <;> omega
    have h2 := h.1.1.1.2
    rw [this] at h2
    revert h2
    decide
  · intro e
    have : b = 18442240474082181120 := by
      unfold eI at e
      by_cases h1 : b = 9218868437227405312
      · rw [if_pos h1] at e; omega
      · rw [if_neg h1] at e
        by_cases h2 : b = 18442240474082181120
        · exact h2
        · rw [if_neg h2] at e; omega
    have h2 := h.1.1.2
    rw [this] at h2
    revert h2
    decide
theorem tNeg_fits {t : Bool × Nat × Int} {lo hi : Int} (h : Fits lo hi t.2.1 t.2.2) : Fits lo hi (tNeg t).2.1 (tNeg t).2.2 := by
  unfold tNeg
  split
  · exact .inl rfl
  · exact h
theorem or_lt8 {ok : Bool} {x : Nat} (h : x < 18446744073709551616) : (if ok then x else 0) < 18446744073709551616 := by
  cases ok
  · rw [if_neg (by simp)]; omega
  · exact h
end Go.Proofs.YtnalhfcpcpondaaGreatDoor
/- The document's Mid. -/
namespace Go.Proofs.YtnalhfcpcpondaaGreatDoor
set_option linter.unusedVariables false
set_option linter.unusedSimpArgs false
open Go.RowKit Go.Fl64
attribute [local go_sem] run_store_flt

set_option maxHeartbeats 4000000 in
set_option maxRecDepth 200000 in
theorem rscaled8_0 (na : Bool) (ua : Option Addr) (uc : Nat) (ea k : Int) (w : World) :
    Calls Tryz.prog 74 #[.agg #[.bool na, .slice ua 0 uc, .int .i64 ea], .int .i64 k] w fun r w' => r = .returned (.agg #[.bool false, .slice none 0 0, .int .i64 0]) ∧ Below w.heap.size w w' := by
  obtain ⟨W, hW⟩ : ∃ W, W = (w.alloc (.cells #[.bool na, .slice ua 0 uc, .int .i64 ea] 57)).alloc (.cells #[.bool false, .slice none 0 0, .int .i64 0] 57) := ⟨_, rfl⟩
  obtain ⟨hA, hB, hsz, hBW⟩ := two29 _ _ hW
  obtain ⟨⟨a0, a1, a2⟩, -⟩ := box_cells29 hA
  obtain ⟨⟨b0, b1, b2⟩, b3, b4, b5⟩ := box_cells29 hB
  have HX : Hid (Below w.heap.size w W ∧ W.heap[w.heap.size + 1]? = some (.cells #[.bool false, .slice none 0 0, .int .i64 0] 57 (0, 0))) := ⟨hBW, hB⟩
  clear hA hB hsz hBW
  have HE : Hid (W = (w.alloc (.cells #[.bool na, .slice ua 0 uc, .int .i64 ea] 57)).alloc (.cells #[.bool false, .slice none 0 0, .int .i64 0] 57)) := hW
  rw [hW] at a0 a1 a2 b0 b1 b2 b3 b4 b5
  clear hW
  go_enter Tryz.func74, Tryz.ntmps74
  go_wp2
  refine bodyPost_ret (results_cell_row rfl _ _ (w.heap.size + 1) 57 #[.bool false, .slice none 0 0, .int .i64 0] (0, 0) _ rfl (two29 _ _ rfl).2.1 Tryz.underlying57 rfl Tryz.info57) rfl ?_
  exact ⟨rfl, (two29 _ _ rfl).2.2.2⟩
/-- a number of the document, shifted -/
theorem scaled8_dn {t : Bool × Nat × Int} {A : Value} {w : World} (h : DN w A t) (hE : t.2.1 ≠ 0 → -65536 ≤ t.2.2 ∧ t.2.2 ≤ 65536) : Calls Tryz.prog 74 #[A, .int .i64 (-1)] w fun r w' => ∃ B, r = .returned B ∧ DN w' B (tSh t (-1)) ∧ Below w.heap.size w w' := by
  obtain ⟨ao, cap, rfl, hA⟩ := h
  unfold tSh
  by_cases h0 : t.2.1 = 0
  · rw [if_pos h0, dlen_eq_zero.2 h0]
    refine (rscaled8_0 t.1 ao cap t.2.2 (-1) w).mono ?_
    rintro r w' ⟨rfl, hb⟩
    exact ⟨_, rfl, dn_nil _, hb⟩
  · rw [if_neg h0]
    have hd : dlen t.2.1 ≠ 0 := fun e => h0 (dlen_eq_zero.1 e)
    have he := hE h0
    refine (rscaled_1 t.1 ao (dlen t.2.1) cap t.2.2 (-1) w hA.small (by simp; omega) (by omega) (by omega)).mono ?_
    rintro r w' ⟨rfl, hb⟩
    exact ⟨_, rfl, ⟨ao, cap, rfl, hA.later hb⟩, hb⟩
theorem dn_of_en {w : World} {i e : Int} {s : Bool} {ao : Option Addr} {n cap : Nat} {j : Int} {t : Bool × Nat × Int} (h : EN w (.agg #[.int .i64 i, .bool s, .slice ao n cap, .int .i64 e]) j t) : DN w (.agg #[.bool s, .slice ao n cap, .int .i64 e]) t := by
  obtain ⟨s', ao', n', cap', e', h1, h2⟩ := h
  injection h1 with h1
  simp at h1
  obtain ⟨-, rfl, ⟨rfl, rfl, rfl⟩, rfl⟩ := h1
  exact h2
set_option maxHeartbeats 16000000 in
set_option maxRecDepth 200000 in
theorem dmid_1 (a b : Nat) (i j : Int) (H : Nat) (hIJ : eI a = i ∧ eI b = j) (hH : i = 0 → j = 0 → toD (tSh (tS (eT a) (eT b)) (-1)) 2 = H ∧ Ok (tSh (tS (eT a) (eT b)) (-1)) ∧ ((tS (eT a) (eT b)).2.1 ≠ 0 → -65536 ≤ (tS (eT a) (eT b)).2.2 ∧ (tS (eT a) (eT b)).2.2 ≤ 65536)) (w : World) (ha : a < 18446744073709551616) (hb : b < 18446744073709551616) :
    Calls Tryz.prog 35 #[.agg #[.float .f64 a, .float .f64 b]] w fun r w' => r = .returned (midV (vI a b) (decide (i ≠ 0) && decide (j ≠ 0)) (decide (i ≠ 0)) (decide (j ≠ 0)) H) ∧ Below w.heap.size w w' := by
  have k1 := fun W => d8valid a b ha hb W
  have HN1 : Hid (vI a b = true → isNaN a = false ∧ isNaN b = false) := vI_nn
  generalize hu : vI a b = u at *
  clear hu
  obtain ⟨W, hW⟩ : ∃ W, W = (w.alloc (.cells #[.float .f64 a, .float .f64 b] 24)) := ⟨_, rfl⟩
  have HX : Hid (Below w.heap.size w W ∧ IvB W (w.heap.size) a b) := by
    rw [hW]
    exact ⟨bxs1_0 w a b, bxs1_1 w a b⟩
  have HK : Hid (∀ w', Below W.heap.size W w' → IvF w' (w.heap.size) a b) := fun w' hb => (HX.out.2).later hb
  have HV0 : Hid (Below w.heap.size w W) := HX.out.1
  obtain ⟨c0, c1, z0, z1⟩ := HK.out W (Below.refl _ _)
  have kv := k1 W
  clear k1
  go_enter Tryz.func35, Tryz.ntmps35
  go_upto_region 1 with fail
  rw [← hW]
  clear hW
  go_wp2_with fail
  refine kv.mono ?_
  rintro r w1 ⟨rfl, hb1⟩
  clear kv
  clear c0 z0 c1 z1
  obtain ⟨c0, c1, z0, z1⟩ := HK.out w1 hb1
  cases u
  · have HB : Hid (Below w.heap.size w w1) := HX.out.1.trans (hb1.mono HX.out.1.size)
    clear hb1 HK HX
    go_wp2
    go_ret2
    exact ⟨rfl, HB.out⟩
  obtain ⟨Na, Nb⟩ := HN1.out (by simp)
  have HB1 : Hid (Below W.heap.size W w1) := hb1
  have HAB : Hid (a < 18446744073709551616 ∧ b < 18446744073709551616 ∧ isNaN a = false ∧ isNaN b = false) := ⟨ha, hb, Na, Nb⟩
  clear hb1 HN1 ha hb Na Nb
  go_upto_region 3 with fail
  go_cut [4, 5] from 9 to 14 (fun p q wx => ∃ (g0 g1 : Nat) (s0 : Bool) (ao0 : Option Addr) (n0 cap0 : Nat) (e0 : Int) (s1 : Bool) (ao1 : Option Addr) (n1 cap1 : Nat) (e1 : Int), p = .pointer (some ⟨g0, 0, none⟩) ∧ q = .pointer (some ⟨g1, 0, none⟩) ∧ Hid (Below w1.heap.size w1 wx ∧ EnB wx g0 (.int .i64 (eI a)) (.bool s0) (.slice ao0 n0 cap0) (.int .i64 e0) ∧ EnB wx g1 (.int .i64 (eI b)) (.bool s1) (.slice ao1 n1 cap1) (.int .i64 e1) ∧ EN wx (.agg #[.int .i64 (eI a), .bool s0, .slice ao0 n0 cap0, .int .i64 e0]) (eI a) (eT a) ∧ EN wx (.agg #[.int .i64 (eI b), .bool s1, .slice ao1 n1 cap1, .int .i64 e1]) (eI b) (eT b) ∧ w1.heap.size ≤ g0 ∧ w1.heap.size ≤ g1))
  case first =>
    refine ends_region 2 (fun k => 1) (fun k => 9 + 3 * k) (fun k => 10 + 3 * k) (fun k => 11 + 3 * k) (fun k => 4 + k) (fun k => w.heap.size) (fun k => k) (fun k => if k = 0 then a else b) w1 _ rfl (ord_of (by kernel_rfl)) ?_ ?_ ?_ ?_ ?_ ?_ ?_ ?_ ?_ ?_ ?_ ?_ ?_
    · intro k hk
      rcases lt28 hk with rfl | rfl
      · exact ⟨rfl, .inl rfl, fun w' hw => (HK.out w' (HB1.out.trans (hw.mono HB1.out.size))).1, HAB.out.1, HAB.out.2.2.1⟩
      · exact ⟨rfl, .inr rfl, fun w' hw => (HK.out w' (HB1.out.trans (hw.mono HB1.out.size))).2.1, HAB.out.2.1, HAB.out.2.2.2⟩
    · intro k hk
      rcases lt28 hk with rfl | rfl <;> decide
    · intro k hk
      rcases lt28 hk with rfl | rfl <;> exact ⟨_, rfl, rfl, rfl, rfl⟩
    · intro k hk
      rcases lt28 hk with rfl | rfl <;> exact ⟨_, rfl, rfl, rfl, rfl, ⟨_, .data⟩, by simp, rfl, rfl⟩
    · intro k hk
      rcases lt28 hk with rfl | rfl <;> exact ⟨_, rfl, rfl, ⟨_, rfl⟩, rfl, ⟨_, .data⟩, by simp, rfl, rfl⟩
    · intro k hk
      rcases lt28 hk with rfl | rfl <;> exact ⟨_, rfl, rfl, rfl, rfl⟩
    · intro k hk
      rcases lt28 hk with rfl | rfl <;> exact ⟨_, rfl, rfl, rfl, rfl, ⟨⟨_, .data⟩, by simp, rfl, rfl⟩, ⟨_, .data⟩, by simp, rfl, rfl⟩
    · show ∀ j, j < 3 * 2 → eslot (fun k => 9 + 3 * k) (fun k => 10 + 3 * k) (fun k => 11 + 3 * k) j < 39
      decide
    · show ∀ k, k < 2 → 4 + k < 39
      decide
    · decide
    · decide
    · decide
    · intro u g wx hb hk
      obtain ⟨x1, x0, cs0, x2, x3⟩ := hk 0 (by omega)
      obtain ⟨y1, y0, cs1, y2, y3⟩ := hk 1 (by omega)
      have x1' := x1
      have y1' := y1
      obtain ⟨s0, ao0, n0, cap0, e0, x4, -⟩ := x1'
      obtain ⟨s1, ao1, n1, cap1, e1, y4, -⟩ := y1'
      have x5 : cs0 = #[.int .i64 (eI a), .bool s0, .slice ao0 n0 cap0, .int .i64 e0] := by
        have := x2.symm.trans x4
        simpa using this
      have y5 : cs1 = #[.int .i64 (eI b), .bool s1, .slice ao1 n1 cap1, .int .i64 e1] := by
        have := y2.symm.trans y4
        simpa using this
      rw [x5] at x3
      rw [y5] at y3
      rw [x4] at x1
      rw [y4] at y1
      have HF : Hid (Below w1.heap.size w1 wx ∧ EnB wx (g 0) (.int .i64 (eI a)) (.bool s0) (.slice ao0 n0 cap0) (.int .i64 e0) ∧ EnB wx (g 1) (.int .i64 (eI b)) (.bool s1) (.slice ao1 n1 cap1) (.int .i64 e1) ∧ EN wx (.agg #[.int .i64 (eI a), .bool s0, .slice ao0 n0 cap0, .int .i64 e0]) (eI a) (eT a) ∧ EN wx (.agg #[.int .i64 (eI b), .bool s1, .slice ao1 n1 cap1, .int .i64 e1]) (eI b) (eT b) ∧ w1.heap.size ≤ g 0 ∧ w1.heap.size ≤ g 1) := ⟨hb, x3, y3, x1, y1, x0, y0⟩
      clear hk x0 y0 x1 x2 x3 x4 x5 y1 y2 y3 y4 y5 hb
      simp only [putL, eslot, show List.range (3 * 2) = [0, 1, 2, 3, 4, 5] from rfl, show List.range 2 = [0, 1] from rfl, List.map_cons, List.map_nil, List.cons_append, List.nil_append, List.foldl_cons, List.foldl_nil, Nat.reduceMod, Nat.reduceDiv, Nat.reduceMul, Nat.reduceAdd, Nat.reduceEqDiff, reduceIte, Nat.one_ne_zero, Act.put, List.setIfInBounds_toArray, List.set_cons_zero, List.set_cons_succ]
      go_wp2_with fail
      go_meet
      exact ⟨_, _, _, _, _, _, _, _, _, _, _, _, rfl, rfl, HF⟩
  case rest =>
    obtain ⟨w8, hw8⟩ : ∃ w8 : World, w8 = wc := ⟨_, rfl⟩
    subst hw8
    obtain ⟨g0, g1, s0, ao0, n0, cap0, e0, s1, ao1, n1, cap1, e1, rfl, rfl, HF⟩ := hcut
    have HB8 : Hid (Below W.heap.size W w8) := HB1.out.trans (HF.out.1.mono HB1.out.size)
    have HE : Hid (EN w8 (.agg #[.int .i64 (eI a), .bool s0, .slice ao0 n0 cap0, .int .i64 e0]) (eI a) (eT a) ∧ EN w8 (.agg #[.int .i64 (eI b), .bool s1, .slice ao1 n1 cap1, .int .i64 e1]) (eI b) (eT b)) := ⟨HF.out.2.2.2.1, HF.out.2.2.2.2.1⟩
    have HW8 : Hid (Below w.heap.size w w8) := HV0.out.trans (HB8.out.mono HV0.out.size)
    obtain ⟨⟨a0, a1, a2, a3⟩, -⟩ := HF.out.2.1.facts
    obtain ⟨⟨b0, b1, b2, b3⟩, -⟩ := HF.out.2.2.1.facts
    clear HB1 c0 c1 z0 z1
    rw [hIJ.1] at a0 HE
    rw [hIJ.2] at b0 HE
    have HKK : Hid (∀ w', Below w8.heap.size w8 w' → (w'.cell? ⟨g0, 0, none⟩ = some (.int .i64 (i)) ∧ w'.cell? ⟨g0, 1, none⟩ = some (.bool s0) ∧ w'.cell? ⟨g0, 2, none⟩ = some (.slice ao0 n0 cap0) ∧ w'.cell? ⟨g0, 3, none⟩ = some (.int .i64 e0)) ∧ (w'.cell? ⟨g1, 0, none⟩ = some (.int .i64 (j)) ∧ w'.cell? ⟨g1, 1, none⟩ = some (.bool s1) ∧ w'.cell? ⟨g1, 2, none⟩ = some (.slice ao1 n1 cap1) ∧ w'.cell? ⟨g1, 3, none⟩ = some (.int .i64 e1))) := fun w' h => by
      have k := (HF.out.2.1.box h).facts.1
      have k' := (HF.out.2.2.1.box h).facts.1
      rw [hIJ.1] at k
      rw [hIJ.2] at k'
      exact ⟨k, k'⟩
    clear HF HAB HK HX HV0 HB8 hIJ
    by_cases h1 : i = 0
    · by_cases h2 : j = 0
      · subst h1
        subst h2
        obtain ⟨hH1, hO, hE⟩ := hH rfl rfl
        have oa := eT_ok a
        have ob := eT_ok b
        generalize eT a = t at *
        generalize eT b = v at *
        have kP : ∀ W A B, DN W A t → DN W B v → Calls Tryz.prog 75 #[A, B] W fun r w' => ∃ C, r = .returned C ∧ DN w' C (tS t v) ∧ Below W.heap.size W w' := fun W A B h1 h2 => plus_dn oa ob h1 h2
        have kS : ∀ W A, DN W A (tS t v) → Calls Tryz.prog 74 #[A, .int .i64 (-1)] W fun r w' => ∃ B, r = .returned B ∧ DN w' B (tSh (tS t v) (-1)) ∧ Below W.heap.size W w' := fun W A h => scaled8_dn h hE
        have kT : ∀ W A, DN W A (tSh (tS t v) (-1)) → Calls Tryz.prog 73 #[A, .int .i64 2] W fun r w' => r = .returned (.float .f64 H) ∧ Below W.heap.size W w' := fun W A h => by
          have k := dto8 (m := 2) hO (by omega) h
          rw [hH1] at k
          exact k
        generalize tS t v = p at *
        clear hH hH1 hO hE oa ob
        have D0 : DN w8 (.agg #[.bool s0, .slice ao0 n0 cap0, .int .i64 e0]) t := dn_of_en HE.out.1
        have D1 : DN w8 (.agg #[.bool s1, .slice ao1 n1 cap1, .int .i64 e1]) v := dn_of_en HE.out.2
        clear HE
        go_wp2_with fail
        refine (kP _ _ _ D0 D1).mono ?_
        rintro r v1 ⟨A1, rfl, F1, q1⟩
        clear kP D0 D1
        have HB1 : Hid (Below w.heap.size w v1) := HW8.out.trans (q1.mono HW8.out.size)
        have kk := kS _ _ F1
        clear kS q1 F1 HKK HW8 a0 a1 a2 a3 b0 b1 b2 b3
        go_wp2_with fail
        refine kk.mono ?_
        rintro r v2 ⟨A2, rfl, F2, q2⟩
        have HB2 : Hid (Below w.heap.size w v2) := HB1.out.trans (q2.mono HB1.out.size)
        have kk := kT _ _ F2
        clear kT q2 F2 HB1
        go_wp2_with fail
        refine kk.mono ?_
        rintro r v3 ⟨rfl, q3⟩
        have HB3 : Hid (Below w.heap.size w v3) := HB2.out.trans (q3.mono HB2.out.size)
        clear q3 HB2 kk
        go_wp2
        go_ret2
        exact ⟨rfl, HB3.out⟩
      · have e2 : (j != 0) = true := by simp [h2]
        subst h1
        clear HKK hH HE
        go_wp2
        go_ret2
        exact ⟨by simp [midV, h2], HW8.out⟩
    · have e1 : (i != 0) = true := by simp [h1]
      clear HKK hH HE
      by_cases h2 : j = 0
      · subst h2
        go_wp2
        go_ret2
        exact ⟨by simp [midV, h1], HW8.out⟩
      · have e2 : (j != 0) = true := by simp [h2]
        go_wp2
        go_ret2
        exact ⟨by simp [midV, h1, h2], HW8.out⟩
end Go.Proofs.YtnalhfcpcpondaaGreatDoor
/- The document's Half, its second region. -/
namespace Go.Proofs.YtnalhfcpcpondaaGreatDoor
set_option linter.unusedVariables false
set_option linter.unusedSimpArgs false
open Go.RowKit Go.Fl64
attribute [local go_sem] run_store_flt

def tD8 (t1 t2 : Bool × Nat × Int) : Bool × Nat × Int := cn (sumN t1.1 t1.2.1 t1.2.2 (!t2.1 && decide (0 < dlen t2.2.1)) t2.2.1 t2.2.2).1 (sumN t1.1 t1.2.1 t1.2.2 (!t2.1 && decide (0 < dlen t2.2.1)) t2.2.1 t2.2.2).2.1 (sumN t1.1 t1.2.1 t1.2.2 (!t2.1 && decide (0 < dlen t2.2.1)) t2.2.1 t2.2.2).2.2
theorem arg_noughtD8 (w : World) : Arg w none (dlen 0) 0 0 := by rw [dlen_zero]; exact ⟨fun _ => .inr ⟨rfl, rfl⟩, ⟨0, 0, fun h => absurd h (by omega), fun i hi => absurd hi (by omega)⟩, Nat.le_refl _, by omega⟩
theorem less8_dn {t1 t2 : Bool × Nat × Int} {X Y : Value} {w : World} (o1 : Ok t1) (o2 : Ok t2) (h1 : DN w X t1) (h2 : DN w Y t2) : Calls Tryz.prog 126 #[X, Y] w fun r w' => ∃ A, r = .returned A ∧ DN w' A (tD8 t1 t2) ∧ Below w.heap.size w w' := by
  obtain ⟨ao, cap, rfl, a1⟩ := h1
  obtain ⟨ao', cap', rfl, a2⟩ := h2
  obtain ⟨f1, f2, f3, -, -⟩ := o1.facts
  obtain ⟨g1, g2, g3, g4, -⟩ := o2.facts
  unfold tD8
  by_cases h0 : t2.2.1 = 0
  · have e2 := g4 h0
    have e3 : t2.1 = false := by rw [e2]
    have e4 : t2.2.2 = 0 := by rw [e2]
    rw [h0, e3, e4, dlen_zero]
    refine (rlessN_1 t1.1 false ao ao' (dlen t1.2.1) cap 0 cap' t1.2.2 0 false none 0 0 0 _ _ _ w (fun W => rminus_0 false ao' cap' 0 W) (fun W hW => ?_)).mono fun r w' ⟨A, e, h, hb⟩ => ⟨A, e, h.dn, hb⟩
    have k := rplusG (nb := false) (y := 0) (eb := 0) (a1.later hW) (arg_noughtD8 W) (cn_ok o1) rfl (by omega) (by omega) (by omega) (by omega) (by omega) (by rw [dlen_zero]; omega)
    rw [dlen_zero] at k
    exact k
  · have hl : 0 < dlen t2.2.1 := by have := dlen_pos h0; omega
    rw [decide_eq_true hl, Bool.and_true]
    have ho : cn (!t2.1) t2.2.1 t2.2.2 = (!t2.1, t2.2.1, t2.2.2) := by
      have := cn_ok o2
      unfold cn at this ⊢
      rw [if_neg h0] at this ⊢
      rw [Prod.ext_iff] at this
      exact Prod.ext rfl this.2
    exact (rlessN_1 t1.1 t2.1 ao ao' (dlen t1.2.1) cap (dlen t2.2.1) cap' t1.2.2 t2.2.2 (!t2.1) ao' (dlen t2.2.1) cap' t2.2.2 _ _ _ w (fun W => rminus_1 t2.1 ao' (dlen t2.2.1) cap' t2.2.2 W (by omega) (by rw [beq_eq_false_iff_ne]; omega)) (fun W hW => rplusG (a1.later hW) (a2.later hW) (cn_ok o1) ho (by omega) (by omega) (by omega) (by omega) (by omega) (by omega))).mono fun r w' ⟨A, e, h, hb⟩ => ⟨A, e, h.dn, hb⟩
theorem tD8_eq {t u : Bool × Nat × Int} (o : Ok u) : tD8 t u = tS t (tNeg u) := by
  obtain ⟨-, -, -, g4, -⟩ := o.facts
  unfold tD8 tS tNeg
  by_cases h0 : u.2.1 = 0
  · rw [if_pos h0, g4 h0, dlen_zero]
    rfl
  · have hl : 0 < dlen u.2.1 := by have := dlen_pos h0; omega
    rw [if_neg h0, decide_eq_true hl, Bool.and_true]

theorem at_row8 {W : World} {ao : Option Addr} {n z g : Nat} (h : At W ao n z) (hE : W.heap[g]? = some (.cells #[.bool false, .slice none 0 0, .int .i64 0] 57 (0, 0))) (cs : Array Value) : At (W.setRow g cs) ao n z := by
  obtain ⟨bb, o, h1, h2⟩ := h
  refine ⟨bb, o, h1, fun i hi => ?_⟩
  have hc := h2 i hi
  have hne : bb ≠ g := by
    rintro rfl
    simp only [World.cell?, hE] at hc
    rcases (show o + i = 0 ∨ o + i = 1 ∨ o + i = 2 ∨ 3 ≤ o + i by omega) with e | e | e | e
    · rw [e] at hc; simp at hc
    · rw [e] at hc; simp at hc
    · rw [e] at hc; simp at hc
    · rw [Array.getElem?_eq_none (by simpa using e)] at hc; cases hc
  have hs := setRow_other W g bb cs hne
  unfold World.cell? at hc ⊢
  rw [hs]
  exact hc
theorem DN.row8 {W : World} {A : Value} {t : Bool × Nat × Int} {g : Nat} (h : DN W A t) (hE : W.heap[g]? = some (.cells #[.bool false, .slice none 0 0, .int .i64 0] 57 (0, 0))) (cs : Array Value) : DN (W.setRow g cs) A t := by
  obtain ⟨ao', cap', h2, h3⟩ := h
  exact ⟨ao', cap', h2, h3.nil, at_row8 h3.at_ hE cs, h3.le, h3.small⟩
theorem step_move8 {ops : Array Oper} {Q : Exit → Act → World → Prop} {i : Nat} {o : Oper} {K : Act → World → Prop} {a : Act} {w : World}
    (hi : ops[i]? = some o) (hg : o.guard = none) {s : Tmp} (hop : o.op = .move (.tmp s)) {v : Value}
    (hs : a.tmps[s]? = some v) (h : K (a.put o.dst v) w) : wpOp Tryz.prog ops Q i K a w := by
  refine step_wanted hi hg ?_
  unfold Oper.wp
  simp [execOp, hop, eval_get hs, Result.andThen, Oper.upon, h]
def hfE (g lo m : Nat) (t1 t2 t3 : Bool × Nat × Int) (j : Nat) (w : World) (u : Value) : Prop :=
  match j with
  | 0 => u = .float .f64 m
  | 1 => DN w u t1
  | 2 => u = .pointer (some ⟨g, 0, none⟩)
  | 3 => u = .float .f64 lo
  | 4 => DN w u t2
  | _ => DN w u t3
def hfD (j : Nat) : List Nat :=
  match j with
  | 0 => []
  | 1 => [0]
  | 2 => []
  | 3 => [2]
  | 4 => [3]
  | _ => [1, 4]
theorem zero_num8 (w : World) : (zeroValue 57).run Tryz.prog w = .ok (.agg #[.bool false, .slice none 0 0, .int .i64 0]) w := Tryz.zeroValue57 w
theorem lt68 {j : Nat} (h : j < 6) : j = 0 ∨ j = 1 ∨ j = 2 ∨ j = 3 ∨ j = 4 ∨ j = 5 := by omega
set_option maxHeartbeats 4000000 in
set_option maxRecDepth 200000 in
theorem half_region {ops : Array Oper} {Q : Exit → Act → World → Prop} {id : Nat} (g lo m : Nat) (t1 t2 t3 : Bool × Nat × Int) (W0 : World) (a0 : Act)
    (hops : ops = #[{ dst := some 13, op := Op.move (Operand.tmp 1), type := 22, pos := "ref.go:335", after := #[], guard := none }, { dst := some 14, op := Op.call { callee := Callee.value (Operand.func 71), args := #[Operand.tmp 13], argTypes := #[22] }, type := 57, pos := "ref.go:335", after := #[{ on := 0, ground := Ground.data }], guard := none }, { dst := some 15, op := Op.fieldAddr 24 (Operand.tmp 2) 0, type := 0, pos := "ref.go:335", after := #[], guard := none }, { dst := some 16, op := Op.load 22 (Operand.tmp 15), type := 22, pos := "ref.go:335", after := #[{ on := 2, ground := Ground.data }], guard := none }, { dst := some 17, op := Op.call { callee := Callee.value (Operand.func 71), args := #[Operand.tmp 16], argTypes := #[22] }, type := 57, pos := "ref.go:335", after := #[{ on := 3, ground := Ground.data }, { on := 1, ground := Ground.chain }], guard := none }, { dst := some 18, op := Op.call { callee := Callee.value (Operand.func 126), args := #[Operand.tmp 14, Operand.tmp 17], argTypes := #[57, 57] }, type := 57, pos := "ref.go:335", after := #[{ on := 1, ground := Ground.data }, { on := 4, ground := Ground.data }, { on := 4, ground := Ground.chain }], guard := none }, { dst := some 6, op := Op.alloc 57, type := 0, pos := "ref.go:335", after := #[], guard := none }, { dst := none, op := Op.store 57 (Operand.tmp 6) (Operand.tmp 18), type := 0, pos := "ref.go:335", after := #[{ on := 6, ground := Ground.data }, { on := 5, ground := Ground.data }, { on := 5, ground := Ground.chain }, { on := 0, ground := Ground.phase }, { on := 1, ground := Ground.phase }, { on := 2, ground := Ground.phase }, { on := 3, ground := Ground.phase }, { on := 4, ground := Ground.phase }, { on := 5, ground := Ground.phase }, { on := 6, ground := Ground.phase }], guard := none }])
    (h1 : a0.tmps[1]? = some (.float .f64 m)) (h2 : a0.tmps[2]? = some (.pointer (some ⟨g, 0, none⟩))) (hc : ∀ w, Below W0.heap.size W0 w → w.cell? ⟨g, 0, none⟩ = some (.float .f64 lo))
    (k1 : ∀ W, Calls Tryz.prog 71 #[.float .f64 m] W fun r w' => ∃ A, r = .returned A ∧ DN w' A t1 ∧ Below W.heap.size W w')
    (k2 : ∀ W, Calls Tryz.prog 71 #[.float .f64 lo] W fun r w' => ∃ A, r = .returned A ∧ DN w' A t2 ∧ Below W.heap.size W w')
    (k3 : ∀ W A B, DN W A t1 → DN W B t2 → Calls Tryz.prog 126 #[A, B] W fun r w' => ∃ C, r = .returned C ∧ DN w' C t3 ∧ Below W.heap.size W w')
    (hin : 18 < a0.tmps.size)
    (hQ : ∀ (u : Nat → Value) (g : Nat) (w : World), Below W0.heap.size W0 w → DN w (u 5) t3 → W0.heap.size ≤ g → (∃ cs, u 5 = .agg cs ∧ w.heap[g]? = some (.cells cs 57 (0, 0))) →
      Q .normal (putL a0 ((List.range 6).map (fun j => (13 + j, u j)) ++ [(6, .pointer (some ⟨g, 0, none⟩))])) w) :
    (Code.region id ops true).wp Tryz.prog Q a0 W0 := by
  refine parz_region follows_mixed 6 1 (fun j => 13 + j) (fun _ => 6) (fun _ => 5) hfD 57 #[.bool false, .slice none 0 0, .int .i64 0] W0 a0 (hfE g lo m t1 t2 t3) (by rw [hops]; rfl) (by rw [hops]; exact ord_of (by kernel_rfl)) ?_ ?_ ?_ ?_ ?_ ?_ zero_num8 Tryz.info57 ?_ (fun j hj => by show 13 + j < _; omega) (fun k hk => Nat.lt_of_lt_of_le (by decide : 6 < 19) hin) (fun j j' hj hj' h => by have : 13 + j = 13 + j' := h; omega) (fun k k' hk hk' h => by omega) (fun j k hj hk => by show 13 + j ≠ 6; omega) ?_
  · intro j w w' u hb h
    match j, h with
    | 0, h => exact h
    | 1, h => exact DN.later h hb
    | 2, h => exact h
    | 3, h => exact h
    | 4, h => exact DN.later h hb
    | (n+5), h => exact DN.later h hb
  · intro j w u g' cs' hg h
    match j, h with
    | 0, h => exact h
    | 1, h => exact DN.row8 h hg cs'
    | 2, h => exact h
    | 3, h => exact h
    | 4, h => exact DN.row8 h hg cs'
    | (n+5), h => exact DN.row8 h hg cs'
  · intro k hk w u h
    have h : DN w u t3 := h
    obtain ⟨ao, cap, rfl, -⟩ := h
    exact ⟨_, rfl, rfl, one3 rfl rfl⟩
  · intro j hj j' hj'
    rw [hops]
    rcases lt68 hj with rfl | rfl | rfl | rfl | rfl | rfl
    · cases hj'
    · obtain rfl : j' = 0 := by simpa [hfD] using hj'
      exact ⟨by omega, fun o ho => by obtain rfl := Option.some.inj ho; exact ⟨⟨_, .data⟩, by simp, rfl, rfl⟩⟩
    · cases hj'
    · obtain rfl : j' = 2 := by simpa [hfD] using hj'
      exact ⟨by omega, fun o ho => by obtain rfl := Option.some.inj ho; exact ⟨⟨_, .data⟩, by simp, rfl, rfl⟩⟩
    · obtain rfl : j' = 3 := by simpa [hfD] using hj'
      exact ⟨by omega, fun o ho => by obtain rfl := Option.some.inj ho; exact ⟨⟨_, .data⟩, List.mem_toArray.2 (List.mem_cons_self ..), rfl, rfl⟩⟩
    · obtain rfl | rfl : j' = 1 ∨ j' = 4 := by simpa [hfD] using hj'
      · exact ⟨by omega, fun o ho => by obtain rfl := Option.some.inj ho; exact ⟨⟨1, .data⟩, by simp, rfl, rfl⟩⟩
      · exact ⟨by omega, fun o ho => by obtain rfl := Option.some.inj ho; exact ⟨⟨4, .data⟩, by simp, rfl, rfl⟩⟩
  · intro j hj a w hb hoth hdep
    have e1 : a.tmps[1]? = some (.float .f64 m) := by rw [hoth 1 (fun j hj => by show 1 ≠ 13 + j; omega) (fun k hk => by decide)]; exact h1
    have e2 : a.tmps[2]? = some (.pointer (some ⟨g, 0, none⟩)) := by rw [hoth 2 (fun j hj => by show 2 ≠ 13 + j; omega) (fun k hk => by decide)]; exact h2
    clear hoth h1 h2
    rw [hops]
    rcases lt68 hj with rfl | rfl | rfl | rfl | rfl | rfl
    · refine step_move8 rfl rfl rfl e1 ?_
      exact ⟨_, rfl, rfl, Below.refl _ _⟩
    · obtain ⟨u, hu, hv⟩ := hdep 0 (by simp [hfD])
      have hv : u = .float .f64 m := hv
      subst hv
      refine step_call rfl rfl rfl (enters Tryz.func71 (by kernel_rfl) (by kernel_rfl)) (vs := #[_]) (by simp only [List.map_toArray, List.map_cons, List.map_nil]; rw [eval_get hu]) ?_
      refine (k1 w).mono ?_
      rintro r w' ⟨A, rfl, hE, hb'⟩
      exact ⟨_, rfl, _, rfl, hE, hb'⟩
    · refine step_fieldI rfl rfl rfl (.inl rfl) e2 ?_
      exact ⟨_, rfl, rfl, Below.refl _ _⟩
    · obtain ⟨u, hu, hv⟩ := hdep 2 (by simp [hfD])
      have hv : u = .pointer (some ⟨g, 0, none⟩) := hv
      subst hv
      refine step_loadF rfl rfl rfl hu (hc w hb) ?_
      exact ⟨_, rfl, rfl, Below.refl _ _⟩
    · obtain ⟨u, hu, hv⟩ := hdep 3 (by simp [hfD])
      have hv : u = .float .f64 lo := hv
      subst hv
      refine step_call rfl rfl rfl (enters Tryz.func71 (by kernel_rfl) (by kernel_rfl)) (vs := #[_]) (by simp only [List.map_toArray, List.map_cons, List.map_nil]; rw [eval_get hu]) ?_
      refine (k2 w).mono ?_
      rintro r w' ⟨A, rfl, hE, hb'⟩
      exact ⟨_, rfl, _, rfl, hE, hb'⟩
    · obtain ⟨u, hu, hv⟩ := hdep 1 (by simp [hfD])
      obtain ⟨u', hu', hv'⟩ := hdep 4 (by simp [hfD])
      refine step_call rfl rfl rfl (enters Tryz.func126 (by kernel_rfl) (by kernel_rfl)) (vs := #[_, _]) (by simp only [List.map_toArray, List.map_cons, List.map_nil]; rw [eval_get hu, eval_get hu']) ?_
      refine (k3 w u u' hv hv').mono ?_
      rintro r w' ⟨A, rfl, hE, hb'⟩
      exact ⟨_, rfl, _, rfl, hE, hb'⟩
  · intro k hk
    obtain rfl : k = 0 := by omega
    rw [hops]
    exact ⟨_, rfl, rfl, rfl, rfl⟩
  · intro k hk
    obtain rfl : k = 0 := by omega
    rw [hops]
    exact ⟨by omega, _, rfl, rfl, rfl, rfl, ⟨⟨6, .data⟩, by simp, rfl, rfl⟩, ⟨5, .data⟩, by simp, rfl, rfl⟩
  · intro u g' a w hb hu hg hs hd hoth
    have ha : a = putL a0 ((List.range 6).map (fun j => (13 + j, u j)) ++ [(6, .pointer (some ⟨g' 0, 0, none⟩))]) := by
      refine act_putL ?_ hs hd ?_ ?_
      · simp [List.range, List.range.loop]
      · intro p hp
        rcases List.mem_append.1 hp with h | h
        · obtain ⟨j, hj, rfl⟩ := List.mem_map.1 h
          exact (hu j (List.mem_range.1 hj)).1
        · obtain rfl : p = _ := List.mem_singleton.1 h
          exact (hg 0 (by omega)).1
      · intro s hsn
        refine hoth s (fun j hj he => hsn ?_) (fun k hk he => hsn ?_)
        · rw [List.map_append]
          exact List.mem_append_left _ (List.mem_map.2 ⟨(13 + j, u j), List.mem_map.2 ⟨j, List.mem_range.2 hj, rfl⟩, he.symm⟩)
        · rw [List.map_append]
          exact List.mem_append_right _ (by simp [he])
    rw [ha]
    exact hQ u (g' 0) w hb (hu 5 (by omega)).2 (hg 0 (by omega)).2.1 (hg 0 (by omega)).2.2
end Go.Proofs.YtnalhfcpcpondaaGreatDoor
/- The document's Half. -/
namespace Go.Proofs.YtnalhfcpcpondaaGreatDoor
set_option linter.unusedVariables false
set_option linter.unusedSimpArgs false
open Go.RowKit Go.Fl64
attribute [local go_sem] run_store_flt

theorem BxD.keep8 {w3 w w' : World} {g : Nat} {s : Bool} {ao : Option Addr} {n cap : Nat} {ex : Int} {t : Bool × Nat × Int} (h : BxD w3 w g s ao n cap ex t) (hb : Below w.heap.size w w') : BxD w3 w' g s ao n cap ex t :=
  ⟨(hb.block _ (Array.getElem?_eq_some_iff.1 h.1).1).trans h.1, h.2.1, h.2.2.1.trans (hb.mono h.2.2.1.size), h.2.2.2.later hb⟩
set_option maxHeartbeats 8000000 in
set_option maxRecDepth 200000 in
theorem dhalf_1 (lo hi m : Nat) (tl th tm p q : Bool × Nat × Int) (c : Int) (w : World)
    (k1 : ∀ W, Calls Tryz.prog 71 #[.float .f64 hi] W fun r w' => ∃ A, r = .returned A ∧ DN w' A th ∧ Below W.heap.size W w')
    (k2 : ∀ W, Calls Tryz.prog 71 #[.float .f64 m] W fun r w' => ∃ A, r = .returned A ∧ DN w' A tm ∧ Below W.heap.size W w')
    (k3 : ∀ W, Calls Tryz.prog 71 #[.float .f64 lo] W fun r w' => ∃ A, r = .returned A ∧ DN w' A tl ∧ Below W.heap.size W w')
    (k4 : ∀ W A B, DN W A th → DN W B tm → Calls Tryz.prog 126 #[A, B] W fun r w' => ∃ C, r = .returned C ∧ DN w' C p ∧ Below W.heap.size W w')
    (k5 : ∀ W A B, DN W A tm → DN W B tl → Calls Tryz.prog 126 #[A, B] W fun r w' => ∃ C, r = .returned C ∧ DN w' C q ∧ Below W.heap.size W w')
    (k6 : ∀ W A B, DN W A p → DN W B q → Calls Tryz.prog 90 #[A, B] W fun r w' => r = .returned (.int .i64 c) ∧ Below W.heap.size W w') :
    Calls Tryz.prog 77 #[.agg #[.float .f64 lo, .float .f64 hi], .float .f64 m] w fun r w' => ∃ A, r = .returned A ∧ DN w' A (if c < 0 then q else p) ∧ Below w.heap.size w w' := by
  obtain ⟨W, hW⟩ : ∃ W, W = (w.alloc (.cells #[.float .f64 lo, .float .f64 hi] 24)).alloc (.cells #[.bool false, .slice none 0 0, .int .i64 0] 57) := ⟨_, rfl⟩
  obtain ⟨hA, hB, hsz, hBW⟩ := two29 _ _ hW
  have HX : Hid (Below w.heap.size w W ∧ IvB W w.heap.size lo hi ∧ W.heap[w.heap.size + 1]? = some (.cells #[.bool false, .slice none 0 0, .int .i64 0] 57 (0, 0))) := ⟨hBW, hA, hB⟩
  have HK : Hid (∀ w', Below W.heap.size W w' → IvF w' w.heap.size lo hi) := fun w' hb => HX.out.2.1.later hb
  clear hA hB hsz hBW
  have H2 : Hid (∀ W, Calls Tryz.prog 71 #[.float .f64 m] W fun r w' => ∃ A, r = .returned A ∧ DN w' A tm ∧ Below W.heap.size W w') := k2
  have H3 : Hid (∀ W, Calls Tryz.prog 71 #[.float .f64 lo] W fun r w' => ∃ A, r = .returned A ∧ DN w' A tl ∧ Below W.heap.size W w') := k3
  have H4 : Hid (∀ W A B, DN W A th → DN W B tm → Calls Tryz.prog 126 #[A, B] W fun r w' => ∃ C, r = .returned C ∧ DN w' C p ∧ Below W.heap.size W w') := k4
  have H5 : Hid (∀ W A B, DN W A tm → DN W B tl → Calls Tryz.prog 126 #[A, B] W fun r w' => ∃ C, r = .returned C ∧ DN w' C q ∧ Below W.heap.size W w') := k5
  have H6 : Hid (∀ W A B, DN W A p → DN W B q → Calls Tryz.prog 90 #[A, B] W fun r w' => r = .returned (.int .i64 c) ∧ Below W.heap.size W w') := k6
  clear k2 k3 k4 k5 k6
  obtain ⟨c0, c1, z0, z1⟩ := HK.out W (Below.refl _ _)
  go_enter Tryz.func77, Tryz.ntmps77
  go_upto_region 1 with fail
  rw [← hW]
  clear hW
  go_cut [5] from 7 to 12 (fun p0 wx => ∃ (g : Nat) (s : Bool) (ao : Option Addr) (n cap : Nat) (e : Int), p0 = .pointer (some ⟨g, 0, none⟩) ∧ Hid (BxD W wx g s ao n cap e p))
  case first =>
    have kk := k1 W
    clear k1
    go_wp2_with fail
    refine kk.mono ?_
    rintro r v1 ⟨A1, rfl, F1, q1⟩
    have B : Below W.heap.size W v1 := q1
    have kk := H2.out v1
    clear q1 c0 c1 z0 z1
    go_wp2_with fail
    refine kk.mono ?_
    rintro r v2 ⟨A2, rfl, F2, q2⟩
    have HB2 : Hid (Below W.heap.size W v2) := B.trans (q2.mono B.size)
    have kk := H4.out _ _ _ (F1.later q2) F2
    clear B q2 F1 F2
    go_wp2_with fail
    refine kk.mono ?_
    rintro r v3 ⟨A3, rfl, F3, q3⟩
    have HB3 : Hid (Below W.heap.size W v3) := HB2.out.trans (q3.mono HB2.out.size)
    clear HB2 q3 kk
    have F3' := F3
    obtain ⟨ao, cap, rfl, -⟩ := F3'
    have HF : Hid (DN v3 (.agg #[.bool p.1, .slice ao (dlen p.2.1) cap, .int .i64 p.2.2]) p) := F3
    clear F3
    go_wp2_with fail
    go_meet
    first | exact ⟨_, _, _, _, _, _, rfl, BxD.new HF.out HB3.out⟩ | exact ⟨_, _, _, _, _, _, rfl, BxD.put (HF.out.later ((Below.refl _ _).alloc (Nat.le_refl _) _)) (HB3.out.alloc HB3.out.size _) HB3.out.size (heap_alloc_new _ _)⟩ | trace_state
  case rest =>
    obtain ⟨w1, hw1⟩ : ∃ w1 : World, w1 = wc := ⟨_, rfl⟩
    subst hw1
    obtain ⟨g0, s0, ao0, n0, cap0, e0, rfl, HP⟩ := hcut
    have HW1 : Hid (Below W.heap.size W w1) := HP.out.2.2.1
    clear c0 c1 z0 z1 k1
    obtain ⟨c0, c1, z0, z1⟩ := HK.out w1 HW1.out
    go_upto_region 2 with fail
    go_cut [6] from 13 to 18 (fun p0 wx => ∃ (g : Nat) (s : Bool) (ao : Option Addr) (n cap : Nat) (e : Int), p0 = .pointer (some ⟨g, 0, none⟩) ∧ Hid (BxD w1 wx g s ao n cap e q))
    case first =>
      refine half_region w.heap.size lo m tm tl q w1 _ rfl rfl rfl (fun w' hb => (HK.out w' (HW1.out.trans (hb.mono HW1.out.size))).1) H2.out H3.out H5.out (by show 18 < 25; decide) ?_
      intro u g wx hb hD hg hcs
      obtain ⟨cs, h1, h2⟩ := hcs
      have h3 := hD
      obtain ⟨ao, cap, h4, -⟩ := h3
      have h5 : cs = #[.bool q.1, .slice ao (dlen q.2.1) cap, .int .i64 q.2.2] := by
        have := h1.symm.trans h4
        simpa using this
      rw [h5] at h2
      rw [h4] at hD
      have HF : Hid (BxD w1 wx g q.1 ao (dlen q.2.1) cap q.2.2 q) := ⟨h2, hg, hb, hD⟩
      clear h1 h2 h4 h5 hb hg hD
      simp only [putL, show List.range 6 = [0, 1, 2, 3, 4, 5] from rfl, List.map_cons, List.map_nil, List.cons_append, List.nil_append, List.foldl_cons, List.foldl_nil, Nat.reduceAdd, Act.put, List.setIfInBounds_toArray, List.set_cons_zero, List.set_cons_succ]
      go_wp2_with fail
      go_meet
      exact ⟨_, _, _, _, _, _, rfl, HF⟩
    case rest =>
      obtain ⟨w2, hw2⟩ : ∃ w2 : World, w2 = wc := ⟨_, rfl⟩
      subst hw2
      obtain ⟨g1, s1, ao1, n1, cap1, e1, rfl, HQ⟩ := hcut
      have HP2 : Hid (BxD W w2 g0 s0 ao0 n0 cap0 e0 p) := HP.out.keep8 HQ.out.2.2.1
      have HB2 : Hid (Below W.heap.size W w2) := HP2.out.2.2.1
      clear c0 c1 z0 z1 HP HW1
      obtain ⟨⟨a0, a1, a2⟩, -⟩ := box_cells29 HP2.out.1
      obtain ⟨⟨b0, b1, b2⟩, -⟩ := box_cells29 HQ.out.1
      have kk := H6.out _ _ _ HP2.out.2.2.2 HQ.out.2.2.2
      clear H2 H3 H4 H5 H6
      go_wp2_with fail
      refine kk.mono ?_
      rintro r w3 ⟨rfl, hb3⟩
      have HP3 : Hid (BxD W w3 g0 s0 ao0 n0 cap0 e0 p) := HP2.out.keep8 hb3
      have HQ3 : Hid (BxD w1 w3 g1 s1 ao1 n1 cap1 e1 q) := HQ.out.keep8 hb3
      have HB3 : Hid (Below w.heap.size w w3) := HX.out.1.trans (HP3.out.2.2.1.mono HX.out.1.size)
      have HZ : w3.heap[w.heap.size + 1]? = some (.cells #[.bool false, .slice none 0 0, .int .i64 0] 57 (0, 0)) := (HP3.out.2.2.1.block _ (Array.getElem?_eq_some_iff.1 HX.out.2.2).1).trans HX.out.2.2
      clear a0 a1 a2 b0 b1 b2 kk hb3 HP2 HQ HB2 HK
      obtain ⟨⟨a0, a1, a2⟩, -⟩ := box_cells29 HP3.out.1
      obtain ⟨⟨b0, b1, b2⟩, -⟩ := box_cells29 HQ3.out.1
      obtain ⟨⟨d0, d1, d2⟩, d3, d4, d5⟩ := box_cells29 HZ
      have HZ' : Hid (w3.heap[w.heap.size + 1]? = some (.cells #[.bool false, .slice none 0 0, .int .i64 0] 57 (0, 0))) := HZ
      clear HZ HX
      go_wp2
      · refine bodyPost_ret (results_cell_row rfl _ _ (w.heap.size + 1) 57 #[.bool s1, .slice ao1 n1 cap1, .int .i64 e1] (0, 0) _ rfl (store3_29 _ _ _ HZ'.out) Tryz.underlying57 rfl Tryz.info57) rfl ?_
        exact ⟨_, rfl, dn_store HQ3.out.2.2.2 HZ'.out _ _ _, below_store3 HB3.out (by omega) _ _ _⟩
      · refine bodyPost_ret (results_cell_row rfl _ _ (w.heap.size + 1) 57 #[.bool s0, .slice ao0 n0 cap0, .int .i64 e0] (0, 0) _ rfl (store3_29 _ _ _ HZ'.out) Tryz.underlying57 rfl Tryz.info57) rfl ?_
        exact ⟨_, rfl, dn_store HP3.out.2.2.2 HZ'.out _ _ _, below_store3 HB3.out (by omega) _ _ _⟩
end Go.Proofs.YtnalhfcpcpondaaGreatDoor
