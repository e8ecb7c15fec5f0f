/- Own work: contracts of the program's functions, part 15: SNV SNW SNX SNY SNZ SO1 SO2 SO3 SO4 SNM SO5 SO6 SO7 SO8. -/
import Derived.Test.YtcoclopllbfjcaaGreatDoorA14
import Derived.Test.YtcoclopllbfjcaaGreatDoorA9
import Derived.Test.YtcoclopllbfjcaaGreatDoorA11

/- SpanSums. -/
namespace Go.Proofs.YtcoclopllbfjcaaGreatDoor
set_option linter.unusedVariables false
set_option linter.unusedSimpArgs false
open Go.RowKit Go.Fl64
attribute [local go_sem] run_store_flt

theorem toD_nn (t : Bool × Nat × Int) {m : Int} (hm : 1 ≤ m ∧ m ≤ 3) : isNaN (toD t m) = false := by
  unfold toD
  split
  · decide
  · rw [tf_bdy hm]
    have h := bdy_le t.2.1 t.2.2 (wyN t.1 m)
    unfold isNaN
    rw [(mag_sig h).1]
    exact decide_eq_false (by omega)
theorem enF_nn (i : Int) (t : Bool × Nat × Int) {m : Int} (hm : 1 ≤ m ∧ m ≤ 3) : isNaN (enF i t m) = false := by
  unfold enF
  split
  · rw [pl_nan]; exact toD_nn t hm
  · split <;> decide
theorem fAdM_nn {a c : Nat} (ha : a < 18446744073709551616) (hc : c < 18446744073709551616) (na : isNaN a = false) (nc : isNaN c = false) (hx : ¬ (eI a = 1 ∧ eI c = -1)) (hy : ¬ (eI a = -1 ∧ eI c = 1)) {m : Int} (hm : 1 ≤ m ∧ m ≤ 3) : isNaN (fAdM a c m) = false := by
  rw [← pl_nan, ← enF_plus ha hc na nc hx hy hm]
  exact enF_nn _ _ hm
theorem fAdM_lt {a c : Nat} (ha : a < 18446744073709551616) (hc : c < 18446744073709551616) {m : Int} (hm : 1 ≤ m ∧ m ≤ 3) : fAdM a c m < 18446744073709551616 := (faddM_p a c m hm ha hc).1
/-- the lower end is never +Inf, the upper one never -Inf -/
theorem vI_ends {a b : Nat} (h : vI a b = true) : eI a ≠ 1 ∧ eI b ≠ -1 := by
  unfold vI at h
  simp only [Bool.and_eq_true] at h
  constructor
  · intro e
    have : a = 9218868437227405312 := by
      unfold eI at e
      by_cases h1 : a = 9218868437227405312
      · exact h1
      · rw [if_neg h1] at e
        split at e <;> omega
    have h2 := h.1.1.1.2
    rw [this] at h2
    revert h2
    decide
  · intro e
    have : b = 18442240474082181120 := by
      unfold eI at e
      by_cases h1 : b = 9218868437227405312
      · rw [if_pos h1] at e; omega
      · rw [if_neg h1] at e
        by_cases h2 : b = 18442240474082181120
        · exact h2
        · rw [if_neg h2] at e; omega
    have h2 := h.1.1.2
    rw [this] at h2
    revert h2
    decide
theorem tNeg_fits {t : Bool × Nat × Int} {lo hi : Int} (h : Fits lo hi t.2.1 t.2.2) : Fits lo hi (tNeg t).2.1 (tNeg t).2.2 := by
  unfold tNeg
  split
  · exact .inl rfl
  · exact h
theorem sadded (a b c d : Nat) (w : World) (ha : a < 18446744073709551616) (hb : b < 18446744073709551616) (hc : c < 18446744073709551616) (hd : d < 18446744073709551616) (hT : Tab32 w) (hJ : Ie.Tab w) (n1 : isNaN (fAdM a c 1) = false) (n2 : isNaN (fAdM b d 3) = false) :
    Calls Tryz.prog 61 #[.agg #[.float .f64 a, .float .f64 b], .agg #[.float .f64 c, .float .f64 d]] w fun r w' => r = .returned (.agg #[.float .f64 (pl (fAdM a c 1)), .float .f64 (pl (fAdM b d 3))]) ∧ Below w.heap.size w w' := by
  refine sadded_1 a b c d (fAdM a c 1) (fAdM b d 3) _ _ w (fun W h => ?_) (fun W h => ?_) (fun W h => sbetween _ _ W (fAdM_lt ha hc (by omega)) (fAdM_lt hb hd (by omega)))
  · refine (faddM a c 1 (by omega) ha hc W (hT.later h) (Tab.later hJ h)).mono ?_
    rintro r w' ⟨n, rfl, hl, hb'⟩
    rw [hl.eq n1]
    exact ⟨rfl, hb'⟩
  · refine (faddM b d 3 (by omega) hb hd W (hT.later h) (Tab.later hJ h)).mono ?_
    rintro r w' ⟨n, rfl, hl, hb'⟩
    rw [hl.eq n2]
    exact ⟨rfl, hb'⟩
theorem sadd (a b c d : Nat) (w : World) (ha : a < 18446744073709551616) (hb : b < 18446744073709551616) (hc : c < 18446744073709551616) (hd : d < 18446744073709551616) (hT : Tab32 w) (hJ : Ie.Tab w) :
    Calls Tryz.prog 20 #[.agg #[.float .f64 a, .float .f64 b], .agg #[.float .f64 c, .float .f64 d]] w fun r w' => r = .returned (orV (vI a b && vI c d) (pl (fAdM a c 1)) (pl (fAdM b d 3)) (.int .i64 0) (.int .i64 1)) ∧ Below w.heap.size w w' := by
  refine sadd_1 a b c d _ _ _ w (fun W g T h => smaybe h ha hb hc hd) (fun hv W h => ?_)
  rw [Bool.and_eq_true] at hv
  obtain ⟨x1, x2⟩ := vI_ends hv.1
  obtain ⟨y1, y2⟩ := vI_ends hv.2
  exact sadded a b c d W ha hb hc hd (hT.later h) (Tab.later hJ h) (fAdM_nn ha hc (vI_nn hv.1).1 (vI_nn hv.2).1 (fun e => x1 e.1) (fun e => y1 e.2) (by omega)) (fAdM_nn hb hd (vI_nn hv.1).2 (vI_nn hv.2).2 (fun e => y2 e.2) (fun e => x2 e.1) (by omega))
theorem ssub (a b c d : Nat) (w : World) (ha : a < 18446744073709551616) (hb : b < 18446744073709551616) (hc : c < 18446744073709551616) (hd : d < 18446744073709551616) (hT : Tab32 w) (hJ : Ie.Tab w) :
    Calls Tryz.prog 24 #[.agg #[.float .f64 a, .float .f64 b], .agg #[.float .f64 c, .float .f64 d]] w fun r w' => r = .returned (orV (vI a b && vI c d) (pl (fAdM a (pl (ngt d)) 1)) (pl (fAdM b (pl (ngt c)) 3)) (.int .i64 0) (.int .i64 1)) ∧ Below w.heap.size w w' := by
  refine ssub_1 a b c d (pl (ngt d)) (pl (ngt c)) _ _ _ w (fun W g T h => smaybe h ha hb hc hd) (fun _ W h => sturned c d W hc hd) (fun hv W h => ?_)
  rw [Bool.and_eq_true] at hv
  obtain ⟨x1, x2⟩ := vI_ends hv.1
  obtain ⟨y1, y2⟩ := vI_ends hv.2
  have e1 : eI (pl (ngt d)) = -eI d := by rw [eI_pl, eI_ngt hd]
  have e2 : eI (pl (ngt c)) = -eI c := by rw [eI_pl, eI_ngt hc]
  exact sadded a b (pl (ngt d)) (pl (ngt c)) W ha hb (pl_lt (ngt_lt hd)) (pl_lt (ngt_lt hc)) (hT.later h) (Tab.later hJ h) (fAdM_nn ha (pl_lt (ngt_lt hd)) (vI_nn hv.1).1 (by rw [pl_nan, ngt_nan8 hd]; exact (vI_nn hv.2).2) (fun e => x1 e.1) (fun e => by rw [e1] at e; exact y2 (by omega)) (by omega)) (fAdM_nn hb (pl_lt (ngt_lt hc)) (vI_nn hv.1).2 (by rw [pl_nan, ngt_nan8 hc]; exact (vI_nn hv.2).1) (fun e => by rw [e2] at e; exact y1 (by omega)) (fun e => x2 e.1) (by omega))
/-- the magnitudes -/
def mgX (a b : Nat) : Nat := if le 0 a then a else if le b 0 then pl (ngt b) else 0
def mgY (a b : Nat) : Nat := if le 0 a then b else if le b 0 then pl (ngt a) else fMax (ngt a) b
theorem smag (a b : Nat) (w : World) (ha : a < 18446744073709551616) (hb : b < 18446744073709551616) (na : isNaN a = false) (nb : isNaN b = false) :
    Calls Tryz.prog 53 #[.agg #[.float .f64 a, .float .f64 b]] w fun r w' => r = .returned (.agg #[.float .f64 (mgX a b), .float .f64 (mgY a b)]) ∧ Below w.heap.size w w' := by
  have k := smag_1 a b (pl (ngt b)) (pl (ngt a)) (fMax (ngt a) b) (le 0 a) (le b 0) w (ord_ge a 0 ha (by omega)) (ord_le b 0 hb (by omega)) (fun w => by rw [← negF a ha]; rfl) (fun _ _ W ts t => run_fmax W ts t _ _ (ngt_lt ha) hb (by rw [ngt_nan8 ha]; exact na) nb) (fun W => sturned a b W ha hb)
  unfold mgX mgY
  cases h1 : le 0 a
  · cases h2 : le b 0
    · rw [h1, h2] at k; exact k
    · rw [h1, h2] at k; exact k
  · rw [h1] at k; exact k
end Go.Proofs.YtcoclopllbfjcaaGreatDoor
/- The document's Mid. -/
namespace Go.Proofs.YtcoclopllbfjcaaGreatDoor
set_option linter.unusedVariables false
set_option linter.unusedSimpArgs false
open Go.RowKit Go.Fl64
attribute [local go_sem] run_store_flt

end Go.Proofs.YtcoclopllbfjcaaGreatDoor
/- The document's Half, its second region. -/
namespace Go.Proofs.YtcoclopllbfjcaaGreatDoor
set_option linter.unusedVariables false
set_option linter.unusedSimpArgs false
open Go.RowKit Go.Fl64
attribute [local go_sem] run_store_flt

def tD8 (t1 t2 : Bool × Nat × Int) : Bool × Nat × Int := cn (sumN t1.1 t1.2.1 t1.2.2 (!t2.1 && decide (0 < dlen t2.2.1)) t2.2.1 t2.2.2).1 (sumN t1.1 t1.2.1 t1.2.2 (!t2.1 && decide (0 < dlen t2.2.1)) t2.2.1 t2.2.2).2.1 (sumN t1.1 t1.2.1 t1.2.2 (!t2.1 && decide (0 < dlen t2.2.1)) t2.2.1 t2.2.2).2.2
theorem arg_noughtD8 (w : World) : Arg w none (dlen 0) 0 0 := by rw [dlen_zero]; exact ⟨fun _ => .inr ⟨rfl, rfl⟩, ⟨0, 0, fun h => absurd h (by omega), fun i hi => absurd hi (by omega)⟩, Nat.le_refl _, by omega⟩
theorem less8_dn {t1 t2 : Bool × Nat × Int} {X Y : Value} {w : World} (o1 : Ok t1) (o2 : Ok t2) (h1 : DN w X t1) (h2 : DN w Y t2) : Calls Tryz.prog 27 #[X, Y] w fun r w' => ∃ A, r = .returned A ∧ DN w' A (tD8 t1 t2) ∧ Below w.heap.size w w' := by
  obtain ⟨ao, cap, rfl, a1⟩ := h1
  obtain ⟨ao', cap', rfl, a2⟩ := h2
  obtain ⟨f1, f2, f3, -, -⟩ := o1.facts
  obtain ⟨g1, g2, g3, g4, -⟩ := o2.facts
  unfold tD8
  by_cases h0 : t2.2.1 = 0
  · have e2 := g4 h0
    have e3 : t2.1 = false := by rw [e2]
    have e4 : t2.2.2 = 0 := by rw [e2]
    rw [h0, e3, e4, dlen_zero]
    refine (rlessN_1 t1.1 false ao ao' (dlen t1.2.1) cap 0 cap' t1.2.2 0 false none 0 0 0 _ _ _ w (fun W => rminus_0 false ao' cap' 0 W) (fun W hW => ?_)).mono fun r w' ⟨A, e, h, hb⟩ => ⟨A, e, h.dn, hb⟩
    have k := rplusG (nb := false) (y := 0) (eb := 0) (a1.later hW) (arg_noughtD8 W) (cn_ok o1) rfl (by omega) (by omega) (by omega) (by omega) (by omega) (by rw [dlen_zero]; omega)
    rw [dlen_zero] at k
    exact k
  · have hl : 0 < dlen t2.2.1 := by have := dlen_pos h0; omega
    rw [decide_eq_true hl, Bool.and_true]
    have ho : cn (!t2.1) t2.2.1 t2.2.2 = (!t2.1, t2.2.1, t2.2.2) := by
      have := cn_ok o2
      unfold cn at this ⊢
      rw [if_neg h0] at this ⊢
      rw [Prod.ext_iff] at this
      exact Prod.ext rfl this.2
    exact (rlessN_1 t1.1 t2.1 ao ao' (dlen t1.2.1) cap (dlen t2.2.1) cap' t1.2.2 t2.2.2 (!t2.1) ao' (dlen t2.2.1) cap' t2.2.2 _ _ _ w (fun W => rminus_1 t2.1 ao' (dlen t2.2.1) cap' t2.2.2 W (by omega) (by rw [beq_eq_false_iff_ne]; omega)) (fun W hW => rplusG (a1.later hW) (a2.later hW) (cn_ok o1) ho (by omega) (by omega) (by omega) (by omega) (by omega) (by omega))).mono fun r w' ⟨A, e, h, hb⟩ => ⟨A, e, h.dn, hb⟩
theorem tD8_eq {t u : Bool × Nat × Int} (o : Ok u) : tD8 t u = tS t (tNeg u) := by
  obtain ⟨-, -, -, g4, -⟩ := o.facts
  unfold tD8 tS tNeg
  by_cases h0 : u.2.1 = 0
  · rw [if_pos h0, g4 h0, dlen_zero]
    rfl
  · have hl : 0 < dlen u.2.1 := by have := dlen_pos h0; omega
    rw [if_neg h0, decide_eq_true hl, Bool.and_true]

end Go.Proofs.YtcoclopllbfjcaaGreatDoor
/- The document's Half. -/
namespace Go.Proofs.YtcoclopllbfjcaaGreatDoor
set_option linter.unusedVariables false
set_option linter.unusedSimpArgs false
open Go.RowKit Go.Fl64
attribute [local go_sem] run_store_flt

end Go.Proofs.YtcoclopllbfjcaaGreatDoor
/- The document's Rad. -/
namespace Go.Proofs.YtcoclopllbfjcaaGreatDoor
set_option linter.unusedVariables false
set_option linter.unusedSimpArgs false
open Go.RowKit Go.Fl64
attribute [local go_sem] run_store_flt

end Go.Proofs.YtcoclopllbfjcaaGreatDoor
/- Middles in numbers. -/
namespace Go.Proofs.YtcoclopllbfjcaaGreatDoor
set_option linter.unusedVariables false
set_option linter.unusedSimpArgs false
open Go.RowKit Go.Fl64
attribute [local go_sem] run_store_flt

/-- the value of a number -/
def V8 (t : Bool × Nat × Int) : Int := vz 5000000 t.1 t.2.1 t.2.2
def E8 (t : Bool × Nat × Int) : Prop := Fits (-1074) 1025 t.2.1 t.2.2 ∧ 0 ≤ t.2.2 + (5000000 : Nat) ∧ Ok t
theorem Ok.e8 {t : Bool × Nat × Int} (h : Ok t) : 0 ≤ t.2.2 + (5000000 : Nat) := by
  have := h.facts
  omega
theorem toD_tf {t : Bool × Nat × Int} (h : Ok t) {m : Int} (hm : 1 ≤ m ∧ m ≤ 3) : toD t m = tfF t.1 true t.2.1 t.2.2 m := by
  unfold toD
  by_cases h0 : t.2.1 = 0
  · rw [if_pos h0, h.facts.2.2.2.1 h0]
    rcases (show m = 1 ∨ m = 2 ∨ m = 3 by omega) with rfl | rfl | rfl <;> decide +kernel
  · rw [if_neg h0]
end Go.Proofs.YtcoclopllbfjcaaGreatDoor
/- Middles joined. -/
namespace Go.Proofs.YtcoclopllbfjcaaGreatDoor
set_option linter.unusedVariables false
set_option linter.unusedSimpArgs false
open Go.RowKit Go.Fl64
attribute [local go_sem] run_store_flt

end Go.Proofs.YtcoclopllbfjcaaGreatDoor
/- SpanMiddles. -/
namespace Go.Proofs.YtcoclopllbfjcaaGreatDoor
set_option linter.unusedVariables false
set_option linter.unusedSimpArgs false
open Go.RowKit Go.Fl64
attribute [local go_sem] run_store_flt

end Go.Proofs.YtcoclopllbfjcaaGreatDoor
/- The document's ends multiplied. -/
namespace Go.Proofs.YtcoclopllbfjcaaGreatDoor
set_option linter.unusedVariables false
set_option linter.unusedSimpArgs false
open Go.RowKit Go.Fl64
attribute [local go_sem] run_store_flt

/-- two ends multiplied -/
def tmI (i j : Int) (t u : Bool × Nat × Int) : Int := if sgE i t = 0 ∨ sgE j u = 0 then 0 else if i ≠ 0 ∨ j ≠ 0 then sgE i t * sgE j u else 0
def tmT (i j : Int) (t u : Bool × Nat × Int) : Bool × Nat × Int := if sgE i t = 0 ∨ sgE j u = 0 then (false, 0, 0) else if i ≠ 0 ∨ j ≠ 0 then (false, 0, 0) else tM t u
end Go.Proofs.YtcoclopllbfjcaaGreatDoor
/- SpanMakes. -/
namespace Go.Proofs.YtcoclopllbfjcaaGreatDoor
set_option linter.unusedVariables false
set_option linter.unusedSimpArgs false
open Go.RowKit Go.Fl64
attribute [local go_sem] run_store_flt

/-- the interval of two floats, or an error -/
def ofV (n v : Bool) (x y : Nat) : Value := if n then .tuple #[.agg #[.float .f64 0, .float .f64 0], .int .i64 4] else if v then .tuple #[.agg #[.float .f64 x, .float .f64 y], .int .i64 0] else .tuple #[.agg #[.float .f64 0, .float .f64 0], .int .i64 1]
set_option maxHeartbeats 4000000 in
theorem sof_n (lo hi x y : Nat) (n p v : Bool) (w : World) (o1 : (FloatKind.f64.format.order lo lo != some Ordering.eq) = n) (o2 : (FloatKind.f64.format.order hi hi != some Ordering.eq) = p) (hnp : (n || p) = true) :
    Calls Tryz.prog 22 #[.float .f64 lo, .float .f64 hi] w fun r w' => r = .returned (ofV (n || p) v x y) ∧ Below w.heap.size w w' := by
  rw [hnp]
  cases n
  · cases p
    · cases hnp
    · go_enter Tryz.func22, Tryz.ntmps22
      go_wp2
      refine bodyPost_ret (results_cell_tmp_row rfl _ _ (w.heap.size) 24 #[.float .f64 0, .float .f64 0] (0, 0) _ rfl (heap_alloc_new _ _) Tryz.underlying24 rfl iv_info) rfl ?_
      exact ⟨rfl, (Below.refl _ _).alloc (Nat.le_refl _) _⟩
  · go_enter Tryz.func22, Tryz.ntmps22
    go_wp2
    refine bodyPost_ret (results_cell_tmp_row rfl _ _ (w.heap.size) 24 #[.float .f64 0, .float .f64 0] (0, 0) _ rfl (heap_alloc_new _ _) Tryz.underlying24 rfl iv_info) rfl ?_
    exact ⟨rfl, (Below.refl _ _).alloc (Nat.le_refl _) _⟩
set_option maxHeartbeats 4000000 in
theorem sof_1 (lo hi x y : Nat) (v : Bool) (w : World) (o1 : (FloatKind.f64.format.order lo lo != some Ordering.eq) = false) (o2 : (FloatKind.f64.format.order hi hi != some Ordering.eq) = false)
    (k1 : ∀ W, Calls Tryz.prog 54 #[.float .f64 lo, .float .f64 hi] W fun r w' => r = .returned (.agg #[.float .f64 x, .float .f64 y]) ∧ Below W.heap.size W w')
    (k2 : ∀ W, Calls Tryz.prog 52 #[.agg #[.float .f64 x, .float .f64 y]] W fun r w' => r = .returned (.bool v) ∧ Below W.heap.size W w') :
    Calls Tryz.prog 22 #[.float .f64 lo, .float .f64 hi] w fun r w' => r = .returned (ofV false v x y) ∧ Below w.heap.size w w' := by
  obtain ⟨W, hW⟩ : ∃ W, W = w.alloc (.cells #[.float .f64 0, .float .f64 0] 24) := ⟨_, rfl⟩
  have HX : Hid (Below w.heap.size w W ∧ IvB W w.heap.size 0 0) := by rw [hW]; exact ⟨bxs1_0 w 0 0, bxs1_1 w 0 0⟩
  have kk := k1 W
  have H2 : Hid (∀ W, Calls Tryz.prog 52 #[.agg #[.float .f64 x, .float .f64 y]] W fun r w' => r = .returned (.bool v) ∧ Below W.heap.size W w') := k2
  clear k1 k2
  go_enter Tryz.func22, Tryz.ntmps22
  go_upto_region 1 with fail
  rw [← hW]
  clear hW
  go_wp2_with fail
  refine kk.mono ?_
  rintro r w1 ⟨rfl, hb1⟩
  obtain ⟨V, hV⟩ : ∃ V, V = w1.alloc (.cells #[.float .f64 x, .float .f64 y] 24) := ⟨_, rfl⟩
  have hbV : Below W.heap.size W V := by rw [hV]; exact hb1.alloc hb1.size _
  have XV : Hid (IvB V w1.heap.size x y) := by rw [hV]; exact IvB.new _ _ _
  have HBV : Hid (Below W.heap.size W V) := hbV
  have kk2 := H2.out V
  obtain ⟨c0, c1, z0, z1⟩ := XV.out.facts
  rw [hV] at c0 c1
  clear kk hb1 hbV H2
  go_wp2_with fail
  rw [← hV]
  clear hV c0 c1 z0 z1
  generalize w1.heap.size = g at *
  refine kk2.mono ?_
  rintro r w2 ⟨rfl, hb2⟩
  obtain ⟨c0, c1, z0, z1⟩ := XV.out.later hb2
  have hb3 : Below W.heap.size W w2 := HBV.out.trans (hb2.mono HBV.out.size)
  obtain ⟨d0, d1, y0, y1⟩ := HX.out.2.later hb3
  have HR : Hid (IvB w2 w.heap.size 0 0) := HX.out.2.box hb3
  have HB : Hid (Below w.heap.size w w2) := HX.out.1.trans (hb3.mono HX.out.1.size)
  clear kk2 hb2 hb3 HBV HX XV
  cases v
  · go_wp2
    refine bodyPost_ret (results_cell_tmp_row rfl _ _ (w.heap.size) 24 #[.float .f64 0, .float .f64 0] (0, 0) _ rfl (HR.out.set _ _) Tryz.underlying24 rfl iv_info) rfl ?_
    exact ⟨rfl, below_store2 HB.out (by omega) _ _⟩
  · go_wp2
    refine bodyPost_ret (results_cell_tmp_row rfl _ _ (w.heap.size) 24 #[.float .f64 x, .float .f64 y] (0, 0) _ rfl (HR.out.set _ _) Tryz.underlying24 rfl iv_info) rfl ?_
    exact ⟨rfl, below_store2 HB.out (by omega) _ _⟩
theorem sof (lo hi : Nat) (h1 : lo < 18446744073709551616) (h2 : hi < 18446744073709551616) (w : World) :
    Calls Tryz.prog 22 #[.float .f64 lo, .float .f64 hi] w fun r w' => r = .returned (ofV (isNaN lo || isNaN hi) (vI (pl lo) (pl hi)) (pl lo) (pl hi)) ∧ Below w.heap.size w w' := by
  have o1 := self_ne lo h1
  have o2 := self_ne hi h2
  cases hn : isNaN lo || isNaN hi
  · rw [Bool.or_eq_false_iff] at hn
    rw [hn.1] at o1
    rw [hn.2] at o2
    exact sof_1 lo hi _ _ _ w o1 o2 (fun W => sbetween lo hi W h1 h2) (fun W => svalid _ _ (pl_lt h1) (pl_lt h2) W)
  · have k := sof_n lo hi (pl lo) (pl hi) _ _ (vI (pl lo) (pl hi)) w o1 o2 hn
    rw [hn] at k
    exact k
end Go.Proofs.YtcoclopllbfjcaaGreatDoor
/- The least and the greatest of ends. -/
namespace Go.Proofs.YtcoclopllbfjcaaGreatDoor
set_option linter.unusedVariables false
set_option linter.unusedSimpArgs false
open Go.RowKit Go.Fl64
attribute [local go_sem] run_store_flt

theorem EnB.other {W : World} {g h : Nat} {a b c d : Value} (hE : EnB W g a b c d) (hn : g ≠ h) (a' b' c' d' : Value) : EnB ((((W.setCell ⟨h, 0, none⟩ a').setCell ⟨h, 1, none⟩ b').setCell ⟨h, 2, none⟩ c').setCell ⟨h, 3, none⟩ d') g a b c d := by
  unfold EnB at *
  simp [World.setCell, Array.getElem?_modify, hE, Ne.symm hn]
end Go.Proofs.YtcoclopllbfjcaaGreatDoor
/- The document's Mul. -/
namespace Go.Proofs.YtcoclopllbfjcaaGreatDoor
set_option linter.unusedVariables false
set_option linter.unusedSimpArgs false
open Go.RowKit Go.Fl64
attribute [local go_sem] run_store_flt

theorem lt48 {k : Nat} (h : k < 4) : k = 0 ∨ k = 1 ∨ k = 2 ∨ k = 3 := by omega
end Go.Proofs.YtcoclopllbfjcaaGreatDoor
/- Products of ends in numbers. -/
namespace Go.Proofs.YtcoclopllbfjcaaGreatDoor
set_option linter.unusedVariables false
set_option linter.unusedSimpArgs false
open Go.RowKit Go.Fl64
attribute [local go_sem] run_store_flt

theorem mag_le8 {x : Nat} (nx : isNaN x = false) : mag x ≤ 9218868437227405312 := by
  have n' : ¬ 9218868437227405312 < mag x := of_decide_eq_false nx
  omega
theorem sgn8 {x : Nat} (hx : x < 18446744073709551616) (nx : isNaN x = false) : sgE (eI x) (eT x) = if mag x = 0 then 0 else if neg x then -1 else 1 := by
  rcases inf_or hx nx with ⟨f, e, t⟩ | ⟨rfl, e⟩ | ⟨rfl, e⟩
  · rw [e, t]
    unfold sgE
    rw [if_pos rfl]
    by_cases h0 : mag x = 0
    · rw [if_pos h0, tF_zero8 h0]; rfl
    · have k := tF_val8 f h0
      have h1 : (tF x).2.1 ≠ 0 := by
        intro h
        rw [h, Nat.zero_mul] at k
        have := (val_eq_zero (mag x)).1 k.2.1
        exact h0 this
      rw [if_neg h0, if_neg h1, k.1]
  · rw [e]; decide
  · rw [e]; decide
theorem fin_iff8 {x : Nat} (hx : x < 18446744073709551616) (nx : isNaN x = false) : eI x = 0 ↔ mag x < 9218868437227405312 := eI_zero_fin hx nx
theorem onF_nn {x : Nat} (h : isNaN x = false) : onF x = x := by unfold onF; rw [h]; rfl
theorem mul_zero8 {x y : Nat} (hx : x < 18446744073709551616) (hy : y < 18446744073709551616) (nx : isNaN x = false) (ny : isNaN y = false) {m : Int} (hm : 1 ≤ m ∧ m ≤ 3) (h : mag x = 0 ∨ mag y = 0) : pl (onF (fMul x y m)) = 0 := by
  have hM : isM m = true := by unfold isM; rcases (show m = 1 ∨ m = 2 ∨ m = 3 by omega) with rfl | rfl | rfl <;> rfl
  have hp : pln x = false ∨ pln y = false := by
    unfold pln
    rcases h with h | h
    · left; rw [h]; rfl
    · right; rw [h]; rfl
  unfold fMul
  rw [hM, if_neg (by simp), if_pos hp]
  unfold mulX
  rw [nx, ny, if_neg (by simp)]
  split
  · first | decide | (rw [if_pos h]; decide)
  · cases (neg x != neg y) <;> decide
theorem enF_times {x y : Nat} (hx : x < 18446744073709551616) (hy : y < 18446744073709551616) (nx : isNaN x = false) (ny : isNaN y = false) {m : Int} (hm : 1 ≤ m ∧ m ≤ 3) : enF (tmI (eI x) (eI y) (eT x) (eT y)) (tmT (eI x) (eI y) (eT x) (eT y)) m = pl (onF (fMul x y m)) := by
  have hM : isM m = true := by unfold isM; rcases (show m = 1 ∨ m = 2 ∨ m = 3 by omega) with rfl | rfl | rfl <;> rfl
  have sx := sgn8 hx nx
  have sy := sgn8 hy ny
  unfold tmI tmT
  by_cases h0 : mag x = 0 ∨ mag y = 0
  · have hz : sgE (eI x) (eT x) = 0 ∨ sgE (eI y) (eT y) = 0 := by
      rw [sx, sy]
      rcases h0 with h | h
      · left; rw [if_pos h]
      · right; rw [if_pos h]
    rw [if_pos hz, if_pos hz, enF_0, mul_zero8 hx hy nx ny hm h0]
  have x0 : mag x ≠ 0 := by omega
  have y0 : mag y ≠ 0 := by omega
  rw [if_neg x0] at sx
  rw [if_neg y0] at sy
  have hz : ¬ (sgE (eI x) (eT x) = 0 ∨ sgE (eI y) (eT y) = 0) := by
    rw [sx, sy]
    cases neg x <;> cases neg y <;> simp
  rw [if_neg hz, if_neg hz]
  have ex := fin_iff8 hx nx
  have ey := fin_iff8 hy ny
  have mx := mag_le8 nx
  have my := mag_le8 ny
  by_cases hi : eI x ≠ 0 ∨ eI y ≠ 0
  · rw [if_pos hi, if_pos hi]
    have hin : mag x = 9218868437227405312 ∨ mag y = 9218868437227405312 := by
      rcases hi with h | h
      · left; have : ¬ mag x < 9218868437227405312 := fun h' => h (ex.2 h'); omega
      · right; have : ¬ mag y < 9218868437227405312 := fun h' => h (ey.2 h'); omega
    have hp : pln x = false ∨ pln y = false := by
      unfold pln
      rcases hin with h | h
      · left; rw [h]; rfl
      · right; rw [h]; rfl
    unfold fMul
    rw [hM, if_neg (by simp), if_pos hp]
    unfold mulX
    rw [nx, ny, if_neg (by simp), if_pos hin, if_neg h0, sx, sy]
    unfold enF
    generalize pl (toD (false, 0, 0) m) = q
    cases neg x <;> cases neg y <;> rfl
  · rw [if_neg hi, if_neg hi]
    have x1 : eI x = 0 := by omega
    have y1 : eI y = 0 := by omega
    have tx : eT x = tF x := by unfold eT; rw [if_pos x1]
    have ty : eT y = tF y := by unfold eT; rw [if_pos y1]
    have px : pln x = true := by unfold pln; rw [decide_eq_true (ex.1 x1), decide_eq_true x0]; rfl
    have py : pln y = true := by unfold pln; rw [decide_eq_true (ey.1 y1), decide_eq_true y0]; rfl
    have o : Ok (tM (tF x) (tF y)) := tM_ok (tM_okR x y)
    have e : fMul x y m = toD (tM (tF x) (tF y)) m := by
      unfold fMul
      rw [hM, if_neg (by simp), if_neg (by rw [px, py]; simp), toD_tf o hm]
    have k := enF_nn 0 (tM (tF x) (tF y)) hm
    have e2 : enF 0 (tM (tF x) (tF y)) m = pl (toD (tM (tF x) (tF y)) m) := by unfold enF; rw [if_pos rfl]
    rw [e2, pl_nan] at k
    rw [tx, ty, e2, e, onF_nn k]
end Go.Proofs.YtcoclopllbfjcaaGreatDoor
/- Mul joined. -/
namespace Go.Proofs.YtcoclopllbfjcaaGreatDoor
set_option linter.unusedVariables false
set_option linter.unusedSimpArgs false
open Go.RowKit Go.Fl64
attribute [local go_sem] run_store_flt

theorem pl_nZ (x : Nat) : pl x ≠ 9223372036854775808 := by
  unfold pl
  split
  · decide
  · assumption
end Go.Proofs.YtcoclopllbfjcaaGreatDoor
