/- Own work: contracts of the program's functions, part 9: SN6 SN7 SN8 SN9 SNB. -/
import Derived.Test.YtnalhfcpcpondaaGreatDoorA8

/- math.Max and math.Min, of floats that are no NaN. -/
namespace Go.Proofs.YtnalhfcpcpondaaGreatDoor
set_option linter.unusedVariables false
set_option linter.unusedSimpArgs false
open Go.RowKit Go.Fl64

/-- what a float that is no NaN reads as -/
theorem rd (x : Nat) (hx : x < 18446744073709551616) (nx : isNaN x = false) :
    (mag x = 9218868437227405312 ∧ FloatKind.f64.decode x = .infinity (neg x)) ∨ (mag x < 9218868437227405312 ∧ (FloatKind.f64.decode x).isInfinity = false ∧ (FloatKind.f64.decode x).isNaN = false ∧ (FloatKind.f64.decode x).neg = neg x ∧ (FloatKind.f64.decode x).isZero = decide (mag x = 0)) := by
  unfold FloatKind.decode
  rw [f64]
  have n' : ¬ 9218868437227405312 < mag x := of_decide_eq_false nx
  by_cases f : mag x < 9218868437227405312
  · obtain ⟨m, k, e, h⟩ := read_number x hx f
    refine .inr ⟨f, ?_⟩
    rw [e]
    refine ⟨rfl, rfl, rfl, ?_⟩
    have h2 : m = 0 ↔ mag x = 0 := by
      rw [← val_eq_zero (mag x), ← h]
      constructor
      · rintro rfl; simp
      · intro h3
        rcases Nat.mul_eq_zero.1 h3 with h4 | h4
        · exact h4
        · have := Nat.two_pow_pos k; omega
    rw [← decide_eq_decide.2 h2]
    cases m with
    | zero => rfl
    | succ n => simp [Ieee.Datum.isZero]
  · exact .inl ⟨by omega, read_infinity x hx (by omega)⟩
theorem inf_beq (s t : Bool) : ((Ieee.Datum.infinity s) == .infinity t) = (s == t) := by cases s <;> cases t <;> rfl
theorem not_inf {d : Ieee.Datum} (s : Bool) (h : d.isInfinity = false) : (d == .infinity s) = false := by
  cases d with
  | number _ _ _ => rfl
  | infinity t => simp [Ieee.Datum.isInfinity] at h
  | nan _ _ => rfl
theorem rd_inf (x : Nat) (s : Bool) (hx : x < 18446744073709551616) (nx : isNaN x = false) : (FloatKind.f64.decode x == .infinity s) = decide (stp x = if s then -9218868437227405312 else 9218868437227405312) := by
  rcases rd x hx nx with ⟨mx, dx⟩ | ⟨mx, x1, x2, x3, x4⟩
  · rw [dx, inf_beq]
    unfold stp sgn
    rw [mx]
    cases neg x <;> cases s <;> rfl
  · rw [not_inf s x1]
    symm
    apply decide_eq_false
    unfold stp sgn
    cases neg x <;> cases s <;> simp <;> omega
theorem rd_nan (x : Nat) (hx : x < 18446744073709551616) (nx : isNaN x = false) : (FloatKind.f64.decode x).isNaN = false := by
  rcases rd x hx nx with ⟨mx, dx⟩ | ⟨mx, x1, x2, x3, x4⟩
  · rw [dx]; rfl
  · exact x2
theorem rd_zero (x : Nat) (hx : x < 18446744073709551616) (nx : isNaN x = false) : (FloatKind.f64.decode x).isZero = decide (stp x = 0) := by
  rcases rd x hx nx with ⟨mx, dx⟩ | ⟨mx, x1, x2, x3, x4⟩
  · rw [dx]
    symm
    apply decide_eq_false
    unfold stp sgn
    rw [mx]
    cases neg x <;> simp
  · rw [x4]
    apply decide_eq_decide.2
    unfold stp sgn
    split <;> omega
theorem stp_eq {x y : Nat} (hx : x < 18446744073709551616) (hy : y < 18446744073709551616) (h : stp x = stp y) (h0 : stp x ≠ 0) : x = y :=
  stp_inj hx hy h (fun e => h0 (by rw [e]; decide)) (fun e => h0 (by rw [h, e]; decide))
theorem gt_cmp (x y : Int) : (some (compare x y) == some Ordering.gt) = decide (y < x) := by
  rcases Int.lt_trichotomy x y with h | h | h
  · rw [Fl64.cmp_lt h, decide_eq_false (by omega)]; rfl
  · rw [Fl64.cmp_eq h, decide_eq_false (by omega)]; rfl
  · rw [Fl64.cmp_gt h, decide_eq_true h]; rfl
theorem lt_cmp (x y : Int) : (some (compare x y) == some Ordering.lt) = decide (x < y) := by
  rcases Int.lt_trichotomy x y with h | h | h
  · rw [Fl64.cmp_lt h, decide_eq_true h]; rfl
  · rw [Fl64.cmp_eq h, decide_eq_false (by omega)]; rfl
  · rw [Fl64.cmp_gt h, decide_eq_false (by omega)]; rfl
theorem pick_max (s : String) (x y : Nat) (hx : x < 18446744073709551616) (hy : y < 18446744073709551616) (nx : isNaN x = false) (ny : isNaN y = false) :
    Extern.MathDim.pick s false .gt #[.float .f64 x, .float .f64 y] = pure (.float .f64 (fMax x y)) := by
  have ho : (FloatKind.f64.decode x).order (FloatKind.f64.decode y) = some (compare (stp x) (stp y)) := order_num x y hx hy nx ny
  have sx := nan_stp nx
  have sy := nan_stp ny
  have e0 : FloatKind.f64.encode (.infinity false) = 9218868437227405312 := by decide
  have e1 : stp 9218868437227405312 = 9218868437227405312 := by decide
  have e2 : 9218868437227405312 < 18446744073709551616 := by omega
  show (pure (Value.float .f64 (if FloatKind.f64.decode x == .infinity false || FloatKind.f64.decode y == .infinity false then FloatKind.f64.encode (.infinity false) else if (FloatKind.f64.decode x).isNaN || (FloatKind.f64.decode y).isNaN then 0x7FF8000000000001 else if (FloatKind.f64.decode x).isZero && (FloatKind.f64.decode y).isZero then (if (FloatKind.f64.decode x).neg == false then x else y) else if (FloatKind.f64.decode x).order (FloatKind.f64.decode y) == some .gt then x else y)) : Sem Value) = _
  congr 2
  rw [ho, gt_cmp, e0, rd_inf x false hx nx, rd_inf y false hy ny, rd_nan x hx nx, rd_nan y hy ny, rd_zero x hx nx, rd_zero y hy ny, dec_neg x hx nx]
  simp only [Bool.or_eq_true, Bool.and_eq_true, decide_eq_true_eq, Bool.or_self, Bool.false_eq_true, if_false, if_true]
  unfold fMax
  split
  · rename_i h
    rcases h with h | h
    · have hxe : x = 9218868437227405312 := stp_eq hx e2 (by omega) (by omega)
      rcases Int.lt_trichotomy (stp x) (stp y) with g | g | g
      · first | omega | rw [if_pos g, hxe]
      · have hye : y = 9218868437227405312 := stp_eq hy e2 (by omega) (by omega)
        rw [if_neg (by omega), if_neg (by omega), hxe, hye]; simp
      · first | omega | rw [if_neg (by omega), if_pos g, hxe]
    · have hye : y = 9218868437227405312 := stp_eq hy e2 (by omega) (by omega)
      rcases Int.lt_trichotomy (stp x) (stp y) with g | g | g
      · first | omega | rw [if_pos g, hye]
      · have hxe : x = 9218868437227405312 := stp_eq hx e2 (by omega) (by omega)
        rw [if_neg (by omega), if_neg (by omega), hxe, hye]; simp
      · first | omega | rw [if_neg (by omega), if_pos g, hye]
  · split
    · rename_i h0
      have g1 : ¬ stp x < stp y := by omega
      have g2 : ¬ stp y < stp x := by omega
      simp only [g1, g2, if_false]
      cases neg x <;> rfl
    · rename_i h0
      rcases Int.lt_trichotomy (stp x) (stp y) with g | g | g
      · have g2 : ¬ stp y < stp x := by omega
        simp only [g, g2, if_true, if_false]
      · have e : x = y := stp_eq hx hy g (by omega)
        subst e
        simp
      · have g2 : ¬ stp x < stp y := by omega
        simp only [g, g2, if_true, if_false]
theorem pick_min (s : String) (x y : Nat) (hx : x < 18446744073709551616) (hy : y < 18446744073709551616) (nx : isNaN x = false) (ny : isNaN y = false) :
    Extern.MathDim.pick s true .lt #[.float .f64 x, .float .f64 y] = pure (.float .f64 (fMin x y)) := by
  have ho : (FloatKind.f64.decode x).order (FloatKind.f64.decode y) = some (compare (stp x) (stp y)) := order_num x y hx hy nx ny
  have sx := nan_stp nx
  have sy := nan_stp ny
  have e0 : FloatKind.f64.encode (.infinity true) = 18442240474082181120 := by decide
  have e1 : stp 18442240474082181120 = -9218868437227405312 := by decide
  have e2 : 18442240474082181120 < 18446744073709551616 := by omega
  show (pure (Value.float .f64 (if FloatKind.f64.decode x == .infinity true || FloatKind.f64.decode y == .infinity true then FloatKind.f64.encode (.infinity true) else if (FloatKind.f64.decode x).isNaN || (FloatKind.f64.decode y).isNaN then 0x7FF8000000000001 else if (FloatKind.f64.decode x).isZero && (FloatKind.f64.decode y).isZero then (if (FloatKind.f64.decode x).neg == true then x else y) else if (FloatKind.f64.decode x).order (FloatKind.f64.decode y) == some .lt then x else y)) : Sem Value) = _
  congr 2
  rw [ho, lt_cmp, e0, rd_inf x true hx nx, rd_inf y true hy ny, rd_nan x hx nx, rd_nan y hy ny, rd_zero x hx nx, rd_zero y hy ny, dec_neg x hx nx]
  simp only [Bool.or_eq_true, Bool.and_eq_true, decide_eq_true_eq, Bool.or_self, Bool.false_eq_true, if_false, if_true]
  unfold fMin
  split
  · rename_i h
    rcases h with h | h
    · have hxe : x = 18442240474082181120 := stp_eq hx e2 (by omega) (by omega)
      rcases Int.lt_trichotomy (stp x) (stp y) with g | g | g
      · first | omega | rw [if_pos g, hxe]
      · have hye : y = 18442240474082181120 := stp_eq hy e2 (by omega) (by omega)
        rw [if_neg (by omega), if_neg (by omega), hxe, hye]; simp
      · first | omega | rw [if_neg (by omega), if_pos g, hxe]
    · have hye : y = 18442240474082181120 := stp_eq hy e2 (by omega) (by omega)
      rcases Int.lt_trichotomy (stp x) (stp y) with g | g | g
      · first | omega | rw [if_pos g, hye]
      · have hxe : x = 18442240474082181120 := stp_eq hx e2 (by omega) (by omega)
        rw [if_neg (by omega), if_neg (by omega), hxe, hye]; simp
      · first | omega | rw [if_neg (by omega), if_pos g, hye]
  · split
    · rename_i h0
      have g1 : ¬ stp x < stp y := by omega
      have g2 : ¬ stp y < stp x := by omega
      simp only [g1, g2, if_false]
      cases neg x <;> rfl
    · rename_i h0
      rcases Int.lt_trichotomy (stp x) (stp y) with g | g | g
      · have g2 : ¬ stp y < stp x := by omega
        simp only [g, g2, if_true, if_false]
      · have e : x = y := stp_eq hx hy g (by omega)
        subst e
        simp
      · have g2 : ¬ stp x < stp y := by omega
        simp only [g, g2, if_true, if_false]
theorem run_archMax (x y : Nat) (w : World) (hx : x < 18446744073709551616) (hy : y < 18446744073709551616) (nx : isNaN x = false) (ny : isNaN y = false) :
    (callFunc 80 #[.float .f64 x, .float .f64 y]).run Tryz.prog w = .ok (.value (.float .f64 (fMax x y))) w := by
  rw [run_callFunc_extern Tryz.func80 (e := Extern.MathDim.pick "math.archMax" false .gt) (by kernel_rfl) (by kernel_rfl) (by kernel_rfl) (by kernel_rfl), pick_max _ x y hx hy nx ny]
  rfl
theorem dmax (x y : Nat) (w : World) (hx : x < 18446744073709551616) (hy : y < 18446744073709551616) (nx : isNaN x = false) (ny : isNaN y = false) :
    Calls Tryz.prog 41 #[.float .f64 x, .float .f64 y] w fun r w' => r = .returned (.float .f64 (fMax x y)) ∧ w' = w := by
  have k := fun W => run_archMax x y W hx hy nx ny
  generalize fMax x y = m at *
  go_enter Tryz.func41, Tryz.ntmps41
  go_wp2
  go_ret
  exact ⟨rfl, rfl⟩
theorem run_archMin (x y : Nat) (w : World) (hx : x < 18446744073709551616) (hy : y < 18446744073709551616) (nx : isNaN x = false) (ny : isNaN y = false) :
    (callFunc 82 #[.float .f64 x, .float .f64 y]).run Tryz.prog w = .ok (.value (.float .f64 (fMin x y))) w := by
  rw [run_callFunc_extern Tryz.func82 (e := Extern.MathDim.pick "math.archMin" true .lt) (by kernel_rfl) (by kernel_rfl) (by kernel_rfl) (by kernel_rfl), pick_min _ x y hx hy nx ny]
  rfl
theorem dmin (x y : Nat) (w : World) (hx : x < 18446744073709551616) (hy : y < 18446744073709551616) (nx : isNaN x = false) (ny : isNaN y = false) :
    Calls Tryz.prog 42 #[.float .f64 x, .float .f64 y] w fun r w' => r = .returned (.float .f64 (fMin x y)) ∧ w' = w := by
  have k := fun W => run_archMin x y W hx hy nx ny
  generalize fMin x y = m at *
  go_enter Tryz.func42, Tryz.ntmps42
  go_wp2
  go_ret
  exact ⟨rfl, rfl⟩
end Go.Proofs.YtnalhfcpcpondaaGreatDoor
/- Boxes of intervals; the lesser and the greater of two floats, drawn or not. -/
namespace Go.Proofs.YtnalhfcpcpondaaGreatDoor
set_option linter.unusedVariables false
set_option linter.unusedSimpArgs false
open Go.RowKit Go.Fl64
attribute [local go_sem] run_store_flt

/-- an interval lies in a box -/
def IvB (W : World) (g : Nat) (a b : Nat) : Prop := W.heap[g]? = some (.cells #[.float .f64 a, .float .f64 b] 24 (0, 0))
/-- its cells -/
def IvF (W : World) (g : Nat) (a b : Nat) : Prop := W.cell? ⟨g, 0, none⟩ = some (.float .f64 a) ∧ W.cell? ⟨g, 1, none⟩ = some (.float .f64 b) ∧ W.frozen? ⟨g, 0, none⟩ = false ∧ W.frozen? ⟨g, 1, none⟩ = false
theorem IvB.facts {W : World} {g a b : Nat} (h : IvB W g a b) : IvF W g a b := by
  unfold IvB at h
  simp [IvF, World.cell?, World.frozen?, h]
theorem IvB.lt {W : World} {g a b : Nat} (h : IvB W g a b) : g < W.heap.size := lt_of_box h
theorem IvB.box {W w' : World} {g a b : Nat} (h : IvB W g a b) (hb : Below W.heap.size W w') : IvB w' g a b := box_later h hb h.lt
theorem IvB.later {W w' : World} {g a b : Nat} (h : IvB W g a b) (hb : Below W.heap.size W w') : IvF w' g a b := (h.box hb).facts
theorem IvB.new (w : World) (a b : Nat) : IvB (w.alloc (.cells #[.float .f64 a, .float .f64 b] 24)) w.heap.size a b := heap_alloc_new _ _
theorem IvB.alloc {W : World} {g a b : Nat} (h : IvB W g a b) (o : Obj) : IvB (W.alloc o) g a b := h.box ((Below.refl _ _).alloc (Nat.le_refl _) _)
theorem IvB.set {W : World} {g a b : Nat} (h : IvB W g a b) (c d : Nat) : IvB ((W.setCell ⟨g, 0, none⟩ (.float .f64 c)).setCell ⟨g, 1, none⟩ (.float .f64 d)) g c d := by
  unfold IvB at *
  simp [World.setCell, Array.getElem?_modify, h]
theorem below_store2 {B : Nat} {w w' : World} {g : Nat} (h : Below B w w') (hg : B ≤ g) (a b : Value) : Below B w ((w'.setCell ⟨g, 0, none⟩ a).setCell ⟨g, 1, none⟩ b) :=
  (h.setCell hg _).setCell hg _
theorem bxs1_0 (w : World) (a b : Nat) : Below w.heap.size w (w.alloc (.cells #[.float .f64 a, .float .f64 b] 24)) := (Below.refl _ _).alloc (Nat.le_refl _) _
theorem bxs1_1 (w : World) (a b : Nat) : IvB (w.alloc (.cells #[.float .f64 a, .float .f64 b] 24)) w.heap.size a b := IvB.new w a b
theorem bxs2_0 (w : World) (a b c d : Nat) : Below w.heap.size w ((w.alloc (.cells #[.float .f64 a, .float .f64 b] 24)).alloc (.cells #[.float .f64 c, .float .f64 d] 24)) := (bxs1_0 w a b).alloc (bxs1_0 w a b).size _
theorem bxs2_1 (w : World) (a b c d : Nat) : IvB ((w.alloc (.cells #[.float .f64 a, .float .f64 b] 24)).alloc (.cells #[.float .f64 c, .float .f64 d] 24)) w.heap.size a b := (bxs1_1 w a b).alloc _
theorem bxs2_2 (w : World) (a b c d : Nat) : IvB ((w.alloc (.cells #[.float .f64 a, .float .f64 b] 24)).alloc (.cells #[.float .f64 c, .float .f64 d] 24)) (w.heap.size + 1) c d := by
  have := IvB.new (w.alloc (.cells #[.float .f64 a, .float .f64 b] 24)) c d
  simpa using this
theorem bxs3_0 (w : World) (a b c d e f : Nat) : Below w.heap.size w (((w.alloc (.cells #[.float .f64 a, .float .f64 b] 24)).alloc (.cells #[.float .f64 c, .float .f64 d] 24)).alloc (.cells #[.float .f64 e, .float .f64 f] 24)) := (bxs2_0 w a b c d).alloc (bxs2_0 w a b c d).size _
theorem bxs3_1 (w : World) (a b c d e f : Nat) : IvB (((w.alloc (.cells #[.float .f64 a, .float .f64 b] 24)).alloc (.cells #[.float .f64 c, .float .f64 d] 24)).alloc (.cells #[.float .f64 e, .float .f64 f] 24)) w.heap.size a b := (bxs2_1 w a b c d).alloc _
theorem bxs3_2 (w : World) (a b c d e f : Nat) : IvB (((w.alloc (.cells #[.float .f64 a, .float .f64 b] 24)).alloc (.cells #[.float .f64 c, .float .f64 d] 24)).alloc (.cells #[.float .f64 e, .float .f64 f] 24)) (w.heap.size + 1) c d := (bxs2_2 w a b c d).alloc _
theorem bxs3_3 (w : World) (a b c d e f : Nat) : IvB (((w.alloc (.cells #[.float .f64 a, .float .f64 b] 24)).alloc (.cells #[.float .f64 c, .float .f64 d] 24)).alloc (.cells #[.float .f64 e, .float .f64 f] 24)) (w.heap.size + 1 + 1) e f := by
  have := IvB.new ((w.alloc (.cells #[.float .f64 a, .float .f64 b] 24)).alloc (.cells #[.float .f64 c, .float .f64 d] 24)) e f
  simpa using this

theorem max_any (x y : Nat) (hx : x < 18446744073709551616) (hy : y < 18446744073709551616) (W : World) : ∃ n W1, n < 18446744073709551616 ∧ (∀ ts t, (Builtin.max_ ts t #[.float .f64 x, .float .f64 y]).run Tryz.prog W = .ok (.float .f64 n) W1) ∧ Below W.heap.size W W1 ∧ (isNaN x = false → isNaN y = false → n = fMax x y) := by
  by_cases h : isNaN x = true ∨ isNaN y = true
  · refine ⟨(Question.nanMinMax .f64 true x y).cut (W.tape W.drawn (.nanMinMax .f64 true x y)), W.drew, ?_, ?_, (Below.refl _ _).drew, ?_⟩
    · simp only [Question.cut]; omega
    · intro ts t
      have ho : FloatKind.f64.format.order x y = none := by
        rw [f64]
        rcases h with h | h
        · exact order_nan_left x y h
        · exact order_nan_right x y h
      simp [Builtin.max_, Builtin.max2, ho, Question.forced]
    · intro h1 h2
      rw [h1, h2] at h
      simp at h
  · have h1 : isNaN x = false := by cases e : isNaN x; rfl; exact absurd (.inl e) h
    have h2 : isNaN y = false := by cases e : isNaN y; rfl; exact absurd (.inr e) h
    exact ⟨fMax x y, W, fMax_lt hx hy, fun ts t => run_fmax W ts t x y hx hy h1 h2, Below.refl _ _, fun _ _ => rfl⟩
theorem min_any (x y : Nat) (hx : x < 18446744073709551616) (hy : y < 18446744073709551616) (W : World) : ∃ n W1, n < 18446744073709551616 ∧ (∀ ts t, (Builtin.min_ ts t #[.float .f64 x, .float .f64 y]).run Tryz.prog W = .ok (.float .f64 n) W1) ∧ Below W.heap.size W W1 ∧ (isNaN x = false → isNaN y = false → n = fMin x y) := by
  by_cases h : isNaN x = true ∨ isNaN y = true
  · refine ⟨(Question.nanMinMax .f64 false x y).cut (W.tape W.drawn (.nanMinMax .f64 false x y)), W.drew, ?_, ?_, (Below.refl _ _).drew, ?_⟩
    · simp only [Question.cut]; omega
    · intro ts t
      have ho : FloatKind.f64.format.order x y = none := by
        rw [f64]
        rcases h with h | h
        · exact order_nan_left x y h
        · exact order_nan_right x y h
      simp [Builtin.min_, Builtin.min2, ho, Question.forced]
    · intro h1 h2
      rw [h1, h2] at h
      simp at h
  · have h1 : isNaN x = false := by cases e : isNaN x; rfl; exact absurd (.inl e) h
    have h2 : isNaN y = false := by cases e : isNaN y; rfl; exact absurd (.inr e) h
    exact ⟨fMin x y, W, fMin_lt hx hy, fun ts t => run_fmin W ts t x y hx hy h1 h2, Below.refl _ _, fun _ _ => rfl⟩
theorem vI_nn {a b : Nat} (h : vI a b = true) : isNaN a = false ∧ isNaN b = false := by
  unfold vI le at h
  simp only [Bool.and_eq_true, Bool.not_eq_true'] at h
  exact h.1.1.1.1.1
end Go.Proofs.YtnalhfcpcpondaaGreatDoor
/- Meet and Hull on both sides. -/
namespace Go.Proofs.YtnalhfcpcpondaaGreatDoor
set_option linter.unusedVariables false
set_option linter.unusedSimpArgs false
open Go.RowKit Go.Fl64
attribute [local go_sem] run_store_flt

/-- an interval and a word, or none -/
def orV (ok : Bool) (x y : Nat) (g h : Value) : Value := if ok then .tuple #[.agg #[.float .f64 x, .float .f64 y], g] else .tuple #[.agg #[.float .f64 0, .float .f64 0], h]
set_option maxHeartbeats 4000000 in
set_option maxRecDepth 200000 in
theorem smeet_1 (a b c d : Nat) (v : Bool) (w : World) (ha : a < 18446744073709551616) (hb : b < 18446744073709551616) (hc : c < 18446744073709551616) (hd : d < 18446744073709551616)
    (k1 : ∀ W g T, W.heap[g]? = some (.cells #[.float .f64 a, .float .f64 b, .float .f64 c, .float .f64 d] T (0, 0)) → Calls Tryz.prog 39 #[.slice (some ⟨g, 0, none⟩) 2 2] W fun r w' => r = .returned (.bool v) ∧ Below W.heap.size W w')
    (hv : v = true → (isNaN a = false ∧ isNaN b = false) ∧ (isNaN c = false ∧ isNaN d = false)) :
    Calls Tryz.prog 8 #[.agg #[.float .f64 a, .float .f64 b], .agg #[.float .f64 c, .float .f64 d]] w fun r w' => r = .returned (orV (v && !lt (fMin b d) (fMax a c)) (fMax a c) (fMin b d) (.bool true) (.bool false)) ∧ Below w.heap.size w w' := by
  have H1 : Hid (∀ W g T, W.heap[g]? = some (.cells #[.float .f64 a, .float .f64 b, .float .f64 c, .float .f64 d] T (0, 0)) → Calls Tryz.prog 39 #[.slice (some ⟨g, 0, none⟩) 2 2] W fun r w' => r = .returned (.bool v) ∧ Below W.heap.size W w') := k1
  obtain ⟨W, hW⟩ : ∃ W, W = (((w.alloc (.cells #[.float .f64 a, .float .f64 b] 24)).alloc (.cells #[.float .f64 c, .float .f64 d] 24)).alloc (.cells #[.float .f64 0, .float .f64 0] 24)) := ⟨_, rfl⟩
  have HX : Hid (Below w.heap.size w W ∧ IvB W (w.heap.size) a b ∧ IvB W (w.heap.size + 1) c d ∧ IvB W (w.heap.size + 1 + 1) 0 0) := by
    rw [hW]
    exact ⟨bxs3_0 w a b c d 0 0, bxs3_1 w a b c d 0 0, bxs3_2 w a b c d 0 0, bxs3_3 w a b c d 0 0⟩
  have HK : Hid (∀ w', Below W.heap.size W w' → IvF w' (w.heap.size) a b ∧ IvF w' (w.heap.size + 1) c d ∧ IvF w' (w.heap.size + 1 + 1) 0 0) := fun w' hb => ⟨(HX.out.2.1).later hb, (HX.out.2.2.1).later hb, (HX.out.2.2.2).later hb⟩
  obtain ⟨n1, W1, l1, r1, B1, e1⟩ := max_any a c ha hc W
  obtain ⟨n2, W2, l2, r2, B2, e2⟩ := min_any b d hb hd W1
  have o := ord_gt n1 n2 l1 l2
  have HE : Hid (v = true → n1 = fMax a c ∧ n2 = fMin b d) := fun h => ⟨e1 (hv h).1.1 (hv h).2.1, e2 (hv h).1.2 (hv h).2.2⟩
  have hB2 : Below W.heap.size W W2 := B1.trans (B2.mono B1.size)
  obtain ⟨⟨c0, c1, z0, z1⟩, ⟨c2, c3, z2, z3⟩, ⟨c4, c5, z4, z5⟩⟩ := HK.out W (Below.refl _ _)
  obtain ⟨⟨d0, d1, y0, y1⟩, ⟨d2, d3, y2, y3⟩, ⟨d4, d5, y4, y5⟩⟩ := HK.out W1 B1
  obtain ⟨W3, hW3⟩ : ∃ W3, W3 = W2.alloc (.cells #[.float .f64 n1, .float .f64 n2] 24) := ⟨_, rfl⟩
  have hB3 : Below W.heap.size W W3 := by rw [hW3]; exact hB2.alloc hB2.size _
  have HBX : Hid (IvB W3 W2.heap.size n1 n2) := by rw [hW3]; exact IvB.new _ _ _
  obtain ⟨⟨g0, g1, x0, x1⟩, ⟨g2, g3, x2, x3⟩, ⟨g4, g5, x4, x5⟩⟩ := HK.out W3 hB3
  have kk := H1.out (W3.alloc (.cells #[.float .f64 a, .float .f64 b, .float .f64 c, .float .f64 d] 24)) W3.heap.size _ (heap_alloc_new _ _)
  have HB3 : Hid (Below W.heap.size W W3) := hB3
  clear k1 hv e1 e2 l1 l2 B1 B2 hB2 hB3 ha hb hc hd H1
  go_enter Tryz.func8, Tryz.ntmps8
  go_upto_region 1 with fail
  rw [← hW]
  clear hW
  go_upto_region 2 with fail
  rw [← hW3]
  clear hW3 r1 r2
  clear c0 c1 c2 c3 c4 c5 z0 z1 z2 z3 z4 z5 d0 d1 d2 d3 d4 d5 y0 y1 y2 y3 y4 y5
  go_wp2_with fail
  refine kk.mono ?_
  rintro r w1 ⟨rfl, hb1⟩
  clear kk
  have hb2 : Below W3.heap.size W3 w1 := ((Below.refl _ _).alloc (Nat.le_refl _) _).trans (hb1.mono (by simp))
  have hb3 : Below W.heap.size W w1 := HB3.out.trans (hb2.mono HB3.out.size)
  clear g0 g1 g2 g3 g4 g5 x0 x1 x2 x3 x4 x5
  obtain ⟨⟨c0, c1, z0, z1⟩, ⟨c2, c3, z2, z3⟩, ⟨c4, c5, z4, z5⟩⟩ := HK.out w1 hb3
  obtain ⟨u0, u1, u2, u3⟩ := HBX.out.later hb2
  have HB : Hid (Below w.heap.size w w1) := HX.out.1.trans (hb3.mono HX.out.1.size)
  have HR : IvB w1 (w.heap.size + 1 + 1) 0 0 := HX.out.2.2.2.box hb3
  have HR : Hid (IvB w1 (w.heap.size + 1 + 1) 0 0) := HR
  clear hb1 hb2 hb3 HK HX HBX HB3
  cases v
  · go_wp2
    refine bodyPost_ret (results_cell_tmp_row rfl _ _ (w.heap.size + 1 + 1) 24 #[.float .f64 0, .float .f64 0] (0, 0) _ rfl (HR.out.set _ _) Tryz.underlying24 rfl iv_info) rfl ?_
    exact ⟨rfl, below_store2 HB.out (by omega) _ _⟩
  obtain ⟨rfl, rfl⟩ := HE.out rfl
  cases hq : lt (fMin b d) (fMax a c)
  · rw [hq] at o
    go_wp2
    refine bodyPost_ret (results_cell_tmp_row rfl _ _ (w.heap.size + 1 + 1) 24 #[.float .f64 (fMax a c), .float .f64 (fMin b d)] (0, 0) _ rfl (HR.out.set _ _) Tryz.underlying24 rfl iv_info) rfl ?_
    exact ⟨by rw [hq]; rfl, below_store2 HB.out (by omega) _ _⟩
  · rw [hq] at o
    go_wp2
    refine bodyPost_ret (results_cell_tmp_row rfl _ _ (w.heap.size + 1 + 1) 24 #[.float .f64 0, .float .f64 0] (0, 0) _ rfl (HR.out.set _ _) Tryz.underlying24 rfl iv_info) rfl ?_
    exact ⟨by rw [hq]; rfl, below_store2 HB.out (by omega) _ _⟩
set_option maxHeartbeats 4000000 in
set_option maxRecDepth 200000 in
theorem dhull_1 (a b c d n1 n2 : Nat) (u v : Bool) (w : World)
    (k1 : ∀ W, Calls Tryz.prog 40 #[.agg #[.float .f64 a, .float .f64 b]] W fun r w' => r = .returned (.bool u) ∧ Below W.heap.size W w')
    (k2 : ∀ W, Calls Tryz.prog 40 #[.agg #[.float .f64 c, .float .f64 d]] W fun r w' => r = .returned (.bool v) ∧ Below W.heap.size W w')
    (k3 : ∀ W, u = true → v = true → Calls Tryz.prog 42 #[.float .f64 a, .float .f64 c] W fun r w' => r = .returned (.float .f64 n1) ∧ w' = W)
    (k4 : ∀ W, u = true → v = true → Calls Tryz.prog 41 #[.float .f64 b, .float .f64 d] W fun r w' => r = .returned (.float .f64 n2) ∧ w' = W) :
    Calls Tryz.prog 11 #[.agg #[.float .f64 a, .float .f64 b], .agg #[.float .f64 c, .float .f64 d]] w fun r w' => r = .returned (orV (u && v) n1 n2 (.int .i64 0) (.int .i64 1)) ∧ Below w.heap.size w w' := by
  have H1 : Hid (∀ W, Calls Tryz.prog 40 #[.agg #[.float .f64 a, .float .f64 b]] W fun r w' => r = .returned (.bool u) ∧ Below W.heap.size W w') := k1
  have H2 : Hid (∀ W, Calls Tryz.prog 40 #[.agg #[.float .f64 c, .float .f64 d]] W fun r w' => r = .returned (.bool v) ∧ Below W.heap.size W w') := k2
  obtain ⟨W, hW⟩ : ∃ W, W = (((w.alloc (.cells #[.float .f64 a, .float .f64 b] 24)).alloc (.cells #[.float .f64 c, .float .f64 d] 24)).alloc (.cells #[.float .f64 0, .float .f64 0] 24)) := ⟨_, rfl⟩
  have HX : Hid (Below w.heap.size w W ∧ IvB W (w.heap.size) a b ∧ IvB W (w.heap.size + 1) c d ∧ IvB W (w.heap.size + 1 + 1) 0 0) := by
    rw [hW]
    exact ⟨bxs3_0 w a b c d 0 0, bxs3_1 w a b c d 0 0, bxs3_2 w a b c d 0 0, bxs3_3 w a b c d 0 0⟩
  have HK : Hid (∀ w', Below W.heap.size W w' → IvF w' (w.heap.size) a b ∧ IvF w' (w.heap.size + 1) c d ∧ IvF w' (w.heap.size + 1 + 1) 0 0) := fun w' hb => ⟨(HX.out.2.1).later hb, (HX.out.2.2.1).later hb, (HX.out.2.2.2).later hb⟩
  obtain ⟨⟨c0, c1, z0, z1⟩, ⟨c2, c3, z2, z3⟩, ⟨c4, c5, z4, z5⟩⟩ := HK.out W (Below.refl _ _)
  have H3 : Hid (∀ W, u = true → v = true → Calls Tryz.prog 42 #[.float .f64 a, .float .f64 c] W fun r w' => r = .returned (.float .f64 n1) ∧ w' = W) := k3
  have H4 : Hid (∀ W, u = true → v = true → Calls Tryz.prog 41 #[.float .f64 b, .float .f64 d] W fun r w' => r = .returned (.float .f64 n2) ∧ w' = W) := k4
  have kv := H1.out W
  clear k1 k2 k3 k4
  go_enter Tryz.func11, Tryz.ntmps11
  go_upto_region 1 with fail
  rw [← hW]
  clear hW
  go_wp2_with fail
  refine kv.mono ?_
  rintro r w1 ⟨rfl, hb1⟩
  clear kv H1 c0 c1 c2 c3 c4 c5 z0 z1 z2 z3 z4 z5
  obtain ⟨⟨c0, c1, z0, z1⟩, ⟨c2, c3, z2, z3⟩, ⟨c4, c5, z4, z5⟩⟩ := HK.out w1 hb1
  cases u
  · have HB : Hid (Below w.heap.size w w1) := HX.out.1.trans (hb1.mono HX.out.1.size)
    have HR : Hid (IvB w1 (w.heap.size + 1 + 1) 0 0) := HX.out.2.2.2.box hb1
    clear hb1 HK HX H2 H3 H4
    go_wp2
    refine bodyPost_ret (results_cell_tmp_row rfl _ _ (w.heap.size + 1 + 1) 24 #[.float .f64 0, .float .f64 0] (0, 0) _ rfl (HR.out.set _ _) Tryz.underlying24 rfl iv_info) rfl ?_
    exact ⟨rfl, below_store2 HB.out (by omega) _ _⟩
  have kv := H2.out w1
  have HB1 : Hid (Below W.heap.size W w1) := hb1
  clear hb1 H2
  go_wp2_with fail
  refine kv.mono ?_
  rintro r w2 ⟨rfl, hb2⟩
  have hb3 : Below W.heap.size W w2 := HB1.out.trans (hb2.mono HB1.out.size)
  clear kv c0 c1 c2 c3 c4 c5 z0 z1 z2 z3 z4 z5
  obtain ⟨⟨c0, c1, z0, z1⟩, ⟨c2, c3, z2, z3⟩, ⟨c4, c5, z4, z5⟩⟩ := HK.out w2 hb3
  have HB : Hid (Below w.heap.size w w2) := HX.out.1.trans (hb3.mono HX.out.1.size)
  have HR : Hid (IvB w2 (w.heap.size + 1 + 1) 0 0) := HX.out.2.2.2.box hb3
  cases v
  · clear hb2 hb3 HK HX HB1 H3 H4
    go_wp2
    refine bodyPost_ret (results_cell_tmp_row rfl _ _ (w.heap.size + 1 + 1) 24 #[.float .f64 0, .float .f64 0] (0, 0) _ rfl (HR.out.set _ _) Tryz.underlying24 rfl iv_info) rfl ?_
    exact ⟨rfl, below_store2 HB.out (by omega) _ _⟩
  have m3 := fun W => H3.out W (by simp) (by simp)
  have m4 := fun W => H4.out W (by simp) (by simp)
  have hR2 : Below w2.heap.size w2 w2.drew := (Below.refl _ _).drew
  have hb4 : Below W.heap.size W w2.drew := hb3.trans (hR2.mono hb3.size)
  have HR2 : Hid (IvB w2.drew (w.heap.size + 1 + 1) 0 0) := HX.out.2.2.2.box hb4
  have HB2 : Hid (Below w.heap.size w w2.drew) := HX.out.1.trans (hb4.mono HX.out.1.size)
  have HC : Hid (IvF w2.drew (w.heap.size) a b ∧ IvF w2.drew (w.heap.size + 1) c d ∧ IvF w2.drew (w.heap.size + 1 + 1) 0 0) := HK.out w2.drew hb4
  obtain ⟨⟨s0, s1, s2, s3⟩, ⟨s4, s5, s6, s7⟩, s8, s9, s10, s11⟩ := HC.out
  clear H3 H4 hb2 hb3 hb4 HB1 HX HK hR2
  go_upto_region 3 with fail
  go_region_held3 (fun w' => (w'.cell? ⟨w.heap.size, 0, none⟩ = some (.float .f64 a) ∧ w'.cell? ⟨w.heap.size, 1, none⟩ = some (.float .f64 b)) ∧ (w'.cell? ⟨w.heap.size + 1, 0, none⟩ = some (.float .f64 c) ∧ w'.cell? ⟨w.heap.size + 1, 1, none⟩ = some (.float .f64 d))) (first | (with_reducible assumption) | exact ⟨⟨s0, s1⟩, s4, s5⟩ | exact ⟨⟨c0, c1⟩, c2, c3⟩ | (refine ⟨⟨?_, ?_⟩, ?_, ?_⟩ <;> (change World.cell? (World.setCell (World.setCell _ _ _) _ _) _ = _; rw [World.cell?_setCell_other _ _ _ _ (by first | (simp; done) | (simp; omega)), World.cell?_setCell_other _ _ _ _ (by first | (simp; done) | (simp; omega))]; with_reducible assumption)) | go_keep)
    (first | (go_at_call 42; refine (m3 _).mono ?_; rintro r w' ⟨rfl, rfl⟩) | (go_at_call 41; refine (m4 _).mono ?_; rintro r w' ⟨rfl, rfl⟩))
  go_wp2_with fail
  refine bodyPost_ret (results_cell_tmp_row rfl _ _ (w.heap.size + 1 + 1) 24 #[.float .f64 n1, .float .f64 n2] (0, 0) _ rfl (HR.out.set _ _) Tryz.underlying24 rfl iv_info) rfl ?_
  exact ⟨rfl, (below_store2 HB.out (by omega) _ _).drew⟩
set_option maxHeartbeats 4000000 in
set_option maxRecDepth 200000 in
theorem dmeet_1 (a b c d n1 n2 : Nat) (u v p q : Bool) (w : World)
    (k1 : ∀ W, Calls Tryz.prog 40 #[.agg #[.float .f64 a, .float .f64 b]] W fun r w' => r = .returned (.bool u) ∧ Below W.heap.size W w')
    (k2 : ∀ W, Calls Tryz.prog 40 #[.agg #[.float .f64 c, .float .f64 d]] W fun r w' => r = .returned (.bool v) ∧ Below W.heap.size W w')
    (o1 : (FloatKind.f64.format.order a d == some Ordering.gt) = p) (o2 : (FloatKind.f64.format.order c b == some Ordering.gt) = q)
    (k3 : ∀ W, u = true → v = true → Calls Tryz.prog 41 #[.float .f64 a, .float .f64 c] W fun r w' => r = .returned (.float .f64 n1) ∧ w' = W)
    (k4 : ∀ W, u = true → v = true → Calls Tryz.prog 42 #[.float .f64 b, .float .f64 d] W fun r w' => r = .returned (.float .f64 n2) ∧ w' = W) :
    Calls Tryz.prog 9 #[.agg #[.float .f64 a, .float .f64 b], .agg #[.float .f64 c, .float .f64 d]] w fun r w' => r = .returned (orV (u && v && !p && !q) n1 n2 (.bool true) (.bool false)) ∧ Below w.heap.size w w' := by
  have H1 : Hid (∀ W, Calls Tryz.prog 40 #[.agg #[.float .f64 a, .float .f64 b]] W fun r w' => r = .returned (.bool u) ∧ Below W.heap.size W w') := k1
  have H2 : Hid (∀ W, Calls Tryz.prog 40 #[.agg #[.float .f64 c, .float .f64 d]] W fun r w' => r = .returned (.bool v) ∧ Below W.heap.size W w') := k2
  obtain ⟨W, hW⟩ : ∃ W, W = (((w.alloc (.cells #[.float .f64 a, .float .f64 b] 24)).alloc (.cells #[.float .f64 c, .float .f64 d] 24)).alloc (.cells #[.float .f64 0, .float .f64 0] 24)) := ⟨_, rfl⟩
  have HX : Hid (Below w.heap.size w W ∧ IvB W (w.heap.size) a b ∧ IvB W (w.heap.size + 1) c d ∧ IvB W (w.heap.size + 1 + 1) 0 0) := by
    rw [hW]
    exact ⟨bxs3_0 w a b c d 0 0, bxs3_1 w a b c d 0 0, bxs3_2 w a b c d 0 0, bxs3_3 w a b c d 0 0⟩
  have HK : Hid (∀ w', Below W.heap.size W w' → IvF w' (w.heap.size) a b ∧ IvF w' (w.heap.size + 1) c d ∧ IvF w' (w.heap.size + 1 + 1) 0 0) := fun w' hb => ⟨(HX.out.2.1).later hb, (HX.out.2.2.1).later hb, (HX.out.2.2.2).later hb⟩
  obtain ⟨⟨c0, c1, z0, z1⟩, ⟨c2, c3, z2, z3⟩, ⟨c4, c5, z4, z5⟩⟩ := HK.out W (Below.refl _ _)
  have H3 : Hid (∀ W, u = true → v = true → Calls Tryz.prog 41 #[.float .f64 a, .float .f64 c] W fun r w' => r = .returned (.float .f64 n1) ∧ w' = W) := k3
  have H4 : Hid (∀ W, u = true → v = true → Calls Tryz.prog 42 #[.float .f64 b, .float .f64 d] W fun r w' => r = .returned (.float .f64 n2) ∧ w' = W) := k4
  have kv := H1.out W
  clear k1 k2 k3 k4
  go_enter Tryz.func9, Tryz.ntmps9
  go_upto_region 1 with fail
  rw [← hW]
  clear hW
  go_wp2_with fail
  refine kv.mono ?_
  rintro r w1 ⟨rfl, hb1⟩
  clear kv H1 c0 c1 c2 c3 c4 c5 z0 z1 z2 z3 z4 z5
  obtain ⟨⟨c0, c1, z0, z1⟩, ⟨c2, c3, z2, z3⟩, ⟨c4, c5, z4, z5⟩⟩ := HK.out w1 hb1
  cases u
  · have HB : Hid (Below w.heap.size w w1) := HX.out.1.trans (hb1.mono HX.out.1.size)
    have HR : Hid (IvB w1 (w.heap.size + 1 + 1) 0 0) := HX.out.2.2.2.box hb1
    clear hb1 HK HX H2 H3 H4
    go_wp2
    refine bodyPost_ret (results_cell_tmp_row rfl _ _ (w.heap.size + 1 + 1) 24 #[.float .f64 0, .float .f64 0] (0, 0) _ rfl (HR.out.set _ _) Tryz.underlying24 rfl iv_info) rfl ?_
    exact ⟨rfl, below_store2 HB.out (by omega) _ _⟩
  have kv := H2.out w1
  have HB1 : Hid (Below W.heap.size W w1) := hb1
  clear hb1 H2
  go_wp2_with fail
  refine kv.mono ?_
  rintro r w2 ⟨rfl, hb2⟩
  have hb3 : Below W.heap.size W w2 := HB1.out.trans (hb2.mono HB1.out.size)
  clear kv c0 c1 c2 c3 c4 c5 z0 z1 z2 z3 z4 z5
  obtain ⟨⟨c0, c1, z0, z1⟩, ⟨c2, c3, z2, z3⟩, ⟨c4, c5, z4, z5⟩⟩ := HK.out w2 hb3
  have HB : Hid (Below w.heap.size w w2) := HX.out.1.trans (hb3.mono HX.out.1.size)
  have HR : Hid (IvB w2 (w.heap.size + 1 + 1) 0 0) := HX.out.2.2.2.box hb3
  cases v
  · clear hb2 hb3 HK HX HB1 H3 H4
    go_wp2
    refine bodyPost_ret (results_cell_tmp_row rfl _ _ (w.heap.size + 1 + 1) 24 #[.float .f64 0, .float .f64 0] (0, 0) _ rfl (HR.out.set _ _) Tryz.underlying24 rfl iv_info) rfl ?_
    exact ⟨rfl, below_store2 HB.out (by omega) _ _⟩
  cases p
  case true =>
    clear hb2 hb3 HK HX HB1 H3 H4
    go_wp2
    refine bodyPost_ret (results_cell_tmp_row rfl _ _ (w.heap.size + 1 + 1) 24 #[.float .f64 0, .float .f64 0] (0, 0) _ rfl (HR.out.set _ _) Tryz.underlying24 rfl iv_info) rfl ?_
    exact ⟨rfl, below_store2 HB.out (by omega) _ _⟩
  cases q
  case true =>
    clear hb2 hb3 HK HX HB1 H3 H4
    go_wp2
    refine bodyPost_ret (results_cell_tmp_row rfl _ _ (w.heap.size + 1 + 1) 24 #[.float .f64 0, .float .f64 0] (0, 0) _ rfl (HR.out.set _ _) Tryz.underlying24 rfl iv_info) rfl ?_
    exact ⟨rfl, below_store2 HB.out (by omega) _ _⟩
  have m3 := fun W => H3.out W (by simp) (by simp)
  have m4 := fun W => H4.out W (by simp) (by simp)
  have hR2 : Below w2.heap.size w2 w2.drew := (Below.refl _ _).drew
  have hb4 : Below W.heap.size W w2.drew := hb3.trans (hR2.mono hb3.size)
  have HR2 : Hid (IvB w2.drew (w.heap.size + 1 + 1) 0 0) := HX.out.2.2.2.box hb4
  have HB2 : Hid (Below w.heap.size w w2.drew) := HX.out.1.trans (hb4.mono HX.out.1.size)
  have HC : Hid (IvF w2.drew (w.heap.size) a b ∧ IvF w2.drew (w.heap.size + 1) c d ∧ IvF w2.drew (w.heap.size + 1 + 1) 0 0) := HK.out w2.drew hb4
  obtain ⟨⟨s0, s1, s2, s3⟩, ⟨s4, s5, s6, s7⟩, s8, s9, s10, s11⟩ := HC.out
  clear H3 H4 hb2 hb3 hb4 HB1 HX HK hR2
  go_upto_region 3 with fail
  go_region_held3 (fun w' => (w'.cell? ⟨w.heap.size, 0, none⟩ = some (.float .f64 a) ∧ w'.cell? ⟨w.heap.size, 1, none⟩ = some (.float .f64 b)) ∧ (w'.cell? ⟨w.heap.size + 1, 0, none⟩ = some (.float .f64 c) ∧ w'.cell? ⟨w.heap.size + 1, 1, none⟩ = some (.float .f64 d))) (first | (with_reducible assumption) | exact ⟨⟨s0, s1⟩, s4, s5⟩ | exact ⟨⟨c0, c1⟩, c2, c3⟩ | (refine ⟨⟨?_, ?_⟩, ?_, ?_⟩ <;> (change World.cell? (World.setCell (World.setCell _ _ _) _ _) _ = _; rw [World.cell?_setCell_other _ _ _ _ (by first | (simp; done) | (simp; omega)), World.cell?_setCell_other _ _ _ _ (by first | (simp; done) | (simp; omega))]; with_reducible assumption)) | go_keep)
    (first | (go_at_call 41; refine (m3 _).mono ?_; rintro r w' ⟨rfl, rfl⟩) | (go_at_call 42; refine (m4 _).mono ?_; rintro r w' ⟨rfl, rfl⟩))
  go_wp2_with fail
  refine bodyPost_ret (results_cell_tmp_row rfl _ _ (w.heap.size + 1 + 1) 24 #[.float .f64 n1, .float .f64 n2] (0, 0) _ rfl (HR.out.set _ _) Tryz.underlying24 rfl iv_info) rfl ?_
  exact ⟨rfl, (below_store2 HB.out (by omega) _ _).drew⟩
set_option maxHeartbeats 4000000 in
set_option maxRecDepth 200000 in
theorem shull_1 (a b c d n1 n2 : Nat) (v : Bool) (w : World)
    (k1 : ∀ W g T, W.heap[g]? = some (.cells #[.float .f64 a, .float .f64 b, .float .f64 c, .float .f64 d] T (0, 0)) → Calls Tryz.prog 39 #[.slice (some ⟨g, 0, none⟩) 2 2] W fun r w' => r = .returned (.bool v) ∧ Below W.heap.size W w')
    (r1 : v = true → ∀ W ts t, (Builtin.min_ ts t #[.float .f64 a, .float .f64 c]).run Tryz.prog W = .ok (.float .f64 n1) W)
    (r2 : v = true → ∀ W ts t, (Builtin.max_ ts t #[.float .f64 b, .float .f64 d]).run Tryz.prog W = .ok (.float .f64 n2) W) :
    Calls Tryz.prog 10 #[.agg #[.float .f64 a, .float .f64 b], .agg #[.float .f64 c, .float .f64 d]] w fun r w' => r = .returned (orV v n1 n2 (.int .i64 0) (.int .i64 1)) ∧ Below w.heap.size w w' := by
  have H1 : Hid (∀ W g T, W.heap[g]? = some (.cells #[.float .f64 a, .float .f64 b, .float .f64 c, .float .f64 d] T (0, 0)) → Calls Tryz.prog 39 #[.slice (some ⟨g, 0, none⟩) 2 2] W fun r w' => r = .returned (.bool v) ∧ Below W.heap.size W w') := k1
  obtain ⟨W, hW⟩ : ∃ W, W = (((w.alloc (.cells #[.float .f64 a, .float .f64 b] 24)).alloc (.cells #[.float .f64 c, .float .f64 d] 24)).alloc (.cells #[.float .f64 0, .float .f64 0] 24)) := ⟨_, rfl⟩
  have HX : Hid (Below w.heap.size w W ∧ IvB W (w.heap.size) a b ∧ IvB W (w.heap.size + 1) c d ∧ IvB W (w.heap.size + 1 + 1) 0 0) := by
    rw [hW]
    exact ⟨bxs3_0 w a b c d 0 0, bxs3_1 w a b c d 0 0, bxs3_2 w a b c d 0 0, bxs3_3 w a b c d 0 0⟩
  have HK : Hid (∀ w', Below W.heap.size W w' → IvF w' (w.heap.size) a b ∧ IvF w' (w.heap.size + 1) c d ∧ IvF w' (w.heap.size + 1 + 1) 0 0) := fun w' hb => ⟨(HX.out.2.1).later hb, (HX.out.2.2.1).later hb, (HX.out.2.2.2).later hb⟩
  obtain ⟨⟨c0, c1, z0, z1⟩, ⟨c2, c3, z2, z3⟩, ⟨c4, c5, z4, z5⟩⟩ := HK.out W (Below.refl _ _)
  have kk := H1.out (W.alloc (.cells #[.float .f64 a, .float .f64 b, .float .f64 c, .float .f64 d] 24)) W.heap.size _ (heap_alloc_new _ _)
  have HR1 : Hid (v = true → ∀ W ts t, (Builtin.min_ ts t #[.float .f64 a, .float .f64 c]).run Tryz.prog W = .ok (.float .f64 n1) W) := r1
  have HR2 : Hid (v = true → ∀ W ts t, (Builtin.max_ ts t #[.float .f64 b, .float .f64 d]).run Tryz.prog W = .ok (.float .f64 n2) W) := r2
  clear k1 r1 r2 H1
  go_enter Tryz.func10, Tryz.ntmps10
  go_upto_region 1 with fail
  rw [← hW]
  clear hW
  go_wp2_with fail
  refine kk.mono ?_
  rintro r w1 ⟨rfl, hb1⟩
  clear kk
  have hb2 : Below W.heap.size W w1 := ((Below.refl _ _).alloc (Nat.le_refl _) _).trans (hb1.mono (by simp))
  clear c0 c1 c2 c3 c4 c5 z0 z1 z2 z3 z4 z5
  obtain ⟨⟨c0, c1, z0, z1⟩, ⟨c2, c3, z2, z3⟩, ⟨c4, c5, z4, z5⟩⟩ := HK.out w1 hb2
  have HB : Hid (Below w.heap.size w w1) := HX.out.1.trans (hb2.mono HX.out.1.size)
  have HR : Hid (IvB w1 (w.heap.size + 1 + 1) 0 0) := HX.out.2.2.2.box hb2
  clear hb1 hb2 HK HX
  cases v
  · clear HR1 HR2
    go_wp2
    refine bodyPost_ret (results_cell_tmp_row rfl _ _ (w.heap.size + 1 + 1) 24 #[.float .f64 0, .float .f64 0] (0, 0) _ rfl (HR.out.set _ _) Tryz.underlying24 rfl iv_info) rfl ?_
    exact ⟨rfl, below_store2 HB.out (by omega) _ _⟩
  · have r1 := HR1.out rfl
    have r2 := HR2.out rfl
    clear HR1 HR2
    go_wp2
    refine bodyPost_ret (results_cell_tmp_row rfl _ _ (w.heap.size + 1 + 1) 24 #[.float .f64 n1, .float .f64 n2] (0, 0) _ rfl (HR.out.set _ _) Tryz.underlying24 rfl iv_info) rfl ?_
    exact ⟨rfl, below_store2 HB.out (by omega) _ _⟩

/-- what lies in both, and whether anything does -/
def mtI (a b c d : Nat) : Bool := vI a b && vI c d && !lt (fMin b d) (fMax a c)
theorem mt_eq (a b c d : Nat) : mtI a b c d = (vI a b && vI c d && !lt d a && !lt b c) := by
  unfold mtI
  cases h1 : vI a b
  · rfl
  cases h2 : vI c d
  · rfl
  obtain ⟨n1, n2⟩ := vI_nn h1
  obtain ⟨n3, n4⟩ := vI_nn h2
  have s1 : stp a ≤ stp b := by
    unfold vI le at h1
    simp only [Bool.and_eq_true, decide_eq_true_eq] at h1
    exact h1.1.1.1.1.2
  have s2 : stp c ≤ stp d := by
    unfold vI le at h2
    simp only [Bool.and_eq_true, decide_eq_true_eq] at h2
    exact h2.1.1.1.1.2
  unfold lt
  rw [fMin_nn n2 n4, fMax_nn n1 n3, fMin_stp, fMax_stp, n1, n2, n3, n4]
  simp only [Bool.not_false, Bool.true_and]
  rw [← decide_not, ← decide_not, ← decide_not, ← Bool.decide_and]
  exact decide_eq_decide.2 (by omega)
theorem smeet (a b c d : Nat) (ha : a < 18446744073709551616) (hb : b < 18446744073709551616) (hc : c < 18446744073709551616) (hd : d < 18446744073709551616) (w : World) :
    Calls Tryz.prog 8 #[.agg #[.float .f64 a, .float .f64 b], .agg #[.float .f64 c, .float .f64 d]] w fun r w' => r = .returned (orV (mtI a b c d) (fMax a c) (fMin b d) (.bool true) (.bool false)) ∧ Below w.heap.size w w' :=
  smeet_1 a b c d _ w ha hb hc hd (fun W g T h => smaybe h ha hb hc hd) (fun h => by
    rw [Bool.and_eq_true] at h
    exact ⟨vI_nn h.1, vI_nn h.2⟩)
theorem dmeet (a b c d : Nat) (ha : a < 18446744073709551616) (hb : b < 18446744073709551616) (hc : c < 18446744073709551616) (hd : d < 18446744073709551616) (w : World) :
    Calls Tryz.prog 9 #[.agg #[.float .f64 a, .float .f64 b], .agg #[.float .f64 c, .float .f64 d]] w fun r w' => r = .returned (orV (mtI a b c d) (fMax a c) (fMin b d) (.bool true) (.bool false)) ∧ Below w.heap.size w w' := by
  rw [mt_eq]
  exact dmeet_1 a b c d _ _ _ _ _ _ w (fun W => d8valid a b ha hb W) (fun W => d8valid c d hc hd W) (ord_gt a d ha hd) (ord_gt c b hc hb)
    (fun W h1 h2 => dmax a c W ha hc (vI_nn h1).1 (vI_nn h2).1) (fun W h1 h2 => dmin b d W hb hd (vI_nn h1).2 (vI_nn h2).2)
theorem shull (a b c d : Nat) (ha : a < 18446744073709551616) (hb : b < 18446744073709551616) (hc : c < 18446744073709551616) (hd : d < 18446744073709551616) (w : World) :
    Calls Tryz.prog 10 #[.agg #[.float .f64 a, .float .f64 b], .agg #[.float .f64 c, .float .f64 d]] w fun r w' => r = .returned (orV (vI a b && vI c d) (fMin a c) (fMax b d) (.int .i64 0) (.int .i64 1)) ∧ Below w.heap.size w w' :=
  shull_1 a b c d _ _ _ w (fun W g T h => smaybe h ha hb hc hd) (fun h W ts t => by
    rw [Bool.and_eq_true] at h
    exact run_fmin W ts t a c ha hc (vI_nn h.1).1 (vI_nn h.2).1) (fun h W ts t => by
    rw [Bool.and_eq_true] at h
    exact run_fmax W ts t b d hb hd (vI_nn h.1).2 (vI_nn h.2).2)
theorem dhull (a b c d : Nat) (ha : a < 18446744073709551616) (hb : b < 18446744073709551616) (hc : c < 18446744073709551616) (hd : d < 18446744073709551616) (w : World) :
    Calls Tryz.prog 11 #[.agg #[.float .f64 a, .float .f64 b], .agg #[.float .f64 c, .float .f64 d]] w fun r w' => r = .returned (orV (vI a b && vI c d) (fMin a c) (fMax b d) (.int .i64 0) (.int .i64 1)) ∧ Below w.heap.size w w' :=
  dhull_1 a b c d _ _ _ _ w (fun W => d8valid a b ha hb W) (fun W => d8valid c d hc hd W)
    (fun W h1 h2 => dmin a c W ha hc (vI_nn h1).1 (vI_nn h2).1) (fun W h1 h2 => dmax b d W hb hd (vI_nn h1).2 (vI_nn h2).2)
end Go.Proofs.YtnalhfcpcpondaaGreatDoor
/- The law's like, same, of. -/
namespace Go.Proofs.YtnalhfcpcpondaaGreatDoor
set_option linter.unusedVariables false
set_option linter.unusedSimpArgs false
open Go.RowKit Go.Fl64
attribute [local go_sem] run_store_flt

theorem dLike_self (x : Nat) (hx : x < 18446744073709551616) (w : World) :
    Calls Tryz.prog 78 #[.float .f64 x, .float .f64 x] w fun r w' => r = .returned (.bool true) ∧ w' = w := by
  have hb := Ie.run_bits
  have e := self_ne x hx
  cases hn : isNaN x
  · rw [hn] at e
    go_enter Tryz.func78, Tryz.ntmps78
    go_wp2
    go_ret
    exact ⟨by simp, rfl⟩
  · rw [hn] at e
    go_enter Tryz.func78, Tryz.ntmps78
    go_wp2
    go_ret
    exact ⟨rfl, rfl⟩
theorem llike_self (x : Nat) (hx : x < 18446744073709551616) (w : World) :
    Calls Tryz.prog 38 #[.float .f64 x, .float .f64 x] w fun r w' => r = .returned (.bool true) ∧ w' = w := by
  have k := dLike_self x hx
  go_enter Tryz.func38, Tryz.ntmps38
  go_wp2_with (first | (go_at_call 78; refine (k _).mono ?_; rintro r w' ⟨rfl, rfl⟩))
  go_ret
  exact ⟨rfl, rfl⟩
theorem isame (x y : Nat) (hx : x < 18446744073709551616) (hy : y < 18446744073709551616) (w : World) :
    Calls Tryz.prog 16 #[.agg #[.float .f64 x, .float .f64 y], .agg #[.float .f64 x, .float .f64 y]] w fun r w' => r = .returned (.bool true) ∧ Below w.heap.size w w' := by
  have k1 := llike_self x hx
  have k2 := llike_self y hy
  go_enter Tryz.func16, Tryz.ntmps16
  go_wp2_with (first | (go_at_call 38; first | (with_reducible refine (k1 _).mono ?_; rintro r w' ⟨rfl, rfl⟩) | (with_reducible refine (k2 _).mono ?_; rintro r w' ⟨rfl, rfl⟩)))
  go_ret
  exact ⟨rfl, bxs2_0 w _ _ _ _⟩
theorem lof (a b : Nat) (w : World) : Calls Tryz.prog 45 #[.float .f64 a, .float .f64 b] w fun r w' => r = .returned (.agg #[.float .f64 a, .float .f64 b]) ∧ Below w.heap.size w w' := by
  go_enter Tryz.func45, Tryz.ntmps45
  go_wp2
  refine bodyPost_ret (results_cell_row rfl _ _ w.heap.size 24 #[.float .f64 a, .float .f64 b] (0, 0) _ rfl (heap_alloc_new _ _) Tryz.underlying24 rfl iv_info) rfl ?_
  exact ⟨rfl, (Below.refl _ _).alloc (Nat.le_refl _) _⟩
theorem sorn (a : Nat) (ha : a < 18446744073709551616) (w : World) :
    Calls Tryz.prog 92 #[.float .f64 a] w fun r w' => r = .returned (.float .f64 (if isNaN a then 0 else a)) ∧ w' = w := by
  have e := self_ne a ha
  cases hn : isNaN a
  · rw [hn] at e
    go_enter Tryz.func92, Tryz.ntmps92
    go_wp2
    go_ret
    exact ⟨rfl, rfl⟩
  · rw [hn] at e
    go_enter Tryz.func92, Tryz.ntmps92
    go_wp2
    go_ret
    exact ⟨rfl, rfl⟩
theorem spairs (a b c d : Nat) (w : World) : Calls Tryz.prog 57 #[.agg #[.float .f64 a, .float .f64 b], .agg #[.float .f64 c, .float .f64 d]] w fun r w' =>
    r = .returned (.agg #[.float .f64 a, .float .f64 c, .float .f64 a, .float .f64 d, .float .f64 b, .float .f64 c, .float .f64 b, .float .f64 d]) ∧ Below w.heap.size w w' := by
  go_enter Tryz.func57, Tryz.ntmps57
  go_wp2
  have hn := heap_alloc_new ((w.alloc (.cells #[.float .f64 a, .float .f64 b] 24)).alloc (.cells #[.float .f64 c, .float .f64 d] 24)) (.cells #[.float .f64 a, .float .f64 c, .float .f64 a, .float .f64 d, .float .f64 b, .float .f64 c, .float .f64 b, .float .f64 d] 68)
  refine bodyPost_ret (results_cell_row rfl _ _ (w.heap.size + 1 + 1) 68 #[.float .f64 a, .float .f64 c, .float .f64 a, .float .f64 d, .float .f64 b, .float .f64 c, .float .f64 b, .float .f64 d] (0, 0) _ rfl (by simpa using hn) (show Tryz.prog.underlying 68 = some (.array 4 66) by kernel_rfl) rfl (by kernel_rfl)) rfl ?_
  exact ⟨rfl, (bxs2_0 w a b c d).alloc (bxs2_0 w a b c d).size _⟩
end Go.Proofs.YtnalhfcpcpondaaGreatDoor
/- Mul and Quo, walked. -/
namespace Go.Proofs.YtnalhfcpcpondaaGreatDoor
set_option linter.unusedVariables false
set_option linter.unusedSimpArgs false
open Go.RowKit Go.Fl64
attribute [local go_sem] run_store_flt

set_option maxHeartbeats 4000000 in
set_option maxRecDepth 200000 in
theorem smul_1 (a b c d x y : Nat) (v : Bool) (w : World)
    (k1 : ∀ W g T, W.heap[g]? = some (.cells #[.float .f64 a, .float .f64 b, .float .f64 c, .float .f64 d] T (0, 0)) → Calls Tryz.prog 39 #[.slice (some ⟨g, 0, none⟩) 2 2] W fun r w' => r = .returned (.bool v) ∧ Below W.heap.size W w')
    (k2 : v = true → ∀ W, Below w.heap.size w W → Calls Tryz.prog 58 #[.agg #[.float .f64 a, .float .f64 c, .float .f64 a, .float .f64 d, .float .f64 b, .float .f64 c, .float .f64 b, .float .f64 d], .func (.func 59) #[] #[]] W fun r w' => r = .returned (.agg #[.float .f64 x, .float .f64 y]) ∧ Below W.heap.size W w') :
    Calls Tryz.prog 26 #[.agg #[.float .f64 a, .float .f64 b], .agg #[.float .f64 c, .float .f64 d]] w fun r w' => r = .returned (orV v x y (.int .i64 0) (.int .i64 1)) ∧ Below w.heap.size w w' := by
  have H1 : Hid (∀ W g T, W.heap[g]? = some (.cells #[.float .f64 a, .float .f64 b, .float .f64 c, .float .f64 d] T (0, 0)) → Calls Tryz.prog 39 #[.slice (some ⟨g, 0, none⟩) 2 2] W fun r w' => r = .returned (.bool v) ∧ Below W.heap.size W w') := k1
  have H2 : Hid (v = true → ∀ W, Below w.heap.size w W → Calls Tryz.prog 58 #[.agg #[.float .f64 a, .float .f64 c, .float .f64 a, .float .f64 d, .float .f64 b, .float .f64 c, .float .f64 b, .float .f64 d], .func (.func 59) #[] #[]] W fun r w' => r = .returned (.agg #[.float .f64 x, .float .f64 y]) ∧ Below W.heap.size W w') := k2
  obtain ⟨W, hW⟩ : ∃ W, W = (((w.alloc (.cells #[.float .f64 a, .float .f64 b] 24)).alloc (.cells #[.float .f64 c, .float .f64 d] 24)).alloc (.cells #[.float .f64 0, .float .f64 0] 24)) := ⟨_, rfl⟩
  have HX : Hid (Below w.heap.size w W ∧ IvB W (w.heap.size) a b ∧ IvB W (w.heap.size + 1) c d ∧ IvB W (w.heap.size + 1 + 1) 0 0) := by
    rw [hW]
    exact ⟨bxs3_0 w a b c d 0 0, bxs3_1 w a b c d 0 0, bxs3_2 w a b c d 0 0, bxs3_3 w a b c d 0 0⟩
  have HK : Hid (∀ w', Below W.heap.size W w' → IvF w' (w.heap.size) a b ∧ IvF w' (w.heap.size + 1) c d ∧ IvF w' (w.heap.size + 1 + 1) 0 0) := fun w' hb => ⟨(HX.out.2.1).later hb, (HX.out.2.2.1).later hb, (HX.out.2.2.2).later hb⟩
  obtain ⟨⟨c0, c1, z0, z1⟩, ⟨c2, c3, z2, z3⟩, ⟨c4, c5, z4, z5⟩⟩ := HK.out W (Below.refl _ _)
  have kk := H1.out (W.alloc (.cells #[.float .f64 a, .float .f64 b, .float .f64 c, .float .f64 d] 24)) W.heap.size _ (heap_alloc_new _ _)
  clear k1 k2 H1
  go_enter Tryz.func26, Tryz.ntmps26
  go_upto_region 1 with fail
  rw [← hW]
  clear hW
  go_wp2_with fail
  refine kk.mono ?_
  rintro r w1 ⟨rfl, hb1⟩
  clear kk
  have hb2 : Below W.heap.size W w1 := ((Below.refl _ _).alloc (Nat.le_refl _) _).trans (hb1.mono (by simp))
  clear c0 c1 c2 c3 c4 c5 z0 z1 z2 z3 z4 z5
  obtain ⟨⟨c0, c1, z0, z1⟩, ⟨c2, c3, z2, z3⟩, ⟨c4, c5, z4, z5⟩⟩ := HK.out w1 hb2
  cases v
  · have HB : Hid (Below w.heap.size w w1) := HX.out.1.trans (hb2.mono HX.out.1.size)
    have HR : Hid (IvB w1 (w.heap.size + 1 + 1) 0 0) := HX.out.2.2.2.box hb2
    clear hb1 hb2 HK HX H2
    go_wp2
    refine bodyPost_ret (results_cell_tmp_row rfl _ _ (w.heap.size + 1 + 1) 24 #[.float .f64 0, .float .f64 0] (0, 0) _ rfl (HR.out.set _ _) Tryz.underlying24 rfl iv_info) rfl ?_
    exact ⟨rfl, below_store2 HB.out (by omega) _ _⟩
  have kp := spairs a b c d w1
  have HB1 : Hid (Below W.heap.size W w1) := hb2
  clear hb1 hb2
  go_wp2_with fail
  refine kp.mono ?_
  rintro r w2 ⟨rfl, hb2⟩
  have hb3 : Below W.heap.size W w2 := HB1.out.trans (hb2.mono HB1.out.size)
  clear c0 c1 c2 c3 c4 c5 z0 z1 z2 z3 z4 z5 kp HB1
  have ks := H2.out (by simp) w2 (HX.out.1.trans (hb3.mono HX.out.1.size))
  have HB3 : Hid (Below W.heap.size W w2) := hb3
  clear hb2 hb3 H2
  go_wp2_with fail
  refine ks.mono ?_
  rintro r w3 ⟨rfl, hb4⟩
  have hb5 : Below W.heap.size W w3 := HB3.out.trans (hb4.mono HB3.out.size)
  obtain ⟨⟨c0, c1, z0, z1⟩, ⟨c2, c3, z2, z3⟩, ⟨c4, c5, z4, z5⟩⟩ := HK.out w3 hb5
  have HB : Hid (Below w.heap.size w w3) := HX.out.1.trans (hb5.mono HX.out.1.size)
  have HR : Hid (IvB w3 (w.heap.size + 1 + 1) 0 0) := HX.out.2.2.2.box hb5
  clear ks hb4 hb5 HK HX HB3
  go_wp2
  refine bodyPost_ret (results_cell_tmp_row rfl _ _ (w.heap.size + 1 + 1) 24 #[.float .f64 x, .float .f64 y] (0, 0) _ rfl (HR.out.set _ _) Tryz.underlying24 rfl iv_info) rfl ?_
  exact ⟨rfl, below_store2 HB.out (by omega) _ _⟩
/-- a quotient's answer, or an error -/
def quoV (v z : Bool) (x y : Nat) : Value := if v then (if z then .tuple #[.agg #[.float .f64 0, .float .f64 0], .int .i64 6] else .tuple #[.agg #[.float .f64 x, .float .f64 y], .int .i64 0]) else .tuple #[.agg #[.float .f64 0, .float .f64 0], .int .i64 1]
set_option maxHeartbeats 4000000 in
set_option maxRecDepth 200000 in
theorem squo_1 (a b c d x y : Nat) (v z : Bool) (w : World)
    (k1 : ∀ W g T, W.heap[g]? = some (.cells #[.float .f64 a, .float .f64 b, .float .f64 c, .float .f64 d] T (0, 0)) → Calls Tryz.prog 39 #[.slice (some ⟨g, 0, none⟩) 2 2] W fun r w' => r = .returned (.bool v) ∧ Below W.heap.size W w')
    (k2 : v = true → z = false → ∀ W, Below w.heap.size w W → Calls Tryz.prog 58 #[.agg #[.float .f64 a, .float .f64 c, .float .f64 a, .float .f64 d, .float .f64 b, .float .f64 c, .float .f64 b, .float .f64 d], .func (.func 63) #[] #[]] W fun r w' => r = .returned (.agg #[.float .f64 x, .float .f64 y]) ∧ Below W.heap.size W w')
    (k3 : v = true → ∀ W, Calls Tryz.prog 12 #[.agg #[.float .f64 c, .float .f64 d], .float .f64 0] W fun r w' => r = .returned (.bool z) ∧ Below W.heap.size W w') :
    Calls Tryz.prog 28 #[.agg #[.float .f64 a, .float .f64 b], .agg #[.float .f64 c, .float .f64 d]] w fun r w' => r = .returned (quoV v z x y) ∧ Below w.heap.size w w' := by
  have H1 : Hid (∀ W g T, W.heap[g]? = some (.cells #[.float .f64 a, .float .f64 b, .float .f64 c, .float .f64 d] T (0, 0)) → Calls Tryz.prog 39 #[.slice (some ⟨g, 0, none⟩) 2 2] W fun r w' => r = .returned (.bool v) ∧ Below W.heap.size W w') := k1
  have H2 : Hid (v = true → z = false → ∀ W, Below w.heap.size w W → Calls Tryz.prog 58 #[.agg #[.float .f64 a, .float .f64 c, .float .f64 a, .float .f64 d, .float .f64 b, .float .f64 c, .float .f64 b, .float .f64 d], .func (.func 63) #[] #[]] W fun r w' => r = .returned (.agg #[.float .f64 x, .float .f64 y]) ∧ Below W.heap.size W w') := k2
  have H3 : Hid (v = true → ∀ W, Calls Tryz.prog 12 #[.agg #[.float .f64 c, .float .f64 d], .float .f64 0] W fun r w' => r = .returned (.bool z) ∧ Below W.heap.size W w') := k3
  obtain ⟨W, hW⟩ : ∃ W, W = (((w.alloc (.cells #[.float .f64 a, .float .f64 b] 24)).alloc (.cells #[.float .f64 c, .float .f64 d] 24)).alloc (.cells #[.float .f64 0, .float .f64 0] 24)) := ⟨_, rfl⟩
  have HX : Hid (Below w.heap.size w W ∧ IvB W (w.heap.size) a b ∧ IvB W (w.heap.size + 1) c d ∧ IvB W (w.heap.size + 1 + 1) 0 0) := by
    rw [hW]
    exact ⟨bxs3_0 w a b c d 0 0, bxs3_1 w a b c d 0 0, bxs3_2 w a b c d 0 0, bxs3_3 w a b c d 0 0⟩
  have HK : Hid (∀ w', Below W.heap.size W w' → IvF w' (w.heap.size) a b ∧ IvF w' (w.heap.size + 1) c d ∧ IvF w' (w.heap.size + 1 + 1) 0 0) := fun w' hb => ⟨(HX.out.2.1).later hb, (HX.out.2.2.1).later hb, (HX.out.2.2.2).later hb⟩
  obtain ⟨⟨c0, c1, z0, z1⟩, ⟨c2, c3, z2, z3⟩, ⟨c4, c5, z4, z5⟩⟩ := HK.out W (Below.refl _ _)
  have kk := H1.out (W.alloc (.cells #[.float .f64 a, .float .f64 b, .float .f64 c, .float .f64 d] 24)) W.heap.size _ (heap_alloc_new _ _)
  clear k1 k2 k3 H1
  go_enter Tryz.func28, Tryz.ntmps28
  go_upto_region 1 with fail
  rw [← hW]
  clear hW
  go_wp2_with fail
  refine kk.mono ?_
  rintro r w1 ⟨rfl, hb1⟩
  clear kk
  have hb2 : Below W.heap.size W w1 := ((Below.refl _ _).alloc (Nat.le_refl _) _).trans (hb1.mono (by simp))
  clear c0 c1 c2 c3 c4 c5 z0 z1 z2 z3 z4 z5
  obtain ⟨⟨c0, c1, z0, z1⟩, ⟨c2, c3, z2, z3⟩, ⟨c4, c5, z4, z5⟩⟩ := HK.out w1 hb2
  cases v
  · have HB : Hid (Below w.heap.size w w1) := HX.out.1.trans (hb2.mono HX.out.1.size)
    have HR : Hid (IvB w1 (w.heap.size + 1 + 1) 0 0) := HX.out.2.2.2.box hb2
    clear hb1 hb2 HK HX H2 H3
    go_wp2
    refine bodyPost_ret (results_cell_tmp_row rfl _ _ (w.heap.size + 1 + 1) 24 #[.float .f64 0, .float .f64 0] (0, 0) _ rfl (HR.out.set _ _) Tryz.underlying24 rfl iv_info) rfl ?_
    exact ⟨rfl, below_store2 HB.out (by omega) _ _⟩
  have kh := H3.out (by simp) w1
  have HB1 : Hid (Below W.heap.size W w1) := hb2
  clear hb1 hb2 H3
  go_wp2_with fail
  refine kh.mono ?_
  rintro r w2 ⟨rfl, hb2⟩
  have hb3 : Below W.heap.size W w2 := HB1.out.trans (hb2.mono HB1.out.size)
  clear c0 c1 c2 c3 c4 c5 z0 z1 z2 z3 z4 z5 kh HB1
  obtain ⟨⟨c0, c1, z0, z1⟩, ⟨c2, c3, z2, z3⟩, ⟨c4, c5, z4, z5⟩⟩ := HK.out w2 hb3
  cases z
  case true =>
    have HB : Hid (Below w.heap.size w w2) := HX.out.1.trans (hb3.mono HX.out.1.size)
    have HR : Hid (IvB w2 (w.heap.size + 1 + 1) 0 0) := HX.out.2.2.2.box hb3
    clear hb2 hb3 HK HX H2
    go_wp2
    refine bodyPost_ret (results_cell_tmp_row rfl _ _ (w.heap.size + 1 + 1) 24 #[.float .f64 0, .float .f64 0] (0, 0) _ rfl (HR.out.set _ _) Tryz.underlying24 rfl iv_info) rfl ?_
    exact ⟨rfl, below_store2 HB.out (by omega) _ _⟩
  have kp := spairs a b c d w2
  have HB1 : Hid (Below W.heap.size W w2) := hb3
  clear hb2 hb3
  go_wp2_with fail
  refine kp.mono ?_
  rintro r w3 ⟨rfl, hb2⟩
  have hb3 : Below W.heap.size W w3 := HB1.out.trans (hb2.mono HB1.out.size)
  clear c0 c1 c2 c3 c4 c5 z0 z1 z2 z3 z4 z5 kp HB1
  have ks := H2.out (by simp) (by simp) w3 (HX.out.1.trans (hb3.mono HX.out.1.size))
  have HB3 : Hid (Below W.heap.size W w3) := hb3
  clear hb2 hb3 H2
  go_wp2_with fail
  refine ks.mono ?_
  rintro r w4 ⟨rfl, hb4⟩
  have hb5 : Below W.heap.size W w4 := HB3.out.trans (hb4.mono HB3.out.size)
  obtain ⟨⟨c0, c1, z0, z1⟩, ⟨c2, c3, z2, z3⟩, ⟨c4, c5, z4, z5⟩⟩ := HK.out w4 hb5
  have HB : Hid (Below w.heap.size w w4) := HX.out.1.trans (hb5.mono HX.out.1.size)
  have HR : Hid (IvB w4 (w.heap.size + 1 + 1) 0 0) := HX.out.2.2.2.box hb5
  clear ks hb4 hb5 HK HX HB3
  go_wp2
  refine bodyPost_ret (results_cell_tmp_row rfl _ _ (w.heap.size + 1 + 1) 24 #[.float .f64 x, .float .f64 y] (0, 0) _ rfl (HR.out.set _ _) Tryz.underlying24 rfl iv_info) rfl ?_
  exact ⟨rfl, below_store2 HB.out (by omega) _ _⟩
end Go.Proofs.YtnalhfcpcpondaaGreatDoor
