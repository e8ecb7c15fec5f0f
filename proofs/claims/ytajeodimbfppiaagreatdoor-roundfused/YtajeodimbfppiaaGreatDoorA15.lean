/- Own work: contracts of the program's functions, part 15: SB3 FL2 SC1 SE1 RY6 SC2 RY7 SD1 SE2 SB4. -/
import Derived.Test.YtajeodimbfppiaaGreatDoorA14
import Derived.Test.YtajeodimbfppiaaGreatDoorA8
import Derived.Test.YtajeodimbfppiaaGreatDoorA9

/- Hypot of 3 and 4, and a float made whole: what the law's own test asks. -/
namespace Go.Proofs.YtajeodimbfppiaaGreatDoor
set_option linter.unusedVariables false
set_option linter.unusedSimpArgs false
open Go.RowKit Go.Fl64

/-- the product of two numbers, in its one form -/
def tM (t1 t2 : Bool × Nat × Int) : Bool × Nat × Int := cn (!(t1.1 == t2.1)) (t1.2.1 * t2.2.1) (t1.2.2 + t2.2.2)
/-- how many digits are laid behind a number whose root is taken -/
def sqK (t : Bool × Nat × Int) : Nat := if ((t.2.2 - ((max 0 (128 - (bl t.2.1 : Int))).toNat : Int)).tmod 2 != 0) = true then (max 0 (128 - (bl t.2.1 : Int))).toNat + 1 else (max 0 (128 - (bl t.2.1 : Int))).toNat
theorem td2 (z : Int) (h1 : -80000 ≤ z) (h2 : z ≤ 80000) : -40000 ≤ z.tdiv 2 ∧ z.tdiv 2 ≤ 40000 := by
  by_cases h : 0 ≤ z
  · rw [Int.tdiv_eq_ediv_of_nonneg h]; omega
  · obtain ⟨y, rfl⟩ : ∃ y, z = -y := ⟨-z, by omega⟩
    rw [Int.neg_tdiv, Int.tdiv_eq_ediv_of_nonneg (by omega)]; omega
theorem psqrt {t : Bool × Nat × Int} {X : Value} {m : Int} {w : World} (hT : Tab32 w) (ok : Ok t) (h : PN w X t) (hs : t.1 = false) (hm : 1 ≤ m ∧ m ≤ 3) :
    Calls Tryz.prog 60 #[X, .int .i64 m] w fun r w' => ∃ q, (q * q ≤ t.2.1 * 2 ^ sqK t ∧ t.2.1 * 2 ^ sqK t < (q + 1) * (q + 1)) ∧ r = .returned (.tuple #[.float .f64 (tfF false (decide (q * q = t.2.1 * 2 ^ sqK t)) q ((t.2.2 - (sqK t : Int)).tdiv 2) m), .int .i64 0]) ∧ Below w.heap.size w w' := by
  obtain ⟨pa, pc, rfl, i1⟩ := h
  have f1 := ok.facts
  have bx := bl_le_dlen t.2.1
  rw [hs]
  obtain ⟨k0', hk0⟩ : ∃ k0' : Nat, max 0 (128 - (bl t.2.1 : Int)) = (k0' : Int) := ⟨(max 0 (128 - (bl t.2.1 : Int))).toNat, by omega⟩
  have hq : (max 0 (128 - (bl t.2.1 : Int))).toNat = k0' := by omega
  have hmb : ∀ W' g, Below w.heap.size w W' → W'.heap[g]? = some (.cells #[.bool false, .slice pa (dlen t.2.1) pc, .int .i64 t.2.2] 45 (0, 0)) → Calls Tryz.prog 80 #[.slice (some ⟨g, 0, none⟩) 1 1] W' fun r w' => r = .returned (.bool true) ∧ Below W'.heap.size W' w' := fun W' g hW' hg => by
    have := maybe1 hg (i1.later hW') (by omega)
    have ok' : okN t.1 (dlen t.2.1) t.2.1 t.2.2 = true := ok
    rw [hs] at ok'
    rw [ok'] at this
    exact this
  unfold sqK
  rw [hq]
  by_cases hod : ((t.2.2 - (k0' : Int)).tmod 2 != 0) = true
  · simp only [if_pos hod]
    have := psqrt_o pa _ pc t.2.1 k0' (bl t.2.1) t.2.2 m _ w hT i1 (by omega) (by omega) (by omega) (by omega) rfl (by omega) hk0 (by omega) hod rfl (td2 _ (by omega) (by omega)).1 (td2 _ (by omega) (by omega)).2 hmb
    rw [show ((k0' + 1 : Nat) : Int) = (k0' : Int) + 1 by omega]
    exact this
  · simp only [if_neg hod]
    exact psqrt_e pa _ pc t.2.1 k0' (bl t.2.1) t.2.2 m _ w hT i1 (by omega) (by omega) (by omega) (by omega) rfl (by omega) hk0 (by omega) (by simpa using hod) rfl (td2 _ (by omega) (by omega)).1 (td2 _ (by omega) (by omega)).2 hmb

theorem root_only {q q' N : Nat} (h1 : q * q ≤ N) (h2 : N < (q + 1) * (q + 1)) (h3 : q' * q' ≤ N) (h4 : N < (q' + 1) * (q' + 1)) : q = q' := by
  rcases Nat.lt_trichotomy q q' with h | h | h
  · have : (q + 1) * (q + 1) ≤ q' * q' := Nat.mul_le_mul h h
    omega
  · exact h
  · have : (q' + 1) * (q' + 1) ≤ q * q := Nat.mul_le_mul h h
    omega

theorem pinf_n (a : Nat) (ha : a < 18446744073709551616) (hf : mag a < 9218868437227405312) (w : World) : Calls Tryz.prog 62 #[.float .f64 a, .int .i64 0] w fun r w' => r = .returned (.bool false) ∧ w' = w := by
  have := c123 a ha w
  rw [show lt 9218868437227405311 (mag a) = false by
    unfold lt
    have h1 : stp 9218868437227405311 = 9218868437227405311 := by decide
    have h2 : stp (mag a) = mag a := by unfold stp sgn neg; rw [decide_eq_false (by omega)]; unfold mag; simp
    rw [h1, h2]
    simp; omega] at this
  exact this

theorem hyp_t : tS (tM (tF 4613937818241073152) (tF 4613937818241073152)) (tM (tF 4616189618054758400) (tF 4616189618054758400)) = (false, 25, 0) := by decide +kernel
theorem hyp_k : sqK (false, 25, 0) = 124 := by decide +kernel
theorem hyp_f : tfF false true (5 * 2 ^ 62) (-62) 3 = 4617315517961601024 := by decide +kernel
theorem hyp_1 : okR (!((tF 4613937818241073152).1 == (tF 4613937818241073152).1)) ((tF 4613937818241073152).2.1 * (tF 4613937818241073152).2.1) ((tF 4613937818241073152).2.2 + (tF 4613937818241073152).2.2) = true := by decide +kernel
theorem hyp_2 : okR (!((tF 4616189618054758400).1 == (tF 4616189618054758400).1)) ((tF 4616189618054758400).2.1 * (tF 4616189618054758400).2.1) ((tF 4616189618054758400).2.2 + (tF 4616189618054758400).2.2) = true := by decide +kernel

theorem tM_ok {t1 t2 : Bool × Nat × Int} (h : okR (!(t1.1 == t2.1)) (t1.2.1 * t2.2.1) (t1.2.2 + t2.2.2) = true) : Ok (tM t1 t2) := ok_cn h
theorem sure_hyp (w : World) (hT : Tab32 w) (hI : Ie.Tab w) : Calls Tryz.prog 23 #[.float .f64 4613937818241073152, .float .f64 4616189618054758400, .int .i64 3] w fun r w' => r = .returned (.float .f64 4617315517961601024) ∧ Below w.heap.size w w' := by
  have m1 := mul_op (tF_ok 4613937818241073152) (tF_ok 4613937818241073152) hyp_1
  have m2 := mul_op (tF_ok 4616189618054758400) (tF_ok 4616189618054758400) hyp_2
  have hadd := add_op (tM_ok hyp_1) (tM_ok hyp_2) (by decide +kernel)
  refine phyp_r _ _ _ 3 (tF 4613937818241073152) (tF 4616189618054758400) (tM (tF 4613937818241073152) (tF 4613937818241073152)) (tM (tF 4616189618054758400) (tF 4616189618054758400)) (false, 25, 0) w (by decide) (pinf_n _ (by decide) (by decide)) (pinf_n _ (by decide) (by decide)) (pfin_y _ (by decide) (by decide)) (pfin_y _ (by decide) (by decide)) (exact_ok _ (by decide) (by decide) w hT hI) (fun W h => exact_ok _ (by decide) (by decide) W (hT.later h) (Tab.later hI h)) (fun W X h h1 => multiplied_op m1 (hT.later h) h1 h1) (fun W X h h1 => multiplied_op m2 (hT.later h) h1 h1) (fun W X Y h h1 h2 => ?_) (fun W X h h1 => ?_)
  · have := added_op hadd (hT.later h) h1 h2
    rw [show cn _ _ _ = (false, 25, 0) from hyp_t] at this
    exact this
  · refine (psqrt (t := (false, 25, 0)) (hT.later h) (show okN false (dlen 25) 25 0 = true by decide +kernel) h1 rfl (by omega)).mono ?_
    rintro r w' ⟨q, ⟨q1, q2⟩, rfl, hb⟩
    refine ⟨?_, hb⟩
    simp only [hyp_k] at q1 q2 ⊢
    have e : q = 5 * 2 ^ 62 := root_only q1 q2 (by decide) (by decide)
    subst e
    rw [decide_eq_true (by decide : (5 * 2 ^ 62) * (5 * 2 ^ 62) = 25 * 2 ^ 124), show ((0 : Int) - ((124 : Nat) : Int)).tdiv 2 = -62 by decide, hyp_f]
end Go.Proofs.YtajeodimbfppiaaGreatDoor

/- Products and quotients of floats of which one is nought or not finite. -/
namespace Go.Fl64
set_option linter.unusedVariables false
set_option linter.unusedSimpArgs false

/-- finite and not nought -/
def pln (a : Nat) : Bool := decide (mag a < 9218868437227405312) && decide (mag a ≠ 0)
theorem pln_false {a : Nat} : pln a = false ↔ (¬ mag a < 9218868437227405312 ∨ mag a = 0) := by
  unfold pln
  by_cases h1 : mag a < 9218868437227405312 <;> by_cases h2 : mag a = 0 <;> simp [h1, h2]
theorem pln_true {a : Nat} : pln a = true ↔ (mag a < 9218868437227405312 ∧ mag a ≠ 0) := by
  unfold pln
  by_cases h1 : mag a < 9218868437227405312 <;> by_cases h2 : mag a = 0 <;> simp [h1, h2]

theorem write_inf (s : Bool) : Ieee.double.write (.infinity s) = sig s 9218868437227405312 := by cases s <;> decide +kernel
theorem write_nought (s : Bool) (e : Int) : Ieee.double.write (.number s 0 e) = sig s 0 := by
  have : Ieee.double.write (.number s 0 e) = Ieee.double.word s 0 := by
    show Ieee.double.nearest s 0 e = _
    unfold Ieee.Format.nearest
    rw [if_pos rfl]
  rw [this]
  cases s <;> decide +kernel

theorem prod_nan_left (d : Ieee.Datum) (s : Bool) (f : Nat) : Ieee.Datum.product (.nan s f) d = none := by cases d <;> rfl
theorem prod_nan_right (d : Ieee.Datum) (s : Bool) (f : Nat) : Ieee.Datum.product d (.nan s f) = none := by cases d <;> rfl
/-- what the document answers of a product of which one is nought or not finite -/
def mulX (a b : Nat) : Nat :=
  if isNaN a || isNaN b then 9221120237041090560
  else if mag a = 9218868437227405312 ∨ mag b = 9218868437227405312 then (if mag a = 0 ∨ mag b = 0 then 9221120237041090560 else sig (neg a != neg b) 9218868437227405312)
  else sig (neg a != neg b) 0
theorem xor_bne (s t : Bool) : (s ^^ t) = (s != t) := by cases s <;> cases t <;> rfl
theorem nan_of {a : Nat} (h : 9218868437227405312 < mag a) : isNaN a = true := by unfold isNaN; simp; omega
theorem nan_no {a : Nat} (h : mag a ≤ 9218868437227405312) : isNaN a = false := by unfold isNaN; simp; omega
theorem num_nought {a m k : Nat} (e : m * 2 ^ k = val (mag a)) : m = 0 ↔ mag a = 0 := by
  have hp := Nat.two_pow_pos k
  constructor
  · intro h
    rw [h, Nat.zero_mul] at e
    exact (val_eq_zero _).1 e.symm
  · intro h
    rw [h, val_zero] at e
    rcases Nat.mul_eq_zero.1 e with h | h
    · exact h
    · omega

theorem mul_non {a b : Nat} (ha : a < 18446744073709551616) (hb : b < 18446744073709551616) (h : pln a = false ∨ pln b = false) :
    (FloatKind.f64.format.mul a b = none ∧ isNaN (mulX a b) = true) ∨ FloatKind.f64.format.mul a b = some (mulX a b) := by
  rw [f64]
  unfold Ieee.Format.mul mulX
  rcases cases3 a with h1 | h1 | h1
  · obtain ⟨m, k, e1, e2⟩ := read_number a ha h1
    have n1 := nan_no (a := a) (by omega)
    rw [e1, n1]
    rcases cases3 b with g1 | g1 | g1
    · obtain ⟨n, j, e3, e4⟩ := read_number b hb g1
      have n2 := nan_no (a := b) (by omega)
      rw [e3, n2, if_neg (by decide), if_neg (by omega)]
      refine .inr ?_
      simp only [Ieee.Datum.product, Option.map_some]
      have hz : m * n = 0 := by
        rcases h with h | h
        · rcases pln_false.1 h with h | h
          · omega
          · rw [(num_nought e2).2 h, Nat.zero_mul]
        · rcases pln_false.1 h with h | h
          · omega
          · rw [(num_nought e4).2 h, Nat.mul_zero]
      rw [hz, write_nought, xor_bne]
    · have n2 := nan_no (a := b) (by omega)
      rw [read_infinity b hb g1, n2, if_neg (by decide), if_pos (.inr g1)]
      simp only [Ieee.Datum.product]
      by_cases hz : mag a = 0
      · rw [if_pos ((num_nought e2).2 hz), if_pos (.inl hz)]
        exact .inl ⟨rfl, nan_x⟩
      · rw [if_neg (fun h => hz ((num_nought e2).1 h)), if_neg (by omega)]
        refine .inr ?_
        simp only [Option.map_some, write_inf, xor_bne]
        cases neg a <;> cases neg b <;> rfl
    · obtain ⟨s, f, e⟩ := read_nan b g1
      rw [e, nan_of g1, prod_nan_right]
      exact .inl ⟨rfl, by rw [Bool.or_true, if_pos rfl]; exact nan_x⟩
  · have n1 := nan_no (a := a) (by omega)
    rw [read_infinity a ha h1, n1]
    rcases cases3 b with g1 | g1 | g1
    · obtain ⟨n, j, e3, e4⟩ := read_number b hb g1
      have n2 := nan_no (a := b) (by omega)
      rw [e3, n2, if_neg (by decide), if_pos (.inl h1)]
      simp only [Ieee.Datum.product]
      by_cases hz : mag b = 0
      · rw [if_pos ((num_nought e4).2 hz), if_pos (.inr hz)]
        exact .inl ⟨rfl, nan_x⟩
      · rw [if_neg (fun h => hz ((num_nought e4).1 h)), if_neg (by omega)]
        refine .inr ?_
        simp only [Option.map_some, write_inf, xor_bne]
    · have n2 := nan_no (a := b) (by omega)
      rw [read_infinity b hb g1, n2, if_neg (by decide), if_pos (.inl h1), if_neg (by omega)]
      refine .inr ?_
      simp only [Ieee.Datum.product, Option.map_some, write_inf, xor_bne]
    · obtain ⟨s, f, e⟩ := read_nan b g1
      rw [e, nan_of g1, prod_nan_right]
      exact .inl ⟨rfl, by rw [Bool.or_true, if_pos rfl]; exact nan_x⟩
  · obtain ⟨s, f, e⟩ := read_nan a h1
    rw [e, nan_of h1, prod_nan_left]
    exact .inl ⟨rfl, by rw [Bool.true_or, if_pos rfl]; exact nan_x⟩

end Go.Fl64

/- The program's Mul and Div of floats, in every case. -/
namespace Go.Proofs.YtajeodimbfppiaaGreatDoor
set_option linter.unusedVariables false
set_option linter.unusedSimpArgs false
open Go.RowKit Go.Fl64

/-- how an operation of the machine answers: in every world the same float, or a NaN that is drawn -/
def Rn (op : BinOp) (a b F : Nat) : Prop := (∀ W, (binOp op 22 (.float .f64 a) (.float .f64 b)).run Tryz.prog W = .ok (.float .f64 F) W) ∨ ∀ W, ∃ n, lk n F ∧ (binOp op 22 (.float .f64 a) (.float .f64 b)).run Tryz.prog W = .ok (.float .f64 n) W.drew
theorem rn_of {op : BinOp} {a b F : Nat} (hop : op = .add ∨ op = .sub ∨ op = .mul ∨ op = .quo) (h : (floatBits op .f64 a b = none ∧ isNaN F = true) ∨ floatBits op .f64 a b = some F) : Rn op a b F := by
  rcases h with ⟨h1, h2⟩ | h1
  · refine .inr fun W => ?_
    obtain ⟨n, n1, n2, hs⟩ := run_nan (P := Tryz.prog) W op 22 a b hop h1
    exact ⟨n, lk.nan n1 n2 h2, hs⟩
  · exact .inl fun W => run_float_arith W op 22 .f64 a b _ h1
theorem tM_fits {lo hi lo' hi' : Int} {t1 t2 : Bool × Nat × Int} (h1 : Fits lo hi t1.2.1 t1.2.2) (h2 : Fits lo' hi' t2.2.1 t2.2.2) : Fits (lo + lo') (hi + hi') (tM t1 t2).2.1 (tM t1 t2).2.2 := Fits.cn (Fits.mul h1 h2)
theorem tM_okR (a b : Nat) : okR (!((tF a).1 == (tF b).1)) ((tF a).2.1 * (tF b).2.1) ((tF a).2.2 + (tF b).2.2) = true := (Fits.mul (tF_fits a) (tF_fits b)).ok (by omega) (by omega) (by omega)
theorem tM_nought {t1 t2 : Bool × Nat × Int} (h1 : t1.2.1 ≠ 0) (h2 : t2.2.1 ≠ 0) : (tM t1 t2).2.1 ≠ 0 := by
  have h : t1.2.1 * t2.2.1 ≠ 0 := Nat.mul_ne_zero h1 h2
  unfold tM cn
  rw [if_neg h]
  intro e
  have := (tz_spec _ _ (Nat.le_refl _) h).2
  simp only at e
  rw [e] at this
  simp at this
theorem mulX_lt {a b : Nat} : mulX a b < 18446744073709551616 := by
  unfold mulX
  repeat' split
  all_goals first | decide | exact (by unfold sig; split <;> decide)
/-- what Mul answers, and Div -/
def fMul (a b : Nat) (m : Int) : Nat := if isM m = false then 9221120237041090560 else if pln a = false ∨ pln b = false then mulX a b else tfF (tM (tF a) (tF b)).1 true (tM (tF a) (tF b)).2.1 (tM (tF a) (tF b)).2.2 m
theorem fMul_lt {a b : Nat} {m : Int} : fMul a b m < 18446744073709551616 := by
  unfold fMul
  split
  · decide
  · rename_i h
    split
    · exact mulX_lt
    · exact tfF_lt (isM_iff.1 (by simpa using h))
end Go.Proofs.YtajeodimbfppiaaGreatDoor

/- The program's Fma of floats. -/
namespace Go.Proofs.YtajeodimbfppiaaGreatDoor
set_option linter.unusedVariables false
set_option linter.unusedSimpArgs false
open Go.RowKit Go.Fl64

theorem pfma_no (a b c : Nat) (m : Int) (w : World) (hm : isM m = false) : Calls Tryz.prog 25 #[.float .f64 a, .float .f64 b, .float .f64 c, .int .i64 m] w fun r w' => r = .returned (.float .f64 9221120237041090561) ∧ Below w.heap.size w w' := by
  have kV := pvalid m w
  rw [hm] at kV
  have kN := Ie.c52 w
  go_enter Tryz.func25, Tryz.ntmps25
  go_wp2_with fail
  refine kV.mono ?_
  rintro r w' ⟨rfl, hw⟩
  rw [hw]
  clear hw kV w'
  go_wp2_with fail
  refine kN.mono ?_
  rintro r w' ⟨rfl, hw⟩
  rw [hw]
  clear hw kN w'
  go_wp2_with fail
  go_ret
  exact ⟨rfl, Below.refl _ _⟩

/-- a product, then a sum, by the machine: what comes of it is alike X -/
def Rn2 (a b c X : Nat) : Prop := ∀ W, ∃ n1 W1, (binOp .mul 22 (.float .f64 a) (.float .f64 b)).run Tryz.prog W = .ok (.float .f64 n1) W1 ∧ (W1 = W ∨ W1 = W.drew) ∧ ∀ W', ∃ n2 W2, (binOp .add 22 (.float .f64 n1) (.float .f64 c)).run Tryz.prog W' = .ok (.float .f64 n2) W2 ∧ (W2 = W' ∨ W2 = W'.drew) ∧ lk n2 X
theorem below_or {B : Nat} {w W W' : World} (h : Below B w W) (h' : W' = W ∨ W' = W.drew) : Below B w W' := by
  rcases h' with rfl | rfl
  · exact h
  · exact h.drew

set_option maxHeartbeats 4000000 in
set_option maxRecDepth 200000 in
theorem pfma_ma (a b c X : Nat) (m : Int) (w : World) (hm : isM m = true) (hfa : ∀ W, Calls Tryz.prog 39 #[.float .f64 a] W fun r w' => r = .returned (.bool false) ∧ w' = W.drew) (h : Rn2 a b c X) : Calls Tryz.prog 25 #[.float .f64 a, .float .f64 b, .float .f64 c, .int .i64 m] w fun r w' => OutF2 w X r w' := by
  have kV := pvalid m w
  rw [hm] at kV
  have kF := hfa w
  have hb0 : Below w.heap.size w w.drew := (Below.refl _ _).drew
  obtain ⟨n1, W1, hr1, hw1, h2⟩ := h w.drew
  have hb1 := below_or hb0 hw1
  obtain ⟨n2, W2, hr2, hw2, hl⟩ := h2 W1
  have HB : Hid (Below w.heap.size w W2 ∧ lk n2 X) := ⟨below_or hb1 hw2, hl⟩
  clear h h2 hw1 hw2 hl hb0 hb1 hfa
  go_enter Tryz.func25, Tryz.ntmps25
  go_wp2_with fail
  refine kV.mono ?_
  rintro r w' ⟨rfl, hw⟩
  rw [hw]
  clear hw kV w'
  go_wp2_with fail
  refine kF.mono ?_
  rintro r w' ⟨rfl, hw⟩
  rw [hw]
  clear hw kF w'
  go_wp2_with fail
  go_ret
  exact ⟨_, rfl, HB.out.2, HB.out.1⟩

set_option maxHeartbeats 4000000 in
set_option maxRecDepth 200000 in
theorem pfma_mb (a b c X : Nat) (m : Int) (w : World) (hm : isM m = true) (hfa : ∀ W, Calls Tryz.prog 39 #[.float .f64 a] W fun r w' => r = .returned (.bool true) ∧ w' = W) (hfb : ∀ W, Calls Tryz.prog 39 #[.float .f64 b] W fun r w' => r = .returned (.bool false) ∧ w' = W.drew) (h : Rn2 a b c X) : Calls Tryz.prog 25 #[.float .f64 a, .float .f64 b, .float .f64 c, .int .i64 m] w fun r w' => OutF2 w X r w' := by
  have kV := pvalid m w
  rw [hm] at kV
  have kF := hfa w
  have kG := hfb w
  have hb0 : Below w.heap.size w w.drew := (Below.refl _ _).drew
  obtain ⟨n1, W1, hr1, hw1, h2⟩ := h w.drew
  have hb1 := below_or hb0 hw1
  obtain ⟨n2, W2, hr2, hw2, hl⟩ := h2 W1
  have HB : Hid (Below w.heap.size w W2 ∧ lk n2 X) := ⟨below_or hb1 hw2, hl⟩
  clear h h2 hw1 hw2 hl hb0 hb1 hfa hfb
  go_enter Tryz.func25, Tryz.ntmps25
  go_wp2_with fail
  refine kV.mono ?_
  rintro r w' ⟨rfl, hw⟩
  rw [hw]
  clear hw kV w'
  go_wp2_with fail
  refine kF.mono ?_
  rintro r w' ⟨rfl, hw⟩
  rw [hw]
  clear hw kF w'
  go_wp2_with fail
  refine kG.mono ?_
  rintro r w' ⟨rfl, hw⟩
  rw [hw]
  clear hw kG w'
  go_wp2_with fail
  go_ret
  exact ⟨_, rfl, HB.out.2, HB.out.1⟩

theorem pfma_c (a b c : Nat) (m : Int) (w : World) (hm : isM m = true) (hfa : ∀ W, Calls Tryz.prog 39 #[.float .f64 a] W fun r w' => r = .returned (.bool true) ∧ w' = W) (hfb : ∀ W, Calls Tryz.prog 39 #[.float .f64 b] W fun r w' => r = .returned (.bool true) ∧ w' = W) (hfc : ∀ W, Calls Tryz.prog 39 #[.float .f64 c] W fun r w' => r = .returned (.bool false) ∧ w' = W.drew) : Calls Tryz.prog 25 #[.float .f64 a, .float .f64 b, .float .f64 c, .int .i64 m] w fun r w' => r = .returned (.float .f64 c) ∧ Below w.heap.size w w' := by
  have kV := pvalid m w
  rw [hm] at kV
  have kF := hfa w
  have kG := hfb w
  have kH := hfc w
  have HB : Hid (Below w.heap.size w w.drew) := (Below.refl _ _).drew
  clear hfa hfb hfc
  go_enter Tryz.func25, Tryz.ntmps25
  go_wp2_with fail
  refine kV.mono ?_
  rintro r w' ⟨rfl, hw⟩
  rw [hw]
  clear hw kV w'
  go_wp2_with fail
  refine kF.mono ?_
  rintro r w' ⟨rfl, hw⟩
  rw [hw]
  clear hw kF w'
  go_wp2_with fail
  refine kG.mono ?_
  rintro r w' ⟨rfl, hw⟩
  rw [hw]
  clear hw kG w'
  go_wp2_with fail
  refine kH.mono ?_
  rintro r w' ⟨rfl, hw⟩
  rw [hw]
  clear hw kH w'
  go_wp2_with fail
  go_ret
  exact ⟨rfl, HB.out⟩

set_option maxHeartbeats 4000000 in
set_option maxRecDepth 200000 in
theorem pfma_z (a b c F : Nat) (m sg : Int) (ta tb tc tm t3 : Bool × Nat × Int) (w : World) (hm : isM m = true) (ha : a < 18446744073709551616) (hb : b < 18446744073709551616) (hc : c < 18446744073709551616)
    (hfa : ∀ W, Calls Tryz.prog 39 #[.float .f64 a] W fun r w' => r = .returned (.bool true) ∧ w' = W) (hfb : ∀ W, Calls Tryz.prog 39 #[.float .f64 b] W fun r w' => r = .returned (.bool true) ∧ w' = W) (hfc : ∀ W, Calls Tryz.prog 39 #[.float .f64 c] W fun r w' => r = .returned (.bool true) ∧ w' = W)
    (kA : Calls Tryz.prog 41 #[.float .f64 a] w fun r w' => OutA w ta r w') (kB : ∀ W, Below w.heap.size w W → Calls Tryz.prog 41 #[.float .f64 b] W fun r w' => OutA W tb r w') (kD : ∀ W, Below w.heap.size w W → Calls Tryz.prog 41 #[.float .f64 c] W fun r w' => OutA W tc r w') (kM : ∀ W X Y, Below w.heap.size w W → PN W X ta → PN W Y tb → Calls Tryz.prog 54 #[X, Y] W fun r w' => OutA W tm r w') (kC : ∀ W X Y, Below w.heap.size w W → PN W X tm → PN W Y tc → Calls Tryz.prog 40 #[X, Y] W fun r w' => OutA W t3 r w') (kS : ∀ W X, PN W X t3 → Calls Tryz.prog 42 #[X] W fun r w' => r = .returned (.int .i64 sg) ∧ Below W.heap.size W w')
    (hs : (sg == 0) = true) (kZ : ∀ W, Calls Tryz.prog 43 #[.bool (neg a != neg b), .bool (neg c), .int .i64 m] W fun r w' => r = .returned (.float .f64 F) ∧ w' = W) :
    Calls Tryz.prog 25 #[.float .f64 a, .float .f64 b, .float .f64 c, .int .i64 m] w fun r w' => r = .returned (.float .f64 F) ∧ Below w.heap.size w w' := by
  have kV := pvalid m w
  rw [hm] at kV
  have HABC : Hid (a < 18446744073709551616 ∧ b < 18446744073709551616 ∧ c < 18446744073709551616) := ⟨ha, hb, hc⟩
  have HKB : Hid (∀ W, Below w.heap.size w W → Calls Tryz.prog 41 #[.float .f64 b] W fun r w' => OutA W tb r w') := kB
  have HKD : Hid (∀ W, Below w.heap.size w W → Calls Tryz.prog 41 #[.float .f64 c] W fun r w' => OutA W tc r w') := kD
  have HKM : Hid (∀ W X Y, Below w.heap.size w W → PN W X ta → PN W Y tb → Calls Tryz.prog 54 #[X, Y] W fun r w' => OutA W tm r w') := kM
  have HKC : Hid (∀ W X Y, Below w.heap.size w W → PN W X tm → PN W Y tc → Calls Tryz.prog 40 #[X, Y] W fun r w' => OutA W t3 r w') := kC
  have HKS : Hid (∀ W X, PN W X t3 → Calls Tryz.prog 42 #[X] W fun r w' => r = .returned (.int .i64 sg) ∧ Below W.heap.size W w') := kS
  have HKR : Hid (∀ W, Calls Tryz.prog 43 #[.bool (neg a != neg b), .bool (neg c), .int .i64 m] W fun r w' => r = .returned (.float .f64 F) ∧ w' = W) := kZ
  have kF := hfa w
  have kG := hfb w
  have kH := hfc w
  clear ha hb hc kB kD kM kC kS kZ hfa hfb hfc
  go_enter Tryz.func25, Tryz.ntmps25
  go_wp2_with fail
  refine kV.mono ?_
  rintro r w' ⟨rfl, hw⟩
  rw [hw]
  clear hw kV w'
  go_wp2_with fail
  refine kF.mono ?_
  rintro r w' ⟨rfl, hw⟩
  rw [hw]
  clear hw kF w'
  go_wp2_with fail
  refine kG.mono ?_
  rintro r w' ⟨rfl, hw⟩
  rw [hw]
  clear hw kG w'
  go_wp2_with fail
  refine kH.mono ?_
  rintro r w' ⟨rfl, hw⟩
  rw [hw]
  clear hw kH w'
  go_wp2_with fail
  refine kA.mono ?_
  rintro r w1 ⟨s1, ao1, n1, cap1, ex1, rfl, hP1, hb1⟩
  have k2 := HKB.out w1 hb1
  clear kA
  go_wp2_with fail
  refine k2.mono ?_
  rintro r w2 ⟨s2, ao2, n2, cap2, ex2, rfl, hP2, hb2⟩
  have HB2 : Hid (Below w.heap.size w w2) := hb1.trans (hb2.mono hb1.size)
  have k3 := HKM.out w2 _ _ HB2.out (hP1.later hb2) hP2
  clear k2 hP1 hP2 hb1 hb2
  go_wp2_with fail
  refine k3.mono ?_
  rintro r w3 ⟨s3, ao3, n3, cap3, ex3, rfl, hP3, hb3⟩
  have HB3 : Hid (Below w.heap.size w w3) := HB2.out.trans (hb3.mono HB2.out.size)
  have k4 := HKD.out w3 HB3.out
  clear k3 hb3
  go_wp2_with fail
  refine k4.mono ?_
  rintro r w4 ⟨s4, ao4, n4, cap4, ex4, rfl, hP4, hb4⟩
  have HB4 : Hid (Below w.heap.size w w4) := HB3.out.trans (hb4.mono HB3.out.size)
  have k5 := HKC.out w4 _ _ HB4.out (hP3.later hb4) hP4
  clear k4 hP3 hP4 hb4
  go_wp2_with fail
  refine k5.mono ?_
  rintro r w5 ⟨s5, ao5, n5, cap5, ex5, rfl, hP5, hb5⟩
  clear k5
  obtain ⟨W3, hW3⟩ : ∃ W3, W3 = w5.alloc (.cells #[.bool s5, .slice ao5 n5 cap5, .int .i64 ex5] 45) := ⟨_, rfl⟩
  have HX : Hid (PN W3 (.agg #[.bool s5, .slice ao5 n5 cap5, .int .i64 ex5]) t3 ∧ Below w.heap.size w W3 ∧ W3.heap[w5.heap.size]? = some (.cells #[.bool s5, .slice ao5 n5 cap5, .int .i64 ex5] 45 (0, 0))) :=
    ⟨by rw [hW3]; exact hP5.later ((Below.refl _ _).alloc (Nat.le_refl _) _), by rw [hW3]; exact HB4.out.trans ((hb5.alloc hb5.size _).mono HB4.out.size), by rw [hW3]; exact heap_alloc_new _ _⟩
  clear hP5 hb5
  go_upto_region 8 with fail
  rw [← hW3]
  clear hW3
  generalize w5.heap.size = g3 at *
  obtain ⟨⟨a0, a1, a2⟩, -⟩ := box_cells HX.out.2.2
  have k6 := HKS.out W3 _ HX.out.1
  go_wp2_with fail
  refine k6.mono ?_
  rintro r w6 ⟨rfl, hb6⟩
  have HB6 : Hid (Below w.heap.size w w6) := HX.out.2.1.trans (hb6.mono HX.out.2.1.size)
  have HP6 : Hid (PN w6 (.agg #[.bool s5, .slice ao5 n5 cap5, .int .i64 ex5]) t3) := HX.out.1.later hb6
  obtain ⟨⟨a0, a1, a2⟩, -⟩ := box_cells (box_later HX.out.2.2 hb6 (lt_of_box HX.out.2.2))
  clear k6 hb6
  have kz := HKR.out w6
  have sa := Ie.c33 a HABC.out.1 w6
  have sb := Ie.c33 b HABC.out.2.1 w6
  have sc := Ie.c33 c HABC.out.2.2 w6
  clear a0 a1 a2
  go_wp2_with fail
  refine sa.mono ?_
  rintro r w' ⟨rfl, hw⟩
  rw [hw]
  clear hw sa w'
  go_wp2_with fail
  refine sb.mono ?_
  rintro r w' ⟨rfl, hw⟩
  rw [hw]
  clear hw sb w'
  go_wp2_with fail
  refine sc.mono ?_
  rintro r w' ⟨rfl, hw⟩
  rw [hw]
  clear hw sc w'
  go_wp2_with fail
  refine kz.mono ?_
  rintro r w' ⟨rfl, hw⟩
  rw [hw]
  clear hw kz w'
  go_wp2_with fail
  go_ret
  exact ⟨rfl, HB6.out⟩

set_option maxHeartbeats 4000000 in
set_option maxRecDepth 200000 in
theorem pfma_r (a b c F : Nat) (m sg : Int) (ta tb tc tm t3 : Bool × Nat × Int) (w : World) (hm : isM m = true) (ha : a < 18446744073709551616) (hb : b < 18446744073709551616) (hc : c < 18446744073709551616)
    (hfa : ∀ W, Calls Tryz.prog 39 #[.float .f64 a] W fun r w' => r = .returned (.bool true) ∧ w' = W) (hfb : ∀ W, Calls Tryz.prog 39 #[.float .f64 b] W fun r w' => r = .returned (.bool true) ∧ w' = W) (hfc : ∀ W, Calls Tryz.prog 39 #[.float .f64 c] W fun r w' => r = .returned (.bool true) ∧ w' = W)
    (kA : Calls Tryz.prog 41 #[.float .f64 a] w fun r w' => OutA w ta r w') (kB : ∀ W, Below w.heap.size w W → Calls Tryz.prog 41 #[.float .f64 b] W fun r w' => OutA W tb r w') (kD : ∀ W, Below w.heap.size w W → Calls Tryz.prog 41 #[.float .f64 c] W fun r w' => OutA W tc r w') (kM : ∀ W X Y, Below w.heap.size w W → PN W X ta → PN W Y tb → Calls Tryz.prog 54 #[X, Y] W fun r w' => OutA W tm r w') (kC : ∀ W X Y, Below w.heap.size w W → PN W X tm → PN W Y tc → Calls Tryz.prog 40 #[X, Y] W fun r w' => OutA W t3 r w') (kS : ∀ W X, PN W X t3 → Calls Tryz.prog 42 #[X] W fun r w' => r = .returned (.int .i64 sg) ∧ Below W.heap.size W w')
    (hs : (sg == 0) = false) (kR : ∀ W X, Below w.heap.size w W → PN W X t3 → Calls Tryz.prog 45 #[X, .int .i64 m] W fun r w' => r = .returned (.float .f64 F) ∧ Below W.heap.size W w') :
    Calls Tryz.prog 25 #[.float .f64 a, .float .f64 b, .float .f64 c, .int .i64 m] w fun r w' => r = .returned (.float .f64 F) ∧ Below w.heap.size w w' := by
  have kV := pvalid m w
  rw [hm] at kV
  have HABC : Hid (a < 18446744073709551616 ∧ b < 18446744073709551616 ∧ c < 18446744073709551616) := ⟨ha, hb, hc⟩
  have HKB : Hid (∀ W, Below w.heap.size w W → Calls Tryz.prog 41 #[.float .f64 b] W fun r w' => OutA W tb r w') := kB
  have HKD : Hid (∀ W, Below w.heap.size w W → Calls Tryz.prog 41 #[.float .f64 c] W fun r w' => OutA W tc r w') := kD
  have HKM : Hid (∀ W X Y, Below w.heap.size w W → PN W X ta → PN W Y tb → Calls Tryz.prog 54 #[X, Y] W fun r w' => OutA W tm r w') := kM
  have HKC : Hid (∀ W X Y, Below w.heap.size w W → PN W X tm → PN W Y tc → Calls Tryz.prog 40 #[X, Y] W fun r w' => OutA W t3 r w') := kC
  have HKS : Hid (∀ W X, PN W X t3 → Calls Tryz.prog 42 #[X] W fun r w' => r = .returned (.int .i64 sg) ∧ Below W.heap.size W w') := kS
  have HKR : Hid (∀ W X, Below w.heap.size w W → PN W X t3 → Calls Tryz.prog 45 #[X, .int .i64 m] W fun r w' => r = .returned (.float .f64 F) ∧ Below W.heap.size W w') := kR
  have kF := hfa w
  have kG := hfb w
  have kH := hfc w
  clear ha hb hc kB kD kM kC kS kR hfa hfb hfc
  go_enter Tryz.func25, Tryz.ntmps25
  go_wp2_with fail
  refine kV.mono ?_
  rintro r w' ⟨rfl, hw⟩
  rw [hw]
  clear hw kV w'
  go_wp2_with fail
  refine kF.mono ?_
  rintro r w' ⟨rfl, hw⟩
  rw [hw]
  clear hw kF w'
  go_wp2_with fail
  refine kG.mono ?_
  rintro r w' ⟨rfl, hw⟩
  rw [hw]
  clear hw kG w'
  go_wp2_with fail
  refine kH.mono ?_
  rintro r w' ⟨rfl, hw⟩
  rw [hw]
  clear hw kH w'
  go_wp2_with fail
  refine kA.mono ?_
  rintro r w1 ⟨s1, ao1, n1, cap1, ex1, rfl, hP1, hb1⟩
  have k2 := HKB.out w1 hb1
  clear kA
  go_wp2_with fail
  refine k2.mono ?_
  rintro r w2 ⟨s2, ao2, n2, cap2, ex2, rfl, hP2, hb2⟩
  have HB2 : Hid (Below w.heap.size w w2) := hb1.trans (hb2.mono hb1.size)
  have k3 := HKM.out w2 _ _ HB2.out (hP1.later hb2) hP2
  clear k2 hP1 hP2 hb1 hb2
  go_wp2_with fail
  refine k3.mono ?_
  rintro r w3 ⟨s3, ao3, n3, cap3, ex3, rfl, hP3, hb3⟩
  have HB3 : Hid (Below w.heap.size w w3) := HB2.out.trans (hb3.mono HB2.out.size)
  have k4 := HKD.out w3 HB3.out
  clear k3 hb3
  go_wp2_with fail
  refine k4.mono ?_
  rintro r w4 ⟨s4, ao4, n4, cap4, ex4, rfl, hP4, hb4⟩
  have HB4 : Hid (Below w.heap.size w w4) := HB3.out.trans (hb4.mono HB3.out.size)
  have k5 := HKC.out w4 _ _ HB4.out (hP3.later hb4) hP4
  clear k4 hP3 hP4 hb4
  go_wp2_with fail
  refine k5.mono ?_
  rintro r w5 ⟨s5, ao5, n5, cap5, ex5, rfl, hP5, hb5⟩
  clear k5
  obtain ⟨W3, hW3⟩ : ∃ W3, W3 = w5.alloc (.cells #[.bool s5, .slice ao5 n5 cap5, .int .i64 ex5] 45) := ⟨_, rfl⟩
  have HX : Hid (PN W3 (.agg #[.bool s5, .slice ao5 n5 cap5, .int .i64 ex5]) t3 ∧ Below w.heap.size w W3 ∧ W3.heap[w5.heap.size]? = some (.cells #[.bool s5, .slice ao5 n5 cap5, .int .i64 ex5] 45 (0, 0))) :=
    ⟨by rw [hW3]; exact hP5.later ((Below.refl _ _).alloc (Nat.le_refl _) _), by rw [hW3]; exact HB4.out.trans ((hb5.alloc hb5.size _).mono HB4.out.size), by rw [hW3]; exact heap_alloc_new _ _⟩
  clear hP5 hb5
  go_upto_region 8 with fail
  rw [← hW3]
  clear hW3
  generalize w5.heap.size = g3 at *
  obtain ⟨⟨a0, a1, a2⟩, -⟩ := box_cells HX.out.2.2
  have k6 := HKS.out W3 _ HX.out.1
  go_wp2_with fail
  refine k6.mono ?_
  rintro r w6 ⟨rfl, hb6⟩
  have HB6 : Hid (Below w.heap.size w w6) := HX.out.2.1.trans (hb6.mono HX.out.2.1.size)
  have HP6 : Hid (PN w6 (.agg #[.bool s5, .slice ao5 n5 cap5, .int .i64 ex5]) t3) := HX.out.1.later hb6
  obtain ⟨⟨a0, a1, a2⟩, -⟩ := box_cells (box_later HX.out.2.2 hb6 (lt_of_box HX.out.2.2))
  clear k6 hb6
  have kr := HKR.out w6 _ HB6.out HP6.out
  go_wp2_with fail
  refine kr.mono ?_
  rintro r w7 ⟨rfl, hb7⟩
  have HB7 : Hid (Below w.heap.size w w7) := HB6.out.trans (hb7.mono HB6.out.size)
  clear kr hb7 a0 a1 a2
  go_wp2_with fail
  go_ret
  exact ⟨rfl, HB7.out⟩
end Go.Proofs.YtajeodimbfppiaaGreatDoor

/- The document's quotient, rounded: the program's float. -/
namespace Go.Proofs.YtajeodimbfppiaaGreatDoor
set_option linter.unusedVariables false
set_option linter.unusedSimpArgs false
open Go.RowKit Go.Fl64
open Ie

end Go.Proofs.YtajeodimbfppiaaGreatDoor

/- The document's product of numbers, that can be handed on; its Mul and Div of floats. -/
namespace Go.Proofs.YtajeodimbfppiaaGreatDoor
set_option linter.unusedVariables false
set_option linter.unusedSimpArgs false
open Go.RowKit Go.Fl64

set_option maxHeartbeats 4000000 in
set_option maxRecDepth 200000 in
theorem xtimes_1 (na nb sg : Bool) (ua va : Option Addr) (un uc vn vc x y : Nat) (ea eb : Int) (w : World) (h1 : Ir w (.slice ua un uc) x) (h2 : Ir w (.slice va vn vc) y) (hx : dlen x ≤ 400000) (hy : dlen y ≤ 400000) (he1 : -4000000 ≤ ea) (he2 : ea ≤ 4000000) (he3 : -4000000 ≤ eb) (he4 : eb ≤ 4000000) (hsg : (!(na == nb)) = sg) :
    Calls Tryz.prog 31 #[.agg #[.bool na, .slice ua un uc, .int .i64 ea], .agg #[.bool nb, .slice va vn vc, .int .i64 eb]] w fun r w' => ∃ a, r = .returned a ∧ NC w' w.heap.size a sg (x * y) (ea + eb) ∧ Below w.heap.size w w' := by
  obtain ⟨W, hW⟩ : ∃ W, W = ((w.alloc (.cells #[.bool na, .slice ua un uc, .int .i64 ea] 38)).alloc (.cells #[.bool nb, .slice va vn vc, .int .i64 eb] 38)).alloc (.cells #[.bool false, .slice none 0 0, .int .i64 0] 38) := ⟨_, rfl⟩
  obtain ⟨hA, hBb, hC, hsz, hBW⟩ := boxes3 _ _ _ hW
  have hxy : dlen (x * y) ≤ 1000000 := by
    have l1 := (dlen_le (dlen x) x).1 (Nat.le_refl _)
    have l2 := (dlen_le (dlen y) y).1 (Nat.le_refl _)
    have : dlen (x * y) ≤ dlen x + dlen y := (dlen_le _ _).2 (by
      rw [Nat.pow_add]
      rcases Nat.eq_zero_or_pos x with h | h
      · rw [h, Nat.zero_mul]; exact Nat.mul_pos (Bpow_pos _) (Bpow_pos _)
      · exact Nat.mul_lt_mul_of_lt_of_le l1 (Nat.le_of_lt l2) (Bpow_pos _))
    omega
  have HH : Hid (W.heap[w.heap.size + 1 + 1]? = some (.cells #[.bool false, .slice none 0 0, .int .i64 0] 38 (0, 0)) ∧ W.heap.size = w.heap.size + 1 + 1 + 1 ∧ Below w.heap.size w W) := ⟨hC, hsz, hBW⟩
  have k78 : ∀ w4, Below W.heap.size W w4 → Calls Tryz.prog 73 #[.slice ua un uc, .slice va vn vc] w4 fun r w' => ∃ v, r = .returned v ∧ Own w' W.heap.size v (x * y) ∧ Below W.heap.size W w' := fun w4 hb =>
    (rprod ((h1.later hBW).later hb) ((h2.later hBW).later hb) (by omega) (by omega)).mono fun r w' ⟨v, e1, o1, o2⟩ => ⟨v, e1, o1.mono hb.size, hb.trans (o2.mono hb.size)⟩
  have k31 : ∀ v5 w5, Own w5 W.heap.size v5 (x * y) → Below W.heap.size W w5 → Calls Tryz.prog 67 #[.bool sg, v5, .int .i64 (ea + eb)] w5 fun r w' => ∃ s ao n cap ex, r = .returned (.agg #[.bool s, .slice ao n cap, .int .i64 ex]) ∧
      Hid (NC w' w5.heap.size (.agg #[.bool s, .slice ao n cap, .int .i64 ex]) sg (x * y) (ea + eb) ∧ W.heap.size ≤ w5.heap.size) ∧ Below W.heap.size W w' ∧ Hid (w'.heap[w.heap.size + 1 + 1]? = some (.cells #[.bool false, .slice none 0 0, .int .i64 0] 38 (0, 0))) ∧
      (w'.cell? ⟨w.heap.size + 1 + 1, 0, none⟩ = some (.bool false) ∧ w'.cell? ⟨w.heap.size + 1 + 1, 1, none⟩ = some (.slice none 0 0) ∧ w'.cell? ⟨w.heap.size + 1 + 1, 2, none⟩ = some (.int .i64 0)) ∧ (w'.frozen? ⟨w.heap.size + 1 + 1, 0, none⟩ = false ∧ w'.frozen? ⟨w.heap.size + 1 + 1, 1, none⟩ = false ∧ w'.frozen? ⟨w.heap.size + 1 + 1, 2, none⟩ = false) := by
    intro v5 w5 ho hb
    obtain ⟨ao0, cap0, rfl, hl0, -, hat0⟩ := ho.is
    refine (rnormN hat0 (Nat.le_refl _) hl0 (by omega) (by omega)).mono ?_
    rintro r w6 ⟨a, rfl, hN, hb6⟩
    obtain ⟨s, ao, n, cap, ex, rfl⟩ := hN.shape
    have hb46 : Below W.heap.size W w6 := hb.trans (hb6.mono hb.size)
    have hblk := box_later HH.out.1 hb46 (by have := HH.out.2.1; omega)
    obtain ⟨f1, f2⟩ := box_cells29 hblk
    exact ⟨s, ao, n, cap, ex, rfl, ⟨hN, hb.size⟩, hb46, hblk, f1, f2⟩
  obtain ⟨⟨a0, a1, a2⟩, -⟩ := box_cells29 hA
  obtain ⟨⟨b0, b1, b2⟩, -⟩ := box_cells29 hBb
  have HK : Hid (∀ w', Below W.heap.size W w' → ((w'.cell? ⟨w.heap.size, 0, none⟩ = some (.bool na) ∧ w'.cell? ⟨w.heap.size, 1, none⟩ = some (.slice ua un uc) ∧ w'.cell? ⟨w.heap.size, 2, none⟩ = some (.int .i64 ea)) ∧ (w'.cell? ⟨w.heap.size + 1, 0, none⟩ = some (.bool nb) ∧ w'.cell? ⟨w.heap.size + 1, 1, none⟩ = some (.slice va vn vc) ∧ w'.cell? ⟨w.heap.size + 1, 2, none⟩ = some (.int .i64 eb)))) := fun w' hb => ⟨(box_cells29 (box_later hA hb (by omega))).1, (box_cells29 (box_later hBb hb (by omega))).1⟩
  have HK2 : Hid (∀ w', Below (w.heap.size + 1 + 1) W w' → ((w'.cell? ⟨w.heap.size, 0, none⟩ = some (.bool na) ∧ w'.cell? ⟨w.heap.size, 1, none⟩ = some (.slice ua un uc) ∧ w'.cell? ⟨w.heap.size, 2, none⟩ = some (.int .i64 ea)) ∧ (w'.cell? ⟨w.heap.size + 1, 0, none⟩ = some (.bool nb) ∧ w'.cell? ⟨w.heap.size + 1, 1, none⟩ = some (.slice va vn vc) ∧ w'.cell? ⟨w.heap.size + 1, 2, none⟩ = some (.int .i64 eb)))) := fun w' hb => ⟨(box_cells29 (box_later hA hb (by omega))).1, (box_cells29 (box_later hBb hb (by omega))).1⟩
  have HS2 : Hid (w.heap.size + 1 + 1 ≤ W.heap.size) := (by omega : w.heap.size + 1 + 1 ≤ W.heap.size)
  have hBR : Below W.heap.size W W.drew := (Below.refl _ _).drew
  have wz : IntKind.i64.wrap (ea + eb) = ea + eb := by rw [IntKind.wrap_i64]; omega
  clear hA hBb hC hsz hBW h1 h2 hx hy hxy
  go_enter Tryz.func31, Tryz.ntmps31
  go_upto_region 1 with fail
  rw [← hW]
  clear hW
  go_region_held3 (fun w' => ((w'.cell? ⟨w.heap.size, 0, none⟩ = some (.bool na) ∧ w'.cell? ⟨w.heap.size, 1, none⟩ = some (.slice ua un uc) ∧ w'.cell? ⟨w.heap.size, 2, none⟩ = some (.int .i64 ea)) ∧ (w'.cell? ⟨w.heap.size + 1, 0, none⟩ = some (.bool nb) ∧ w'.cell? ⟨w.heap.size + 1, 1, none⟩ = some (.slice va vn vc) ∧ w'.cell? ⟨w.heap.size + 1, 2, none⟩ = some (.int .i64 eb)))) (first | (with_reducible assumption) | exact ⟨⟨a0, a1, a2⟩, b0, b1, b2⟩ | (refine HK.out _ ?_; with_reducible assumption) | (refine HK2.out _ (below_store3 (Below.mono hb6 HS2.out) (Nat.le_refl _) _ _ _)) | go_keep)
    (first | (go_at_call 73; refine (k78 _ (by first | (with_reducible assumption) | exact hBR)).mono ?_; rintro r w5 ⟨v5, rfl, ho5, hb5⟩) | (go_at_call 67; (try simp only [hsg, wz]); refine (k31 _ _ ho5 hb5).mono ?_; rintro r w6 ⟨s6, ao6, n6, cap6, ex6, rfl, hN6, hb6, hblk6, ⟨x1, x2, x3⟩, x4, x5, x6⟩))
  have HF : Hid (Below W.heap.size W w6) := hb6
  clear ho5 hb5 hb6 k31 k78 x1 x2 x3 x4 x5 x6 a0 a1 a2 b0 b1 b2 HK HK2
  go_wp2
  refine bodyPost_ret (results_cell_row rfl _ _ (w.heap.size + 1 + 1) 38 #[.bool s6, .slice ao6 n6 cap6, .int .i64 ex6] (0, 0) _ rfl (store3_29 _ _ _ hblk6.out) Tryz.underlying38 rfl Tryz.info38) rfl ?_
  obtain ⟨-, hs, hBW⟩ := HH.out
  have hs5 := hN6.out.2
  exact ⟨_, rfl, (hN6.out.1.store (by omega) _ _ _).mono (by omega), below_store3 (hBW.trans (HF.out.mono hBW.size)) (by omega) _ _ _⟩


theorem times_dn {t1 t2 : Bool × Nat × Int} {X Y : Value} {w : World} (o1 : Ok t1) (o2 : Ok t2) (h1 : DN w X t1) (h2 : DN w Y t2) : Calls Tryz.prog 31 #[X, Y] w fun r w' => ∃ A, r = .returned A ∧ DN w' A (tM t1 t2) ∧ Below w.heap.size w w' := by
  obtain ⟨ao, cap, rfl, a1⟩ := h1
  obtain ⟨ao', cap', rfl, a2⟩ := h2
  obtain ⟨f1, f2, f3, -, -⟩ := o1.facts
  obtain ⟨g1, g2, g3, -, -⟩ := o2.facts
  exact (xtimes_1 t1.1 t2.1 _ ao ao' _ cap _ cap' t1.2.1 t2.2.1 t1.2.2 t2.2.2 w ⟨ao, cap, rfl, a1.le, a1.at_⟩ ⟨ao', cap', rfl, a2.le, a2.at_⟩ (by omega) (by omega) (by omega) (by omega) (by omega) (by omega) rfl).mono fun r w' ⟨A, e, h, hb⟩ => ⟨A, e, h.dn, hb⟩

theorem dmul_no (a b : Nat) (m : Int) (ha : a < 18446744073709551616) (hb : b < 18446744073709551616) (hm : isM m = false) (w : World) : Calls Tryz.prog 18 #[.float .f64 a, .float .f64 b, .int .i64 m] w fun r w' => r = .returned (.float .f64 9221120237041090560) ∧ w' = w := by
  have kV : ∀ W, Calls Tryz.prog 15 #[.int .i64 m] W fun r w' => r = .returned (.int .i64 1) ∧ w' = W := fun W => by
    have := dvalid m W
    rw [hm] at this
    exact this
  have ksa := Ie.dneg a ha
  have ksb := Ie.dneg b hb
  go_enter Tryz.func18, Tryz.ntmps18
  go_wp2_with (first | (go_at_call 15; refine (kV _).mono ?_; rintro e w' ⟨rfl, hw⟩; rw [hw]; clear hw w') | (go_at_call 46; refine (Ie.dnot _).mono ?_; rintro e w' ⟨rfl, hw⟩; rw [hw]; clear hw w') | (go_at_call 47; first | (with_reducible refine (ksa _).mono ?_; rintro e w' ⟨rfl, hw⟩; rw [hw]; clear hw w') | (with_reducible refine (ksb _).mono ?_; rintro e w' ⟨rfl, hw⟩; rw [hw]; clear hw w')))
  go_ret
  exact ⟨rfl, rfl⟩

theorem zero_iff {a : Nat} : ((mag a : Int) == 0) = decide (mag a = 0) := by
  by_cases h : mag a = 0 <;> simp [h]
theorem inf_dec {a : Nat} : Ie.isInf a = decide (mag a = 9218868437227405312) := by
  by_cases h : mag a = 9218868437227405312
  · rw [decide_eq_true h]; exact Ie.isInf_iff.2 h
  · rw [decide_eq_false h]; exact Ie.isInf_not.2 h

set_option maxHeartbeats 8000000 in
set_option maxRecDepth 200000 in
theorem dmul_non (a b : Nat) (m : Int) (ha : a < 18446744073709551616) (hb : b < 18446744073709551616) (hm : isM m = true) (h : (isNaN a || isNaN b || Ie.isInf a || Ie.isInf b) = true) (w : World) :
    Calls Tryz.prog 18 #[.float .f64 a, .float .f64 b, .int .i64 m] w fun r w' => r = .returned (.float .f64 (mulX a b)) ∧ w' = w := by
  have e : mulX a b = if isNaN a || isNaN b then 9221120237041090560 else if (Ie.isInf a || Ie.isInf b) = true then (if (((mag a : Int) == 0) || ((mag b : Int) == 0)) = true then 9221120237041090560 else sig (neg a != neg b) 9218868437227405312) else sig (neg a != neg b) 0 := by
    unfold mulX
    rw [zero_iff, zero_iff, inf_dec, inf_dec]
    simp
  rw [e]
  have kV : ∀ W, Calls Tryz.prog 15 #[.int .i64 m] W fun r w' => r = .returned (.int .i64 0) ∧ w' = W := fun W => by
    have := dvalid m W
    rw [hm] at this
    exact this
  have kna := Ie.dnan a ha
  have knb := Ie.dnan b hb
  have kia := Ie.dinf a ha
  have kib := Ie.dinf b hb
  have ksa := Ie.dneg a ha
  have ksb := Ie.dneg b hb
  have kza := Ie.diszero a ha
  have kzb := Ie.diszero b hb
  clear e ha hb hm
  generalize isNaN a = na at *
  generalize isNaN b = nb at *
  generalize Ie.isInf a = ia at *
  generalize Ie.isInf b = ib at *
  generalize ((mag a : Int) == 0) = za at *
  generalize ((mag b : Int) == 0) = zb at *
  generalize neg a = sa at *
  generalize neg b = sb at *
  cases na
  · cases nb
    · have h' : (ia || ib) = true := by simpa using h
      clear h
      rw [if_neg (by decide), if_pos h']
      cases ia
      · simp only [Bool.false_or] at h'
        subst h'
        cases za <;> cases zb
        all_goals
          go_enter Tryz.func18, Tryz.ntmps18
          go_wp2_with (first | (go_at_call 15; refine (kV _).mono ?_; rintro e w' ⟨rfl, hw⟩; rw [hw]; clear hw w') | (go_at_call 46; refine (Ie.dnot _).mono ?_; rintro e w' ⟨rfl, hw⟩; rw [hw]; clear hw w') | (go_at_call 35; first | (with_reducible refine (kna _).mono ?_; rintro e w' ⟨rfl, hw⟩; rw [hw]; clear hw w') | (with_reducible refine (knb _).mono ?_; rintro e w' ⟨rfl, hw⟩; rw [hw]; clear hw w')) | (go_at_call 36; first | (with_reducible refine (kia _).mono ?_; rintro e w' ⟨rfl, hw⟩; rw [hw]; clear hw w') | (with_reducible refine (kib _).mono ?_; rintro e w' ⟨rfl, hw⟩; rw [hw]; clear hw w')) | (go_at_call 47; first | (with_reducible refine (ksa _).mono ?_; rintro e w' ⟨rfl, hw⟩; rw [hw]; clear hw w') | (with_reducible refine (ksb _).mono ?_; rintro e w' ⟨rfl, hw⟩; rw [hw]; clear hw w')) | (go_at_call 55; first | (with_reducible refine (kza _).mono ?_; rintro e w' ⟨rfl, hw⟩; rw [hw]; clear hw w') | (with_reducible refine (kzb _).mono ?_; rintro e w' ⟨rfl, hw⟩; rw [hw]; clear hw w')) | (go_at_call 56; refine (Ie.dendless _ _).mono ?_; rintro e w' ⟨rfl, hw⟩; rw [hw]; clear hw w'))
          go_ret
          exact ⟨rfl, rfl⟩
      · clear h'
        cases za <;> cases zb
        all_goals
          go_enter Tryz.func18, Tryz.ntmps18
          go_wp2_with (first | (go_at_call 15; refine (kV _).mono ?_; rintro e w' ⟨rfl, hw⟩; rw [hw]; clear hw w') | (go_at_call 46; refine (Ie.dnot _).mono ?_; rintro e w' ⟨rfl, hw⟩; rw [hw]; clear hw w') | (go_at_call 35; first | (with_reducible refine (kna _).mono ?_; rintro e w' ⟨rfl, hw⟩; rw [hw]; clear hw w') | (with_reducible refine (knb _).mono ?_; rintro e w' ⟨rfl, hw⟩; rw [hw]; clear hw w')) | (go_at_call 36; first | (with_reducible refine (kia _).mono ?_; rintro e w' ⟨rfl, hw⟩; rw [hw]; clear hw w') | (with_reducible refine (kib _).mono ?_; rintro e w' ⟨rfl, hw⟩; rw [hw]; clear hw w')) | (go_at_call 47; first | (with_reducible refine (ksa _).mono ?_; rintro e w' ⟨rfl, hw⟩; rw [hw]; clear hw w') | (with_reducible refine (ksb _).mono ?_; rintro e w' ⟨rfl, hw⟩; rw [hw]; clear hw w')) | (go_at_call 55; first | (with_reducible refine (kza _).mono ?_; rintro e w' ⟨rfl, hw⟩; rw [hw]; clear hw w') | (with_reducible refine (kzb _).mono ?_; rintro e w' ⟨rfl, hw⟩; rw [hw]; clear hw w')) | (go_at_call 56; refine (Ie.dendless _ _).mono ?_; rintro e w' ⟨rfl, hw⟩; rw [hw]; clear hw w'))
          go_ret
          exact ⟨rfl, rfl⟩
    · go_enter Tryz.func18, Tryz.ntmps18
      go_wp2_with (first | (go_at_call 15; refine (kV _).mono ?_; rintro e w' ⟨rfl, hw⟩; rw [hw]; clear hw w') | (go_at_call 46; refine (Ie.dnot _).mono ?_; rintro e w' ⟨rfl, hw⟩; rw [hw]; clear hw w') | (go_at_call 35; first | (with_reducible refine (kna _).mono ?_; rintro e w' ⟨rfl, hw⟩; rw [hw]; clear hw w') | (with_reducible refine (knb _).mono ?_; rintro e w' ⟨rfl, hw⟩; rw [hw]; clear hw w')) | (go_at_call 36; first | (with_reducible refine (kia _).mono ?_; rintro e w' ⟨rfl, hw⟩; rw [hw]; clear hw w') | (with_reducible refine (kib _).mono ?_; rintro e w' ⟨rfl, hw⟩; rw [hw]; clear hw w')) | (go_at_call 47; first | (with_reducible refine (ksa _).mono ?_; rintro e w' ⟨rfl, hw⟩; rw [hw]; clear hw w') | (with_reducible refine (ksb _).mono ?_; rintro e w' ⟨rfl, hw⟩; rw [hw]; clear hw w')) | (go_at_call 55; first | (with_reducible refine (kza _).mono ?_; rintro e w' ⟨rfl, hw⟩; rw [hw]; clear hw w') | (with_reducible refine (kzb _).mono ?_; rintro e w' ⟨rfl, hw⟩; rw [hw]; clear hw w')))
      go_ret
      exact ⟨rfl, rfl⟩
  · go_enter Tryz.func18, Tryz.ntmps18
    go_wp2_with (first | (go_at_call 15; refine (kV _).mono ?_; rintro e w' ⟨rfl, hw⟩; rw [hw]; clear hw w') | (go_at_call 46; refine (Ie.dnot _).mono ?_; rintro e w' ⟨rfl, hw⟩; rw [hw]; clear hw w') | (go_at_call 35; first | (with_reducible refine (kna _).mono ?_; rintro e w' ⟨rfl, hw⟩; rw [hw]; clear hw w') | (with_reducible refine (knb _).mono ?_; rintro e w' ⟨rfl, hw⟩; rw [hw]; clear hw w')) | (go_at_call 36; first | (with_reducible refine (kia _).mono ?_; rintro e w' ⟨rfl, hw⟩; rw [hw]; clear hw w') | (with_reducible refine (kib _).mono ?_; rintro e w' ⟨rfl, hw⟩; rw [hw]; clear hw w')) | (go_at_call 47; first | (with_reducible refine (ksa _).mono ?_; rintro e w' ⟨rfl, hw⟩; rw [hw]; clear hw w') | (with_reducible refine (ksb _).mono ?_; rintro e w' ⟨rfl, hw⟩; rw [hw]; clear hw w')) | (go_at_call 55; first | (with_reducible refine (kza _).mono ?_; rintro e w' ⟨rfl, hw⟩; rw [hw]; clear hw w') | (with_reducible refine (kzb _).mono ?_; rintro e w' ⟨rfl, hw⟩; rw [hw]; clear hw w')))
    go_ret
    exact ⟨rfl, rfl⟩

set_option maxHeartbeats 4000000 in
set_option maxRecDepth 200000 in
theorem dmul_fin (a b F : Nat) (m : Int) (ta tb t3 : Bool × Nat × Int) (w : World) (hm : isM m = true) (ha : a < 18446744073709551616) (hb : b < 18446744073709551616)
    (hfa : mag a < 9218868437227405312) (hfb : mag b < 9218868437227405312)
    (kA : Calls Tryz.prog 28 #[.float .f64 a] w fun r w' => ∃ A, r = .returned A ∧ DN w' A ta ∧ Below w.heap.size w w')
    (kB : ∀ W, Below w.heap.size w W → Calls Tryz.prog 28 #[.float .f64 b] W fun r w' => ∃ A, r = .returned A ∧ DN w' A tb ∧ Below W.heap.size W w')
    (kC : ∀ W X Y, Below w.heap.size w W → DN W X ta → DN W Y tb → Calls Tryz.prog 31 #[X, Y] W fun r w' => ∃ A, r = .returned A ∧ DN w' A t3 ∧ Below W.heap.size W w')
    (kR : ∀ W X, Below w.heap.size w W → DN W X t3 → Calls Tryz.prog 48 #[X, .int .i64 m, .float .f64 (sig (neg a != neg b) 0)] W fun r w' => r = .returned (.float .f64 F) ∧ Below W.heap.size W w') :
    Calls Tryz.prog 18 #[.float .f64 a, .float .f64 b, .int .i64 m] w fun r w' => r = .returned (.float .f64 F) ∧ Below w.heap.size w w' := by
  have kV : ∀ W, Calls Tryz.prog 15 #[.int .i64 m] W fun r w' => r = .returned (.int .i64 0) ∧ w' = W := fun W => by
    have := dvalid m W
    rw [hm] at this
    exact this
  have kna := Ie.dnan a ha
  have knb := Ie.dnan b hb
  have kia := Ie.dinf a ha
  have kib := Ie.dinf b hb
  have ksa := Ie.dneg a ha
  have ksb := Ie.dneg b hb
  rw [show isNaN a = false by unfold isNaN; simp; omega] at kna
  rw [show isNaN b = false by unfold isNaN; simp; omega] at knb
  rw [Ie.isInf_not.2 (by omega)] at kia
  rw [Ie.isInf_not.2 (by omega)] at kib
  have HKB : Hid (∀ W, Below w.heap.size w W → Calls Tryz.prog 28 #[.float .f64 b] W fun r w' => ∃ A, r = .returned A ∧ DN w' A tb ∧ Below W.heap.size W w') := kB
  have HKC : Hid (∀ W X Y, Below w.heap.size w W → DN W X ta → DN W Y tb → Calls Tryz.prog 31 #[X, Y] W fun r w' => ∃ A, r = .returned A ∧ DN w' A t3 ∧ Below W.heap.size W w') := kC
  have HKR : Hid (∀ W X, Below w.heap.size w W → DN W X t3 → Calls Tryz.prog 48 #[X, .int .i64 m, .float .f64 (sig (neg a != neg b) 0)] W fun r w' => r = .returned (.float .f64 F) ∧ Below W.heap.size W w') := kR
  clear ha hb kB kC kR hfa hfb
  go_enter Tryz.func18, Tryz.ntmps18
  go_wp2_with (first | (go_at_call 15; refine (kV _).mono ?_; rintro e w' ⟨rfl, hw⟩; rw [hw]; clear hw w') | (go_at_call 35; first | (with_reducible refine (kna _).mono ?_; rintro e w' ⟨rfl, hw⟩; rw [hw]; clear hw w') | (with_reducible refine (knb _).mono ?_; rintro e w' ⟨rfl, hw⟩; rw [hw]; clear hw w')) | (go_at_call 36; first | (with_reducible refine (kia _).mono ?_; rintro e w' ⟨rfl, hw⟩; rw [hw]; clear hw w') | (with_reducible refine (kib _).mono ?_; rintro e w' ⟨rfl, hw⟩; rw [hw]; clear hw w')) | (go_at_call 47; first | (with_reducible refine (ksa _).mono ?_; rintro e w' ⟨rfl, hw⟩; rw [hw]; clear hw w') | (with_reducible refine (ksb _).mono ?_; rintro e w' ⟨rfl, hw⟩; rw [hw]; clear hw w')))
  clear kna knb kia kib kV ksa ksb
  refine kA.mono ?_
  rintro r w1 ⟨A1, rfl, hP1, hb1⟩
  have k2 := HKB.out w1 hb1
  clear kA
  go_wp2_with fail
  refine k2.mono ?_
  rintro r w2 ⟨A2, rfl, hP2, hb2⟩
  have HB2 : Hid (Below w.heap.size w w2) := hb1.trans (hb2.mono hb1.size)
  have k3 := HKC.out w2 _ _ HB2.out (hP1.later hb2) hP2
  clear k2 hP1 hP2 hb1 hb2
  go_wp2_with fail
  refine k3.mono ?_
  rintro r w3 ⟨A3, rfl, hP3, hb3⟩
  have HB3 : Hid (Below w.heap.size w w3) := HB2.out.trans (hb3.mono HB2.out.size)
  have k4 := HKR.out w3 _ HB3.out hP3
  have k5 := Ie.dnought (neg a != neg b) w3
  clear k3 hP3 hb3
  go_wp2_with fail
  refine k5.mono ?_
  rintro r w6 ⟨rfl, hw⟩
  rw [hw]
  clear hw k5
  go_wp2_with fail
  refine k4.mono ?_
  rintro r w6 ⟨rfl, hb6⟩
  have HB6 : Hid (Below w.heap.size w w6) := HB3.out.trans (hb6.mono HB3.out.size)
  clear k4 hb6
  go_wp2_with fail
  go_ret
  exact ⟨rfl, HB6.out⟩

theorem tF_nought {a : Nat} (h : mag a = 0) : (tF a).2.1 = 0 := by
  have : Ie.mant a = 0 := by unfold Ie.mant; rw [if_pos (by omega)]; exact h
  unfold tF cn
  rw [if_pos this]
theorem nonfin {a : Nat} (h : ¬ mag a < 9218868437227405312) : (isNaN a || Ie.isInf a) = true := by
  rcases Nat.lt_or_eq_of_le (Nat.le_of_not_lt h) with h | h
  · rw [nan_of h]; rfl
  · rw [Ie.isInf_iff.2 h.symm, Bool.or_true]
theorem dmul_all (a b : Nat) (m : Int) (ha : a < 18446744073709551616) (hb : b < 18446744073709551616) (w : World) :
    Calls Tryz.prog 18 #[.float .f64 a, .float .f64 b, .int .i64 m] w fun r w' => OutD w (fMul a b m) r w' := by
  unfold fMul
  cases hm : isM m
  · rw [if_pos rfl]
    refine (dmul_no a b m ha hb hm w).mono ?_
    rintro r w' ⟨rfl, hw⟩
    exact ⟨rfl, hw ▸ Below.refl _ _⟩
  · rw [if_neg (by decide)]
    have hm' := isM_iff.1 hm
    by_cases hf : mag a < 9218868437227405312 ∧ mag b < 9218868437227405312
    · obtain ⟨hfa, hfb⟩ := hf
      have hok : Ok (tM (tF a) (tF b)) := tM_ok (tM_okR a b)
      obtain ⟨f1, f2, f3, f4, f5⟩ := hok.facts
      have k := dmul_fin a b _ m (tF a) (tF b) (tM (tF a) (tF b)) w hm ha hb hfa hfb (float_dn a ha w) (fun W' h => float_dn b hb W') (fun W' X Y h h1 h2 => times_dn (tF_ok a) (tF_ok b) h1 h2) (fun W' X h h1 => dR h1 f5 (by omega) (by omega) (by omega) hm')
      refine k.mono ?_
      rintro r w' ⟨rfl, hb'⟩
      refine ⟨?_, hb'⟩
      congr 2
      by_cases hp : pln a = false ∨ pln b = false
      · rw [if_pos hp]
        have h0 : (tM (tF a) (tF b)).2.1 = 0 := by
          have hz : (tF a).2.1 * (tF b).2.1 = 0 := by
            rcases hp with h | h
            · rw [tF_nought ((pln_false.1 h).resolve_left (by omega)), Nat.zero_mul]
            · rw [tF_nought ((pln_false.1 h).resolve_left (by omega)), Nat.mul_zero]
          unfold tM cn
          rw [if_pos hz]
        rw [if_pos h0]
        unfold mulX
        rw [nan_no (by omega), nan_no (by omega), if_neg (by decide), if_neg (by omega)]
      · rw [if_neg hp]
        have pa : pln a = true := by cases h : pln a; exact absurd (.inl h) hp; rfl
        have pb : pln b = true := by cases h : pln b; exact absurd (.inr h) hp; rfl
        rw [if_neg (tM_nought (tF_ne (pln_true.1 pa).2) (tF_ne (pln_true.1 pb).2))]
    · have hp : pln a = false ∨ pln b = false := by
        by_cases h : mag a < 9218868437227405312
        · exact .inr (pln_false.2 (.inl fun h' => hf ⟨h, h'⟩))
        · exact .inl (pln_false.2 (.inl h))
      rw [if_pos hp]
      refine (dmul_non a b m ha hb hm ?_ w).mono ?_
      · by_cases h : mag a < 9218868437227405312
        · have := nonfin (a := b) (fun h' => hf ⟨h, h'⟩)
          revert this
          cases isNaN a <;> cases isNaN b <;> cases Ie.isInf a <;> cases Ie.isInf b <;> decide
        · have := nonfin h
          revert this
          cases isNaN a <;> cases isNaN b <;> cases Ie.isInf a <;> cases Ie.isInf b <;> decide
      · rintro r w' ⟨rfl, hw⟩
        exact ⟨rfl, hw ▸ Below.refl _ _⟩
end Go.Proofs.YtajeodimbfppiaaGreatDoor

/- The document's root, rounded: the program's float. -/
namespace Go.Proofs.YtajeodimbfppiaaGreatDoor
set_option linter.unusedVariables false
set_option linter.unusedSimpArgs false
open Go.RowKit Go.Fl64

end Go.Proofs.YtajeodimbfppiaaGreatDoor

/- Square roots of numbers: the program's and the document's are one float; Sqrt of floats. -/
namespace Go.Proofs.YtajeodimbfppiaaGreatDoor
set_option linter.unusedVariables false
set_option linter.unusedSimpArgs false
open Go.RowKit Go.Fl64

end Go.Proofs.YtajeodimbfppiaaGreatDoor

/- The document's Fma of floats. -/
namespace Go.Proofs.YtajeodimbfppiaaGreatDoor
set_option linter.unusedVariables false
set_option linter.unusedSimpArgs false
open Go.RowKit Go.Fl64

theorem dfma_no (a b c p : Nat) (m : Int) (hm : isM m = false) (w : World) (kM : Calls Tryz.prog 18 #[.float .f64 a, .float .f64 b, .int .i64 2] w fun r w' => OutD w p r w') : Calls Tryz.prog 26 #[.float .f64 a, .float .f64 b, .float .f64 c, .int .i64 m] w fun r w' => OutD w 9221120237041090560 r w' := by
  have kV : ∀ W, Calls Tryz.prog 15 #[.int .i64 m] W fun r w' => r = .returned (.int .i64 1) ∧ w' = W := fun W => by
    have := dvalid m W
    rw [hm] at this
    exact this
  go_enter Tryz.func26, Tryz.ntmps26
  go_wp2_with fail
  refine kM.mono ?_
  rintro r w1 ⟨rfl, hb1⟩
  have HB1 : Hid (Below w.heap.size w w1) := hb1
  clear kM hb1
  go_wp2_with (first | (go_at_call 15; refine (kV _).mono ?_; rintro e w' ⟨rfl, hw⟩; rw [hw]; clear hw w') | (go_at_call 46; refine (Ie.dnot _).mono ?_; rintro e w' ⟨rfl, hw⟩; rw [hw]; clear hw w'))
  go_ret
  exact ⟨rfl, HB1.out⟩

/-- what the document answers of Fma where one is not finite, p being the product -/
def faX (a b c p : Nat) : Nat := if (isNaN a || isNaN b || isNaN c || isNaN p) = true then 9221120237041090560 else if (Ie.isInf a || Ie.isInf b) = true then (if (Ie.isInf c && (neg c != neg p)) = true then 9221120237041090560 else p) else c
set_option maxHeartbeats 8000000 in
set_option maxRecDepth 200000 in
theorem dfma_non (a b c p : Nat) (m : Int) (ha : a < 18446744073709551616) (hb : b < 18446744073709551616) (hc : c < 18446744073709551616) (hp : p < 18446744073709551616) (hm : isM m = true) (h : (isNaN a || isNaN b || isNaN c || isNaN p || Ie.isInf a || Ie.isInf b || Ie.isInf c) = true) (w : World) (kM : Calls Tryz.prog 18 #[.float .f64 a, .float .f64 b, .int .i64 2] w fun r w' => OutD w p r w') :
    Calls Tryz.prog 26 #[.float .f64 a, .float .f64 b, .float .f64 c, .int .i64 m] w fun r w' => OutD w (faX a b c p) r w' := by
  unfold faX
  have kV : ∀ W, Calls Tryz.prog 15 #[.int .i64 m] W fun r w' => r = .returned (.int .i64 0) ∧ w' = W := fun W => by
    have := dvalid m W
    rw [hm] at this
    exact this
  have kna := Ie.dnan a ha
  have knb := Ie.dnan b hb
  have knc := Ie.dnan c hc
  have knp := Ie.dnan p hp
  have kia := Ie.dinf a ha
  have kib := Ie.dinf b hb
  have kic := Ie.dinf c hc
  have ksc := Ie.dneg c hc
  have ksp := Ie.dneg p hp
  clear ha hb hc hp hm
  generalize isNaN a = na at *
  generalize isNaN b = nb at *
  generalize isNaN c = nc at *
  generalize isNaN p = np at *
  generalize Ie.isInf a = ia at *
  generalize Ie.isInf b = ib at *
  generalize Ie.isInf c = ic at *
  generalize neg c = sc at *
  generalize neg p = sp at *
  cases na
  · cases nb
    · cases nc
      · cases np
        · cases ia
          · cases ib
            · cases ic
              · exfalso; revert h; decide
              · clear h
                go_enter Tryz.func26, Tryz.ntmps26
                go_wp2_with fail
                refine kM.mono ?_
                rintro r w1 ⟨rfl, hb1⟩
                have HB1 : Hid (Below w.heap.size w w1) := hb1
                clear kM hb1
                go_wp2_with (first | (go_at_call 15; refine (kV _).mono ?_; rintro e w' ⟨rfl, hw⟩; rw [hw]; clear hw w') | (go_at_call 46; refine (Ie.dnot _).mono ?_; rintro e w' ⟨rfl, hw⟩; rw [hw]; clear hw w') | (go_at_call 35; first | (with_reducible refine (kna _).mono ?_; rintro e w' ⟨rfl, hw⟩; rw [hw]; clear hw w') | (with_reducible refine (knb _).mono ?_; rintro e w' ⟨rfl, hw⟩; rw [hw]; clear hw w') | (with_reducible refine (knc _).mono ?_; rintro e w' ⟨rfl, hw⟩; rw [hw]; clear hw w') | (with_reducible refine (knp _).mono ?_; rintro e w' ⟨rfl, hw⟩; rw [hw]; clear hw w')) | (go_at_call 36; first | (with_reducible refine (kia _).mono ?_; rintro e w' ⟨rfl, hw⟩; rw [hw]; clear hw w') | (with_reducible refine (kib _).mono ?_; rintro e w' ⟨rfl, hw⟩; rw [hw]; clear hw w') | (with_reducible refine (kic _).mono ?_; rintro e w' ⟨rfl, hw⟩; rw [hw]; clear hw w')) | (go_at_call 47; first | (with_reducible refine (ksc _).mono ?_; rintro e w' ⟨rfl, hw⟩; rw [hw]; clear hw w') | (with_reducible refine (ksp _).mono ?_; rintro e w' ⟨rfl, hw⟩; rw [hw]; clear hw w') | (with_reducible refine (ksa _).mono ?_; rintro e w' ⟨rfl, hw⟩; rw [hw]; clear hw w') | (with_reducible refine (ksb _).mono ?_; rintro e w' ⟨rfl, hw⟩; rw [hw]; clear hw w')))
                go_ret
                exact ⟨rfl, HB1.out⟩
            · clear h
              cases ic
              · skip
                go_enter Tryz.func26, Tryz.ntmps26
                go_wp2_with fail
                refine kM.mono ?_
                rintro r w1 ⟨rfl, hb1⟩
                have HB1 : Hid (Below w.heap.size w w1) := hb1
                clear kM hb1
                go_wp2_with (first | (go_at_call 15; refine (kV _).mono ?_; rintro e w' ⟨rfl, hw⟩; rw [hw]; clear hw w') | (go_at_call 46; refine (Ie.dnot _).mono ?_; rintro e w' ⟨rfl, hw⟩; rw [hw]; clear hw w') | (go_at_call 35; first | (with_reducible refine (kna _).mono ?_; rintro e w' ⟨rfl, hw⟩; rw [hw]; clear hw w') | (with_reducible refine (knb _).mono ?_; rintro e w' ⟨rfl, hw⟩; rw [hw]; clear hw w') | (with_reducible refine (knc _).mono ?_; rintro e w' ⟨rfl, hw⟩; rw [hw]; clear hw w') | (with_reducible refine (knp _).mono ?_; rintro e w' ⟨rfl, hw⟩; rw [hw]; clear hw w')) | (go_at_call 36; first | (with_reducible refine (kia _).mono ?_; rintro e w' ⟨rfl, hw⟩; rw [hw]; clear hw w') | (with_reducible refine (kib _).mono ?_; rintro e w' ⟨rfl, hw⟩; rw [hw]; clear hw w') | (with_reducible refine (kic _).mono ?_; rintro e w' ⟨rfl, hw⟩; rw [hw]; clear hw w')) | (go_at_call 47; first | (with_reducible refine (ksc _).mono ?_; rintro e w' ⟨rfl, hw⟩; rw [hw]; clear hw w') | (with_reducible refine (ksp _).mono ?_; rintro e w' ⟨rfl, hw⟩; rw [hw]; clear hw w') | (with_reducible refine (ksa _).mono ?_; rintro e w' ⟨rfl, hw⟩; rw [hw]; clear hw w') | (with_reducible refine (ksb _).mono ?_; rintro e w' ⟨rfl, hw⟩; rw [hw]; clear hw w')))
                go_ret
                exact ⟨rfl, HB1.out⟩
              · cases sc <;> cases sp
                all_goals
                  go_enter Tryz.func26, Tryz.ntmps26
                  go_wp2_with fail
                  refine kM.mono ?_
                  rintro r w1 ⟨rfl, hb1⟩
                  have HB1 : Hid (Below w.heap.size w w1) := hb1
                  clear kM hb1
                  go_wp2_with (first | (go_at_call 15; refine (kV _).mono ?_; rintro e w' ⟨rfl, hw⟩; rw [hw]; clear hw w') | (go_at_call 46; refine (Ie.dnot _).mono ?_; rintro e w' ⟨rfl, hw⟩; rw [hw]; clear hw w') | (go_at_call 35; first | (with_reducible refine (kna _).mono ?_; rintro e w' ⟨rfl, hw⟩; rw [hw]; clear hw w') | (with_reducible refine (knb _).mono ?_; rintro e w' ⟨rfl, hw⟩; rw [hw]; clear hw w') | (with_reducible refine (knc _).mono ?_; rintro e w' ⟨rfl, hw⟩; rw [hw]; clear hw w') | (with_reducible refine (knp _).mono ?_; rintro e w' ⟨rfl, hw⟩; rw [hw]; clear hw w')) | (go_at_call 36; first | (with_reducible refine (kia _).mono ?_; rintro e w' ⟨rfl, hw⟩; rw [hw]; clear hw w') | (with_reducible refine (kib _).mono ?_; rintro e w' ⟨rfl, hw⟩; rw [hw]; clear hw w') | (with_reducible refine (kic _).mono ?_; rintro e w' ⟨rfl, hw⟩; rw [hw]; clear hw w')) | (go_at_call 47; first | (with_reducible refine (ksc _).mono ?_; rintro e w' ⟨rfl, hw⟩; rw [hw]; clear hw w') | (with_reducible refine (ksp _).mono ?_; rintro e w' ⟨rfl, hw⟩; rw [hw]; clear hw w') | (with_reducible refine (ksa _).mono ?_; rintro e w' ⟨rfl, hw⟩; rw [hw]; clear hw w') | (with_reducible refine (ksb _).mono ?_; rintro e w' ⟨rfl, hw⟩; rw [hw]; clear hw w')))
                  go_ret
                  exact ⟨rfl, HB1.out⟩
          · clear h
            cases ic
            · skip
              go_enter Tryz.func26, Tryz.ntmps26
              go_wp2_with fail
              refine kM.mono ?_
              rintro r w1 ⟨rfl, hb1⟩
              have HB1 : Hid (Below w.heap.size w w1) := hb1
              clear kM hb1
              go_wp2_with (first | (go_at_call 15; refine (kV _).mono ?_; rintro e w' ⟨rfl, hw⟩; rw [hw]; clear hw w') | (go_at_call 46; refine (Ie.dnot _).mono ?_; rintro e w' ⟨rfl, hw⟩; rw [hw]; clear hw w') | (go_at_call 35; first | (with_reducible refine (kna _).mono ?_; rintro e w' ⟨rfl, hw⟩; rw [hw]; clear hw w') | (with_reducible refine (knb _).mono ?_; rintro e w' ⟨rfl, hw⟩; rw [hw]; clear hw w') | (with_reducible refine (knc _).mono ?_; rintro e w' ⟨rfl, hw⟩; rw [hw]; clear hw w') | (with_reducible refine (knp _).mono ?_; rintro e w' ⟨rfl, hw⟩; rw [hw]; clear hw w')) | (go_at_call 36; first | (with_reducible refine (kia _).mono ?_; rintro e w' ⟨rfl, hw⟩; rw [hw]; clear hw w') | (with_reducible refine (kib _).mono ?_; rintro e w' ⟨rfl, hw⟩; rw [hw]; clear hw w') | (with_reducible refine (kic _).mono ?_; rintro e w' ⟨rfl, hw⟩; rw [hw]; clear hw w')) | (go_at_call 47; first | (with_reducible refine (ksc _).mono ?_; rintro e w' ⟨rfl, hw⟩; rw [hw]; clear hw w') | (with_reducible refine (ksp _).mono ?_; rintro e w' ⟨rfl, hw⟩; rw [hw]; clear hw w') | (with_reducible refine (ksa _).mono ?_; rintro e w' ⟨rfl, hw⟩; rw [hw]; clear hw w') | (with_reducible refine (ksb _).mono ?_; rintro e w' ⟨rfl, hw⟩; rw [hw]; clear hw w')))
              go_ret
              exact ⟨rfl, HB1.out⟩
            · cases sc <;> cases sp
              all_goals
                go_enter Tryz.func26, Tryz.ntmps26
                go_wp2_with fail
                refine kM.mono ?_
                rintro r w1 ⟨rfl, hb1⟩
                have HB1 : Hid (Below w.heap.size w w1) := hb1
                clear kM hb1
                go_wp2_with (first | (go_at_call 15; refine (kV _).mono ?_; rintro e w' ⟨rfl, hw⟩; rw [hw]; clear hw w') | (go_at_call 46; refine (Ie.dnot _).mono ?_; rintro e w' ⟨rfl, hw⟩; rw [hw]; clear hw w') | (go_at_call 35; first | (with_reducible refine (kna _).mono ?_; rintro e w' ⟨rfl, hw⟩; rw [hw]; clear hw w') | (with_reducible refine (knb _).mono ?_; rintro e w' ⟨rfl, hw⟩; rw [hw]; clear hw w') | (with_reducible refine (knc _).mono ?_; rintro e w' ⟨rfl, hw⟩; rw [hw]; clear hw w') | (with_reducible refine (knp _).mono ?_; rintro e w' ⟨rfl, hw⟩; rw [hw]; clear hw w')) | (go_at_call 36; first | (with_reducible refine (kia _).mono ?_; rintro e w' ⟨rfl, hw⟩; rw [hw]; clear hw w') | (with_reducible refine (kib _).mono ?_; rintro e w' ⟨rfl, hw⟩; rw [hw]; clear hw w') | (with_reducible refine (kic _).mono ?_; rintro e w' ⟨rfl, hw⟩; rw [hw]; clear hw w')) | (go_at_call 47; first | (with_reducible refine (ksc _).mono ?_; rintro e w' ⟨rfl, hw⟩; rw [hw]; clear hw w') | (with_reducible refine (ksp _).mono ?_; rintro e w' ⟨rfl, hw⟩; rw [hw]; clear hw w') | (with_reducible refine (ksa _).mono ?_; rintro e w' ⟨rfl, hw⟩; rw [hw]; clear hw w') | (with_reducible refine (ksb _).mono ?_; rintro e w' ⟨rfl, hw⟩; rw [hw]; clear hw w')))
                go_ret
                exact ⟨rfl, HB1.out⟩
        · clear h
          go_enter Tryz.func26, Tryz.ntmps26
          go_wp2_with fail
          refine kM.mono ?_
          rintro r w1 ⟨rfl, hb1⟩
          have HB1 : Hid (Below w.heap.size w w1) := hb1
          clear kM hb1
          go_wp2_with (first | (go_at_call 15; refine (kV _).mono ?_; rintro e w' ⟨rfl, hw⟩; rw [hw]; clear hw w') | (go_at_call 46; refine (Ie.dnot _).mono ?_; rintro e w' ⟨rfl, hw⟩; rw [hw]; clear hw w') | (go_at_call 35; first | (with_reducible refine (kna _).mono ?_; rintro e w' ⟨rfl, hw⟩; rw [hw]; clear hw w') | (with_reducible refine (knb _).mono ?_; rintro e w' ⟨rfl, hw⟩; rw [hw]; clear hw w') | (with_reducible refine (knc _).mono ?_; rintro e w' ⟨rfl, hw⟩; rw [hw]; clear hw w') | (with_reducible refine (knp _).mono ?_; rintro e w' ⟨rfl, hw⟩; rw [hw]; clear hw w')) | (go_at_call 36; first | (with_reducible refine (kia _).mono ?_; rintro e w' ⟨rfl, hw⟩; rw [hw]; clear hw w') | (with_reducible refine (kib _).mono ?_; rintro e w' ⟨rfl, hw⟩; rw [hw]; clear hw w') | (with_reducible refine (kic _).mono ?_; rintro e w' ⟨rfl, hw⟩; rw [hw]; clear hw w')) | (go_at_call 47; first | (with_reducible refine (ksc _).mono ?_; rintro e w' ⟨rfl, hw⟩; rw [hw]; clear hw w') | (with_reducible refine (ksp _).mono ?_; rintro e w' ⟨rfl, hw⟩; rw [hw]; clear hw w') | (with_reducible refine (ksa _).mono ?_; rintro e w' ⟨rfl, hw⟩; rw [hw]; clear hw w') | (with_reducible refine (ksb _).mono ?_; rintro e w' ⟨rfl, hw⟩; rw [hw]; clear hw w')))
          go_ret
          exact ⟨rfl, HB1.out⟩
      · clear h
        go_enter Tryz.func26, Tryz.ntmps26
        go_wp2_with fail
        refine kM.mono ?_
        rintro r w1 ⟨rfl, hb1⟩
        have HB1 : Hid (Below w.heap.size w w1) := hb1
        clear kM hb1
        go_wp2_with (first | (go_at_call 15; refine (kV _).mono ?_; rintro e w' ⟨rfl, hw⟩; rw [hw]; clear hw w') | (go_at_call 46; refine (Ie.dnot _).mono ?_; rintro e w' ⟨rfl, hw⟩; rw [hw]; clear hw w') | (go_at_call 35; first | (with_reducible refine (kna _).mono ?_; rintro e w' ⟨rfl, hw⟩; rw [hw]; clear hw w') | (with_reducible refine (knb _).mono ?_; rintro e w' ⟨rfl, hw⟩; rw [hw]; clear hw w') | (with_reducible refine (knc _).mono ?_; rintro e w' ⟨rfl, hw⟩; rw [hw]; clear hw w') | (with_reducible refine (knp _).mono ?_; rintro e w' ⟨rfl, hw⟩; rw [hw]; clear hw w')) | (go_at_call 36; first | (with_reducible refine (kia _).mono ?_; rintro e w' ⟨rfl, hw⟩; rw [hw]; clear hw w') | (with_reducible refine (kib _).mono ?_; rintro e w' ⟨rfl, hw⟩; rw [hw]; clear hw w') | (with_reducible refine (kic _).mono ?_; rintro e w' ⟨rfl, hw⟩; rw [hw]; clear hw w')) | (go_at_call 47; first | (with_reducible refine (ksc _).mono ?_; rintro e w' ⟨rfl, hw⟩; rw [hw]; clear hw w') | (with_reducible refine (ksp _).mono ?_; rintro e w' ⟨rfl, hw⟩; rw [hw]; clear hw w') | (with_reducible refine (ksa _).mono ?_; rintro e w' ⟨rfl, hw⟩; rw [hw]; clear hw w') | (with_reducible refine (ksb _).mono ?_; rintro e w' ⟨rfl, hw⟩; rw [hw]; clear hw w')))
        go_ret
        exact ⟨rfl, HB1.out⟩
    · clear h
      go_enter Tryz.func26, Tryz.ntmps26
      go_wp2_with fail
      refine kM.mono ?_
      rintro r w1 ⟨rfl, hb1⟩
      have HB1 : Hid (Below w.heap.size w w1) := hb1
      clear kM hb1
      go_wp2_with (first | (go_at_call 15; refine (kV _).mono ?_; rintro e w' ⟨rfl, hw⟩; rw [hw]; clear hw w') | (go_at_call 46; refine (Ie.dnot _).mono ?_; rintro e w' ⟨rfl, hw⟩; rw [hw]; clear hw w') | (go_at_call 35; first | (with_reducible refine (kna _).mono ?_; rintro e w' ⟨rfl, hw⟩; rw [hw]; clear hw w') | (with_reducible refine (knb _).mono ?_; rintro e w' ⟨rfl, hw⟩; rw [hw]; clear hw w') | (with_reducible refine (knc _).mono ?_; rintro e w' ⟨rfl, hw⟩; rw [hw]; clear hw w') | (with_reducible refine (knp _).mono ?_; rintro e w' ⟨rfl, hw⟩; rw [hw]; clear hw w')) | (go_at_call 36; first | (with_reducible refine (kia _).mono ?_; rintro e w' ⟨rfl, hw⟩; rw [hw]; clear hw w') | (with_reducible refine (kib _).mono ?_; rintro e w' ⟨rfl, hw⟩; rw [hw]; clear hw w') | (with_reducible refine (kic _).mono ?_; rintro e w' ⟨rfl, hw⟩; rw [hw]; clear hw w')) | (go_at_call 47; first | (with_reducible refine (ksc _).mono ?_; rintro e w' ⟨rfl, hw⟩; rw [hw]; clear hw w') | (with_reducible refine (ksp _).mono ?_; rintro e w' ⟨rfl, hw⟩; rw [hw]; clear hw w') | (with_reducible refine (ksa _).mono ?_; rintro e w' ⟨rfl, hw⟩; rw [hw]; clear hw w') | (with_reducible refine (ksb _).mono ?_; rintro e w' ⟨rfl, hw⟩; rw [hw]; clear hw w')))
      go_ret
      exact ⟨rfl, HB1.out⟩
  · clear h
    go_enter Tryz.func26, Tryz.ntmps26
    go_wp2_with fail
    refine kM.mono ?_
    rintro r w1 ⟨rfl, hb1⟩
    have HB1 : Hid (Below w.heap.size w w1) := hb1
    clear kM hb1
    go_wp2_with (first | (go_at_call 15; refine (kV _).mono ?_; rintro e w' ⟨rfl, hw⟩; rw [hw]; clear hw w') | (go_at_call 46; refine (Ie.dnot _).mono ?_; rintro e w' ⟨rfl, hw⟩; rw [hw]; clear hw w') | (go_at_call 35; first | (with_reducible refine (kna _).mono ?_; rintro e w' ⟨rfl, hw⟩; rw [hw]; clear hw w') | (with_reducible refine (knb _).mono ?_; rintro e w' ⟨rfl, hw⟩; rw [hw]; clear hw w') | (with_reducible refine (knc _).mono ?_; rintro e w' ⟨rfl, hw⟩; rw [hw]; clear hw w') | (with_reducible refine (knp _).mono ?_; rintro e w' ⟨rfl, hw⟩; rw [hw]; clear hw w')) | (go_at_call 36; first | (with_reducible refine (kia _).mono ?_; rintro e w' ⟨rfl, hw⟩; rw [hw]; clear hw w') | (with_reducible refine (kib _).mono ?_; rintro e w' ⟨rfl, hw⟩; rw [hw]; clear hw w') | (with_reducible refine (kic _).mono ?_; rintro e w' ⟨rfl, hw⟩; rw [hw]; clear hw w')) | (go_at_call 47; first | (with_reducible refine (ksc _).mono ?_; rintro e w' ⟨rfl, hw⟩; rw [hw]; clear hw w') | (with_reducible refine (ksp _).mono ?_; rintro e w' ⟨rfl, hw⟩; rw [hw]; clear hw w') | (with_reducible refine (ksa _).mono ?_; rintro e w' ⟨rfl, hw⟩; rw [hw]; clear hw w') | (with_reducible refine (ksb _).mono ?_; rintro e w' ⟨rfl, hw⟩; rw [hw]; clear hw w')))
    go_ret
    exact ⟨rfl, HB1.out⟩


set_option maxHeartbeats 8000000 in
set_option maxRecDepth 200000 in
theorem dfma_fin (a b c p F : Nat) (m : Int) (ta tb tc tm t3 : Bool × Nat × Int) (w : World) (hm : isM m = true) (ha : a < 18446744073709551616) (hb : b < 18446744073709551616) (hc : c < 18446744073709551616) (hp : p < 18446744073709551616) (fa : mag a < 9218868437227405312) (fb : mag b < 9218868437227405312) (fc : mag c < 9218868437227405312) (fp : isNaN p = false)
    (kM : Calls Tryz.prog 18 #[.float .f64 a, .float .f64 b, .int .i64 2] w fun r w' => OutD w p r w') (kA : ∀ W, Below w.heap.size w W → Calls Tryz.prog 28 #[.float .f64 a] W fun r w' => ∃ A, r = .returned A ∧ DN w' A ta ∧ Below W.heap.size W w') (kB : ∀ W, Below w.heap.size w W → Calls Tryz.prog 28 #[.float .f64 b] W fun r w' => ∃ A, r = .returned A ∧ DN w' A tb ∧ Below W.heap.size W w') (kD : ∀ W, Below w.heap.size w W → Calls Tryz.prog 28 #[.float .f64 c] W fun r w' => ∃ A, r = .returned A ∧ DN w' A tc ∧ Below W.heap.size W w') (kT : ∀ W X Y, DN W X ta → DN W Y tb → Calls Tryz.prog 31 #[X, Y] W fun r w' => ∃ A, r = .returned A ∧ DN w' A tm ∧ Below W.heap.size W w') (kC : ∀ W X Y, DN W X tm → DN W Y tc → Calls Tryz.prog 30 #[X, Y] W fun r w' => ∃ A, r = .returned A ∧ DN w' A t3 ∧ Below W.heap.size W w') (kR : ∀ W X, DN W X t3 → Calls Tryz.prog 48 #[X, .int .i64 m, .float .f64 (sig (z0 (neg a != neg b) (neg c) m) 0)] W fun r w' => r = .returned (.float .f64 F) ∧ Below W.heap.size W w') :
    Calls Tryz.prog 26 #[.float .f64 a, .float .f64 b, .float .f64 c, .int .i64 m] w fun r w' => OutD w F r w' := by
  have kV : ∀ W, Calls Tryz.prog 15 #[.int .i64 m] W fun r w' => r = .returned (.int .i64 0) ∧ w' = W := fun W => by
    have := dvalid m W
    rw [hm] at this
    exact this
  have kna := Ie.dnan a ha
  have knb := Ie.dnan b hb
  have knc := Ie.dnan c hc
  have knp := Ie.dnan p hp
  have kia := Ie.dinf a ha
  have kib := Ie.dinf b hb
  have kic := Ie.dinf c hc
  have ksc := Ie.dneg c hc
  have ksp := Ie.dneg p hp
  have ksa := Ie.dneg a ha
  have ksb := Ie.dneg b hb
  rw [nan_no (by omega)] at kna knb knc
  rw [fp] at knp
  rw [Ie.isInf_not.2 (by omega)] at kia kib kic
  have HKA : Hid (∀ W, Below w.heap.size w W → Calls Tryz.prog 28 #[.float .f64 a] W fun r w' => ∃ A, r = .returned A ∧ DN w' A ta ∧ Below W.heap.size W w') := kA
  have HKB : Hid (∀ W, Below w.heap.size w W → Calls Tryz.prog 28 #[.float .f64 b] W fun r w' => ∃ A, r = .returned A ∧ DN w' A tb ∧ Below W.heap.size W w') := kB
  have HKD : Hid (∀ W, Below w.heap.size w W → Calls Tryz.prog 28 #[.float .f64 c] W fun r w' => ∃ A, r = .returned A ∧ DN w' A tc ∧ Below W.heap.size W w') := kD
  have HKT : Hid (∀ W X Y, DN W X ta → DN W Y tb → Calls Tryz.prog 31 #[X, Y] W fun r w' => ∃ A, r = .returned A ∧ DN w' A tm ∧ Below W.heap.size W w') := kT
  have HKC : Hid (∀ W X Y, DN W X tm → DN W Y tc → Calls Tryz.prog 30 #[X, Y] W fun r w' => ∃ A, r = .returned A ∧ DN w' A t3 ∧ Below W.heap.size W w') := kC
  have HKR : Hid (∀ W X, DN W X t3 → Calls Tryz.prog 48 #[X, .int .i64 m, .float .f64 (sig (z0 (neg a != neg b) (neg c) m) 0)] W fun r w' => r = .returned (.float .f64 F) ∧ Below W.heap.size W w') := kR
  have HSC : Hid (∀ W, Calls Tryz.prog 47 #[.float .f64 c] W fun r w' => r = .returned (.bool (neg c)) ∧ w' = W) := ksc
  clear ksc ksp
  clear ha hb hc hp hm fa fb fc fp kA kB kD kT kC kR
  go_enter Tryz.func26, Tryz.ntmps26
  go_wp2_with fail
  refine kM.mono ?_
  rintro r w1 ⟨rfl, hb1⟩
  have HB1 : Hid (Below w.heap.size w w1) := hb1
  clear kM hb1
  have k1 := HKA.out w1 HB1.out
  go_wp2_with (first | (go_at_call 15; refine (kV _).mono ?_; rintro e w' ⟨rfl, hw⟩; rw [hw]; clear hw w') | (go_at_call 35; first | (with_reducible refine (kna _).mono ?_; rintro e w' ⟨rfl, hw⟩; rw [hw]; clear hw w') | (with_reducible refine (knb _).mono ?_; rintro e w' ⟨rfl, hw⟩; rw [hw]; clear hw w') | (with_reducible refine (knc _).mono ?_; rintro e w' ⟨rfl, hw⟩; rw [hw]; clear hw w') | (with_reducible refine (knp _).mono ?_; rintro e w' ⟨rfl, hw⟩; rw [hw]; clear hw w')) | (go_at_call 36; first | (with_reducible refine (kia _).mono ?_; rintro e w' ⟨rfl, hw⟩; rw [hw]; clear hw w') | (with_reducible refine (kib _).mono ?_; rintro e w' ⟨rfl, hw⟩; rw [hw]; clear hw w') | (with_reducible refine (kic _).mono ?_; rintro e w' ⟨rfl, hw⟩; rw [hw]; clear hw w')) | (go_at_call 47; first | (with_reducible refine (ksa _).mono ?_; rintro e w' ⟨rfl, hw⟩; rw [hw]; clear hw w') | (with_reducible refine (ksb _).mono ?_; rintro e w' ⟨rfl, hw⟩; rw [hw]; clear hw w')))
  clear kna knb knc knp kia kib kic ksa ksb kV
  refine k1.mono ?_
  rintro r w2 ⟨A1, rfl, hP1, hb1⟩
  have HB2 : Hid (Below w.heap.size w w2) := HB1.out.trans (hb1.mono HB1.out.size)
  have k2 := HKB.out w2 HB2.out
  clear k1 hb1
  go_wp2_with fail
  refine k2.mono ?_
  rintro r w3 ⟨A2, rfl, hP2, hb2⟩
  have HB3 : Hid (Below w.heap.size w w3) := HB2.out.trans (hb2.mono HB2.out.size)
  have k3 := HKT.out w3 _ _ (hP1.later hb2) hP2
  clear k2 hP1 hP2 hb2
  go_wp2_with fail
  refine k3.mono ?_
  rintro r w4 ⟨A3, rfl, hP3, hb3⟩
  have HB4 : Hid (Below w.heap.size w w4) := HB3.out.trans (hb3.mono HB3.out.size)
  have k4 := HKD.out w4 HB4.out
  clear k3 hb3
  go_wp2_with fail
  refine k4.mono ?_
  rintro r w5 ⟨A4, rfl, hP4, hb4⟩
  have HB5 : Hid (Below w.heap.size w w5) := HB4.out.trans (hb4.mono HB4.out.size)
  have k5 := HKC.out w5 _ _ (hP3.later hb4) hP4
  clear k4 hP3 hP4 hb4
  go_wp2_with fail
  refine k5.mono ?_
  rintro r w6 ⟨A5, rfl, hP5, hb5⟩
  have HB6 : Hid (Below w.heap.size w w6) := HB5.out.trans (hb5.mono HB5.out.size)
  have k6 := HKR.out w6 _ hP5
  have ks1 := HSC.out w6
  have k7 := dsum0 (neg a != neg b) (neg c) m w6
  clear k5 hP5 hb5
  go_wp2_with fail
  refine ks1.mono ?_
  rintro r w' ⟨rfl, hw⟩
  rw [hw]
  clear hw ks1 w'
  go_wp2_with fail
  refine k7.mono ?_
  rintro r w' ⟨rfl, hw⟩
  rw [hw]
  clear hw k7 w'
  go_wp2_with fail
  refine k6.mono ?_
  rintro r w7 ⟨rfl, hb7⟩
  have HB7 : Hid (Below w.heap.size w w7) := HB6.out.trans (hb7.mono HB6.out.size)
  clear k6 hb7
  go_wp2_with fail
  go_ret
  exact ⟨rfl, HB7.out⟩
end Go.Proofs.YtajeodimbfppiaaGreatDoor

/- A float made whole, with a sign: what the law's own test asks. -/
namespace Go.Proofs.YtajeodimbfppiaaGreatDoor
set_option linter.unusedVariables false
set_option linter.unusedSimpArgs false
open Go.RowKit Go.Fl64

theorem pcopysign (a b : Nat) (ha : a < 18446744073709551616) (hb : b < 18446744073709551616) (w : World) :
    Calls Tryz.prog 119 #[.float .f64 a, .float .f64 b] w fun e w' => e = .returned (.float .f64 (sig (neg b) (mag a))) ∧ w' = w := by
  have kb := Ie.run_bits
  have kf := Ie.run_frombits
  go_enter Tryz.func119, Tryz.ntmps119
  go_wp2
  go_ret
  refine ⟨?_, rfl⟩
  show Ending.returned (.float .f64 (bits .or .u64 (bits .andNot .u64 (a : Int) 9223372036854775808) (bits .and .u64 (b : Int) 9223372036854775808)).toNat) = _
  rw [andNot_sign a ha, and_sign b hb]
  cases neg b with
  | true => rw [if_pos rfl, or_sign _ (mag_lt a)]; rfl
  | false => rw [if_neg (by decide), or_zero _ (mag_lt a)]; rfl
theorem pwith (a b : Nat) (ha : a < 18446744073709551616) (hb : b < 18446744073709551616) (w : World) :
    Calls Tryz.prog 88 #[.float .f64 a, .float .f64 b] w fun e w' => e = .returned (.float .f64 (withF a b)) ∧ w' = w := by
  have na := self_ne a ha
  have nb := self_ne b hb
  have k38 := c159 a ha
  have k39 := pcopysign a b ha hb
  unfold withF
  clear ha hb
  generalize isNaN a = x at na ⊢
  generalize isNaN b = y at nb ⊢
  generalize mag a = m at k38 k39 ⊢
  generalize sig (neg b) m = r at k39 ⊢
  cases x with
  | true =>
    simp only [if_true]
    go_enter Tryz.func88, Tryz.ntmps88
    go_wp2_with (first | (go_at_call 101; refine (k38 _).mono ?_; rintro e w' ⟨rfl, rfl⟩) | (go_at_call 119; refine (k39 _).mono ?_; rintro e w' ⟨rfl, rfl⟩))
    go_ret
    exact ⟨rfl, rfl⟩
  | false =>
    cases y with
    | true =>
      simp only [if_true, if_false, Bool.false_eq_true]
      go_enter Tryz.func88, Tryz.ntmps88
      go_wp2_with (first | (go_at_call 101; refine (k38 _).mono ?_; rintro e w' ⟨rfl, rfl⟩) | (go_at_call 119; refine (k39 _).mono ?_; rintro e w' ⟨rfl, rfl⟩))
      go_ret
      exact ⟨rfl, rfl⟩
    | false =>
      simp only [if_false, Bool.false_eq_true]
      go_enter Tryz.func88, Tryz.ntmps88
      go_wp2_with (first | (go_at_call 101; refine (k38 _).mono ?_; rintro e w' ⟨rfl, rfl⟩) | (go_at_call 119; refine (k39 _).mono ?_; rintro e w' ⟨rfl, rfl⟩))
      go_ret
      exact ⟨rfl, rfl⟩
theorem run_even25 (w : World) : (callFunc 86 #[.float .f64 4612811918334230528]).run Tryz.prog w = .ok (.value (.float .f64 4611686018427387904)) w :=
  run_callFunc_extern Tryz.func86 (e := Extern.MathFloor.toIntegral "math.RoundToEven" .even) (by kernel_rfl) (by kernel_rfl) (by kernel_rfl) (by kernel_rfl) #[.float .f64 4612811918334230528] w
theorem sure_whole (w : World) : Calls Tryz.prog 51 #[.float .f64 4612811918334230528, .int .i64 2] w fun r w' => r = .returned (.float .f64 4611686018427387904) ∧ w' = w := by
  have k := pwith 4611686018427387904 4612811918334230528 (by decide) (by decide)
  rw [show withF 4611686018427387904 4612811918334230528 = 4611686018427387904 by decide +kernel] at k
  have kn := Ie.c52
  have ke := run_even25
  go_enter Tryz.func51, Tryz.ntmps51
  go_wp2_with (first | (go_at_call 38; refine (kn _).mono ?_; rintro e w' ⟨rfl, rfl⟩) | (go_at_call 88; refine (k _).mono ?_; rintro e w' ⟨rfl, rfl⟩))
  go_ret
  exact ⟨rfl, rfl⟩
end Go.Proofs.YtajeodimbfppiaaGreatDoor
