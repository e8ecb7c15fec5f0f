/- What Prev and Unit answer, on both sides, and the parts of a float. -/
import Derived.Test.YtacaidobfildoaaDoorW8
namespace Go.Proofs.YtacaidobfildoaaDoor
set_option linter.unusedVariables false
set_option linter.unusedSimpArgs false
open Go.RowKit Go.Fl64

/-- With the other sign; the float below. -/
def trn (a : Nat) : Nat := if neg a then a - 9223372036854775808 else a + 9223372036854775808
def pv (a : Nat) : Nat := trn (nx (trn a))

theorem xor_sign (a : Nat) (h : a < 18446744073709551616) : a ^^^ 9223372036854775808 = trn a := by
  unfold trn neg
  by_cases hn : 9223372036854775808 ≤ a
  · rw [decide_eq_true hn, if_pos rfl]
    have e1 := Nat.two_pow_add_eq_or_of_lt (i := 63) (show a - 9223372036854775808 < 2 ^ 63 by omega) 1
    apply Nat.eq_of_testBit_eq
    intro i
    have e2 : a = 2 ^ 63 * 1 + (a - 9223372036854775808) := by omega
    rw [Nat.testBit_xor, show (9223372036854775808 : Nat) = 2 ^ 63 from rfl, Nat.testBit_two_pow]
    rw [show (9223372036854775808 : Nat) = 2 ^ 63 from rfl] at e1 e2
    have e3 : a.testBit i = (2 ^ 63 ||| (a - 2 ^ 63)).testBit i := by
      rw [Nat.mul_one] at e1
      rw [← e1]
      congr 1
    rw [e3, Nat.testBit_or, Nat.testBit_two_pow]
    by_cases hi : 63 = i
    · subst hi
      have : (a - 2 ^ 63).testBit 63 = false := Nat.testBit_lt_two_pow (by omega)
      rw [this]
      simp
    · simp [hi]
  · rw [decide_eq_false hn, if_neg (by decide)]
    have e1 := Nat.two_pow_add_eq_or_of_lt (i := 63) (show a < 2 ^ 63 by omega) 1
    rw [Nat.mul_one] at e1
    rw [show (9223372036854775808 : Nat) = 2 ^ 63 from rfl, Nat.add_comm a, e1]
    apply Nat.eq_of_testBit_eq
    intro i
    rw [Nat.testBit_xor, Nat.testBit_or, Nat.testBit_two_pow]
    by_cases hi : 63 = i
    · subst hi
      have : a.testBit 63 = false := Nat.testBit_lt_two_pow (by omega)
      rw [this]
      simp
    · simp [hi]

theorem negF (a : Nat) (h : a < 18446744073709551616) : Op.negFloat .f64 a = trn a := by
  rw [← xor_sign a h]
  rfl
theorem xor_bits (a : Nat) (h : a < 18446744073709551616) : bits .xor .u64 (a : Int) 9223372036854775808 = (trn a : Int) := by
  have e := bits_xor_u64_nat a 9223372036854775808 h (by decide)
  rw [show ((9223372036854775808 : Nat) : Int) = 9223372036854775808 from rfl] at e
  rw [e, xor_sign a h]

theorem trn_lt (a : Nat) (h : a < 18446744073709551616) : trn a < 18446744073709551616 := by
  unfold trn neg
  by_cases hn : 9223372036854775808 ≤ a
  · rw [decide_eq_true hn, if_pos rfl]; omega
  · rw [decide_eq_false hn, if_neg (by decide)]; omega
theorem mag_trn (a : Nat) (h : a < 18446744073709551616) : mag (trn a) = mag a := by
  unfold trn neg mag
  by_cases hn : 9223372036854775808 ≤ a
  · rw [decide_eq_true hn, if_pos rfl]; omega
  · rw [decide_eq_false hn, if_neg (by decide)]; omega
theorem trn_trn (a : Nat) (h : a < 18446744073709551616) : trn (trn a) = a := by
  by_cases hn : 9223372036854775808 ≤ a
  · have e : trn a = a - 9223372036854775808 := if_pos (decide_eq_true hn)
    have e2 : trn (a - 9223372036854775808) = a - 9223372036854775808 + 9223372036854775808 := if_neg (fun hh => absurd (of_decide_eq_true hh) (by omega))
    rw [e, e2]; omega
  · have e : trn a = a + 9223372036854775808 := if_neg (fun hh => absurd (of_decide_eq_true hh) (by omega))
    have e2 : trn (a + 9223372036854775808) = a + 9223372036854775808 - 9223372036854775808 := if_pos (decide_eq_true (by omega))
    rw [e, e2]; omega
theorem isNaN_trn (a : Nat) (h : a < 18446744073709551616) : isNaN (trn a) = isNaN a := by
  unfold isNaN
  rw [mag_trn a h]
theorem nx_lt (a : Nat) (h : a < 18446744073709551616) : nx a < 18446744073709551616 := by
  unfold nx
  cases hx : isNaN a with
  | true => rw [if_pos rfl]; exact h
  | false =>
    rw [if_neg (by decide)]
    by_cases h2 : a = 9218868437227405312
    · rw [if_pos h2]; exact h
    · rw [if_neg h2]
      by_cases h5 : mag a = 0
      · rw [if_pos h5]; decide
      · rw [if_neg h5]
        cases hs : neg a with
        | true => rw [if_pos rfl]; omega
        | false =>
          rw [if_neg (by decide)]
          have := of_decide_eq_false hs
          omega
theorem nx_nan (a : Nat) (h : isNaN a = true) : nx a = a := by
  unfold nx
  rw [if_pos h]

theorem c45 (a : Nat) (ha : a < 18446744073709551616) (w : World) :
    Calls Tryd.prog 45 #[.float .f64 a] w fun e w' => e = .returned (.float .f64 (trn a)) ∧ w' = w := by
  have e := xor_bits a ha
  clear ha
  generalize trn a = r at e ⊢
  go_enter Tryd.func45, Tryd.ntmps45
  go_wp2_with (first | (go_at_call 41; refine (c41 _ _).mono ?_; rintro e w' ⟨rfl, rfl⟩) | (go_at_call 40; refine (c40 _ _).mono ?_; rintro e w' ⟨rfl, rfl⟩))
  go_ret
  exact ⟨rfl, rfl⟩

theorem c17 (a : Nat) (ha : a < 18446744073709551616) (w : World) :
    Calls Tryd.prog 17 #[.float .f64 a] w fun e w' => e = .returned (.float .f64 (nx a)) ∧ w' = w := by
  have k31 := c31 a ha
  have k34 := c34 a ha
  have k35 := c35 a ha
  have hp := wrap_pred a ha
  have hs := wrap_succ a
  have hz : decide (mag a = 0) = ((mag a : Int) == 0) := by
    rw [Bool.beq_eq_decide_eq]
    congr 1
    apply propext
    omega
  unfold nx
  clear ha
  generalize (mag a : Int) = m at k34 hz ⊢
  generalize neg a = s at k35 hp hs ⊢
  generalize isNaN a = x at k31 ⊢
  cases x with
  | true =>
    rw [if_pos rfl]
    clear hz hp hs
    go_enter Tryd.func17, Tryd.ntmps17
    go_wp2_with (first | (go_at_call 31; refine (k31 _).mono ?_; rintro e w' ⟨rfl, rfl⟩) | (go_at_call 34; refine (k34 _).mono ?_; rintro e w' ⟨rfl, rfl⟩) | (go_at_call 35; refine (k35 _).mono ?_; rintro e w' ⟨rfl, rfl⟩) | (go_at_call 41; refine (c41 _ _).mono ?_; rintro e w' ⟨rfl, rfl⟩) | (go_at_call 40; refine (c40 _ _).mono ?_; rintro e w' ⟨rfl, rfl⟩))
    go_ret
    exact ⟨rfl, rfl⟩
  | false =>
    rw [if_neg (by decide)]
    by_cases h2 : a = 9218868437227405312
    · rw [if_pos h2]
      have h2' : ((a : Int) == 9218868437227405312) = true := by simp; omega
      clear h2 hz hp hs
      go_enter Tryd.func17, Tryd.ntmps17
      go_wp2_with (first | (go_at_call 31; refine (k31 _).mono ?_; rintro e w' ⟨rfl, rfl⟩) | (go_at_call 34; refine (k34 _).mono ?_; rintro e w' ⟨rfl, rfl⟩) | (go_at_call 35; refine (k35 _).mono ?_; rintro e w' ⟨rfl, rfl⟩) | (go_at_call 41; refine (c41 _ _).mono ?_; rintro e w' ⟨rfl, rfl⟩) | (go_at_call 40; refine (c40 _ _).mono ?_; rintro e w' ⟨rfl, rfl⟩))
      go_ret
      exact ⟨rfl, rfl⟩
    · rw [if_neg h2]
      have h2' : ((a : Int) == 9218868437227405312) = false := by simp; omega
      clear h2
      by_cases h5 : mag a = 0
      · rw [if_pos h5]
        rw [decide_eq_true h5] at hz
        have hz' := hz.symm
        clear h5 hz hp hs
        go_enter Tryd.func17, Tryd.ntmps17
        go_wp2_with (first | (go_at_call 31; refine (k31 _).mono ?_; rintro e w' ⟨rfl, rfl⟩) | (go_at_call 34; refine (k34 _).mono ?_; rintro e w' ⟨rfl, rfl⟩) | (go_at_call 35; refine (k35 _).mono ?_; rintro e w' ⟨rfl, rfl⟩) | (go_at_call 41; refine (c41 _ _).mono ?_; rintro e w' ⟨rfl, rfl⟩) | (go_at_call 40; refine (c40 _ _).mono ?_; rintro e w' ⟨rfl, rfl⟩))
        go_ret
        exact ⟨rfl, rfl⟩
      · rw [if_neg h5]
        rw [decide_eq_false h5] at hz
        have hz' := hz.symm
        clear h5 hz
        cases s with
        | true =>
          rw [if_pos rfl]
          have e := hp rfl
          clear hp hs
          generalize a - 1 = r at e ⊢
          go_enter Tryd.func17, Tryd.ntmps17
          go_wp2_with (first | (go_at_call 31; refine (k31 _).mono ?_; rintro e w' ⟨rfl, rfl⟩) | (go_at_call 34; refine (k34 _).mono ?_; rintro e w' ⟨rfl, rfl⟩) | (go_at_call 35; refine (k35 _).mono ?_; rintro e w' ⟨rfl, rfl⟩) | (go_at_call 41; refine (c41 _ _).mono ?_; rintro e w' ⟨rfl, rfl⟩) | (go_at_call 40; refine (c40 _ _).mono ?_; rintro e w' ⟨rfl, rfl⟩))
          go_ret
          exact ⟨rfl, rfl⟩
        | false =>
          rw [if_neg (by decide)]
          have e := hs rfl
          clear hp hs
          generalize a + 1 = r at e ⊢
          go_enter Tryd.func17, Tryd.ntmps17
          go_wp2_with (first | (go_at_call 31; refine (k31 _).mono ?_; rintro e w' ⟨rfl, rfl⟩) | (go_at_call 34; refine (k34 _).mono ?_; rintro e w' ⟨rfl, rfl⟩) | (go_at_call 35; refine (k35 _).mono ?_; rintro e w' ⟨rfl, rfl⟩) | (go_at_call 41; refine (c41 _ _).mono ?_; rintro e w' ⟨rfl, rfl⟩) | (go_at_call 40; refine (c40 _ _).mono ?_; rintro e w' ⟨rfl, rfl⟩))
          go_ret
          exact ⟨rfl, rfl⟩

theorem run_neg (a : Nat) (w : World) : (Op.unary .neg (.float .f64 a)).run Tryd.prog w = .ok (.float .f64 (Op.negFloat .f64 a)) w := rfl

theorem c18 (a : Nat) (ha : a < 18446744073709551616) (w : World) :
    Calls Tryd.prog 18 #[.float .f64 a] w fun e w' => e = .returned (.float .f64 (pv a)) ∧ w' = w := by
  have e1 := negF a ha
  have e2 := negF (nx (trn a)) (nx_lt _ (trn_lt a ha))
  have k16 := c16 (trn a) (trn_lt a ha)
  unfold pv
  clear ha
  generalize trn (nx (trn a)) = q at e2 ⊢
  generalize nx (trn a) = y at e2 k16 ⊢
  generalize trn a = x at e1 k16 ⊢
  have kn := run_neg
  go_enter Tryd.func18, Tryd.ntmps18
  go_wp2_with (go_at_call 16; refine (k16 _).mono ?_; rintro e w' ⟨rfl, rfl⟩)
  go_ret
  exact ⟨rfl, rfl⟩

theorem c19 (a : Nat) (ha : a < 18446744073709551616) (w : World) :
    Calls Tryd.prog 19 #[.float .f64 a] w fun e w' => e = .returned (.float .f64 (pv a)) ∧ w' = w := by
  have k31 := c31 a ha
  have k45 := c45 a ha
  have k17 := c17 (trn a) (trn_lt a ha)
  have k45' := c45 (nx (trn a)) (nx_lt _ (trn_lt a ha))
  cases hn : isNaN a with
  | true =>
    have e : pv a = a := by
      unfold pv
      rw [nx_nan _ ((isNaN_trn a ha).trans hn), trn_trn a ha]
    rw [e]
    rw [hn] at k31
    clear e hn ha k45 k17 k45'
    go_enter Tryd.func19, Tryd.ntmps19
    go_wp2_with (first | (go_at_call 31; refine (k31 _).mono ?_; rintro e w' ⟨rfl, rfl⟩))
    go_ret
    exact ⟨rfl, rfl⟩
  | false =>
    rw [hn] at k31
    unfold pv
    clear ha hn
    generalize trn (nx (trn a)) = q at k45' ⊢
    generalize nx (trn a) = y at k45' k17 ⊢
    generalize trn a = x at k45 k17 ⊢
    have k45b : ∀ w, Calls Tryd.prog 45 #[.float .f64 y] w fun e w' => e = .returned (.float .f64 q) ∧ w' = w := k45'
    go_enter Tryd.func19, Tryd.ntmps19
    go_wp2_with (first | (go_at_call 31; refine (k31 _).mono ?_; rintro e w' ⟨rfl, rfl⟩) | (go_at_call 45; refine (k45 _).mono ?_; rintro e w' ⟨rfl, rfl⟩) | (go_at_call 17; refine (k17 _).mono ?_; rintro e w' ⟨rfl, rfl⟩) | (go_at_call 45; refine (k45b _).mono ?_; rintro e w' ⟨rfl, rfl⟩))
    go_ret
    exact ⟨rfl, rfl⟩

end Go.Proofs.YtacaidobfildoaaDoor
