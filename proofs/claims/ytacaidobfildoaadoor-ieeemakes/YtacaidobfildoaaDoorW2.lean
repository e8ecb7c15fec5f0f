/- What With, Order and Apart answer, on both sides. -/
import Derived.Test.YtacaidobfildoaaDoorW1
namespace Go.Proofs.YtacaidobfildoaaDoor
set_option linter.unusedVariables false
set_option linter.unusedSimpArgs false
open Go.RowKit Go.Fl64

theorem c38 (a : Nat) (ha : a < 18446744073709551616) (w : World) :
    Calls Tryd.prog 38 #[.float .f64 a] w fun e w' => e = .returned (.float .f64 (mag a)) ∧ w' = w := by
  have kb := run_bits
  have kf := run_frombits
  go_enter Tryd.func38, Tryd.ntmps38
  go_wp2
  go_ret
  refine ⟨?_, rfl⟩
  show Ending.returned (.float .f64 (bits .andNot .u64 (a : Int) 9223372036854775808).toNat) = _
  rw [andNot_sign a ha]
  rfl

theorem c39 (a b : Nat) (ha : a < 18446744073709551616) (hb : b < 18446744073709551616) (w : World) :
    Calls Tryd.prog 39 #[.float .f64 a, .float .f64 b] w fun e w' => e = .returned (.float .f64 (sig (neg b) (mag a))) ∧ w' = w := by
  have kb := run_bits
  have kf := run_frombits
  go_enter Tryd.func39, Tryd.ntmps39
  go_wp2
  go_ret
  refine ⟨?_, rfl⟩
  show Ending.returned (.float .f64 (bits .or .u64 (bits .andNot .u64 (a : Int) 9223372036854775808) (bits .and .u64 (b : Int) 9223372036854775808)).toNat) = _
  rw [andNot_sign a ha, and_sign b hb]
  cases neg b with
  | true => rw [if_pos rfl, or_sign _ (mag_lt a)]; rfl
  | false => rw [if_neg (by decide), or_zero _ (mag_lt a)]; rfl

theorem c13 (a b : Nat) (ha : a < 18446744073709551616) (hb : b < 18446744073709551616) (w : World) :
    Calls Tryd.prog 13 #[.float .f64 a, .float .f64 b] w fun e w' => e = .returned (.float .f64 (withF a b)) ∧ w' = w := by
  have na := self_ne a ha
  have nb := self_ne b hb
  have k38 := c38 a ha
  have k39 := c39 a b ha hb
  unfold withF
  clear ha hb
  generalize isNaN a = x at na ⊢
  generalize isNaN b = y at nb ⊢
  generalize mag a = m at k38 k39 ⊢
  generalize sig (neg b) m = r at k39 ⊢
  cases x with
  | true =>
    simp only [if_true]
    go_enter Tryd.func13, Tryd.ntmps13
    go_wp2_with (first | (go_at_call 38; refine (k38 _).mono ?_; rintro e w' ⟨rfl, rfl⟩) | (go_at_call 39; refine (k39 _).mono ?_; rintro e w' ⟨rfl, rfl⟩))
    go_ret
    exact ⟨rfl, rfl⟩
  | false =>
    cases y with
    | true =>
      simp only [if_true, if_false, Bool.false_eq_true]
      go_enter Tryd.func13, Tryd.ntmps13
      go_wp2_with (first | (go_at_call 38; refine (k38 _).mono ?_; rintro e w' ⟨rfl, rfl⟩) | (go_at_call 39; refine (k39 _).mono ?_; rintro e w' ⟨rfl, rfl⟩))
      go_ret
      exact ⟨rfl, rfl⟩
    | false =>
      simp only [if_false, Bool.false_eq_true]
      go_enter Tryd.func13, Tryd.ntmps13
      go_wp2_with (first | (go_at_call 38; refine (k38 _).mono ?_; rintro e w' ⟨rfl, rfl⟩) | (go_at_call 39; refine (k39 _).mono ?_; rintro e w' ⟨rfl, rfl⟩))
      go_ret
      exact ⟨rfl, rfl⟩

theorem c42 (a : Nat) (ha : a < 18446744073709551616) (w : World) :
    Calls Tryd.prog 42 #[.float .f64 a] w fun e w' => e = .returned (.int .u64 (if isNaN a then 9223372036854775808 else 0)) ∧ w' = w := by
  have k31 := c31 a ha
  clear ha
  generalize isNaN a = x at k31 ⊢
  cases x with
  | true =>
    simp only [if_true]
    go_enter Tryd.func42, Tryd.ntmps42
    go_wp2_with (first | (go_at_call 31; refine (k31 _).mono ?_; rintro e w' ⟨rfl, rfl⟩))
    go_ret
    exact ⟨rfl, rfl⟩
  | false =>
    simp only [if_false, Bool.false_eq_true]
    go_enter Tryd.func42, Tryd.ntmps42
    go_wp2_with (first | (go_at_call 31; refine (k31 _).mono ?_; rintro e w' ⟨rfl, rfl⟩))
    go_ret
    exact ⟨rfl, rfl⟩

theorem c14 (a b : Nat) (ha : a < 18446744073709551616) (hb : b < 18446744073709551616) (w : World) :
    Calls Tryd.prog 14 #[.float .f64 a, .float .f64 b] w fun e w' => e = .returned (.float .f64 (withF a b)) ∧ w' = w := by
  have k31 := c31 a ha
  have k34 := c34 a ha
  have k42 := c42 b hb
  have es := and_sign b hb
  have ml := mag_lt a
  unfold withF
  clear ha hb
  generalize isNaN a = x at k31 ⊢
  generalize isNaN b = y at k42 ⊢
  generalize mag a = m at k34 ml ⊢
  generalize neg b = z at es ⊢
  cases x with
  | true =>
    simp only [if_true]
    clear es ml
    go_enter Tryd.func14, Tryd.ntmps14
    go_wp2_with (first | (go_at_call 31; refine (k31 _).mono ?_; rintro e w' ⟨rfl, rfl⟩) | (go_at_call 34; refine (k34 _).mono ?_; rintro e w' ⟨rfl, rfl⟩) | (go_at_call 42; refine (k42 _).mono ?_; rintro e w' ⟨rfl, rfl⟩) | (go_at_call 41; refine (c41 _ _).mono ?_; rintro e w' ⟨rfl, rfl⟩) | (go_at_call 40; refine (c40 _ _).mono ?_; rintro e w' ⟨rfl, rfl⟩))
    go_ret
    exact ⟨rfl, rfl⟩
  | false =>
    have hs : Hid (bits .and .u64 (b : Int) 9223372036854775808 = if z then 9223372036854775808 else 0) := es
    have hm : Hid (m < 9223372036854775808) := ml
    clear es ml
    cases y with
    | true =>
      simp only [if_true, if_false, Bool.false_eq_true] at k42 ⊢
      go_enter Tryd.func14, Tryd.ntmps14
      go_wp2_with (first | (go_at_call 31; refine (k31 _).mono ?_; rintro e w' ⟨rfl, rfl⟩) | (go_at_call 34; refine (k34 _).mono ?_; rintro e w' ⟨rfl, rfl⟩) | (go_at_call 42; refine (k42 _).mono ?_; rintro e w' ⟨rfl, rfl⟩) | (go_at_call 41; refine (c41 _ _).mono ?_; rintro e w' ⟨rfl, rfl⟩) | (go_at_call 40; refine (c40 _ _).mono ?_; rintro e w' ⟨rfl, rfl⟩))
      go_ret
      refine ⟨?_, rfl⟩
      show Ending.returned (.float .f64 (bits .or .u64 (m : Int) (bits .andNot .u64 (bits .and .u64 (b : Int) 9223372036854775808) 9223372036854775808)).toNat) = _
      rw [hs.out]
      cases z with
      | true => rw [if_pos rfl, andNot_self, or_zero _ hm.out]; rfl
      | false => rw [if_neg (by decide), show bits .andNot .u64 0 9223372036854775808 = 0 from andNot_zero 9223372036854775808 (by decide), or_zero _ hm.out]; rfl
    | false =>
      simp only [if_false, Bool.false_eq_true] at k42 ⊢
      go_enter Tryd.func14, Tryd.ntmps14
      go_wp2_with (first | (go_at_call 31; refine (k31 _).mono ?_; rintro e w' ⟨rfl, rfl⟩) | (go_at_call 34; refine (k34 _).mono ?_; rintro e w' ⟨rfl, rfl⟩) | (go_at_call 42; refine (k42 _).mono ?_; rintro e w' ⟨rfl, rfl⟩) | (go_at_call 41; refine (c41 _ _).mono ?_; rintro e w' ⟨rfl, rfl⟩) | (go_at_call 40; refine (c40 _ _).mono ?_; rintro e w' ⟨rfl, rfl⟩))
      go_ret
      refine ⟨?_, rfl⟩
      show Ending.returned (.float .f64 (bits .or .u64 (m : Int) (bits .andNot .u64 (bits .and .u64 (b : Int) 9223372036854775808) 0)).toNat) = _
      rw [hs.out]
      cases z with
      | true => rw [if_pos rfl, andNot_none, or_sign _ hm.out]; rfl
      | false => rw [if_neg (by decide), show bits .andNot .u64 0 0 = 0 from andNot_zero 0 (by decide), or_zero _ hm.out]; rfl


/-- The number of a float that rises as floats do. -/
def ordr (a : Nat) : Int := if isNaN a then 9223372036854775807 else if neg a then -1 - (mag a : Int) else (mag a : Int)
theorem w64 (m : Int) (h0 : 0 ≤ m) (h : m < 9223372036854775808) : wrap64 m = m := by unfold wrap64; omega
theorem w64m (m : Int) (h0 : 0 ≤ m) (h : m < 9223372036854775808) : wrap64 (-1 - wrap64 m) = -1 - m := by unfold wrap64; omega
theorem w64n (m : Int) (h0 : 0 ≤ m) (h : m < 9223372036854775808) : wrap64 (-wrap64 m) = -m := by unfold wrap64; omega

theorem c28 (a : Nat) (ha : a < 18446744073709551616) (w : World) :
    Calls Tryd.prog 28 #[.float .f64 a] w fun e w' => e = .returned (.int .i64 (ordr a)) ∧ w' = w := by
  have na := self_ne a ha
  have k32 := c32 a ha
  have k33 := c33 a ha
  have ml : Hid ((mag a : Int) < 9223372036854775808) := by have := mag_lt a; exact (by omega : (mag a : Int) < 9223372036854775808)
  have m0 : Hid (0 ≤ (mag a : Int)) := (by omega : 0 ≤ (mag a : Int))
  unfold ordr
  clear ha
  generalize (mag a : Int) = m at k32 ml m0 ⊢
  generalize isNaN a = x at na ⊢
  generalize neg a = y at k33 ⊢
  cases x with
  | true =>
    simp only [if_true]
    go_enter Tryd.func28, Tryd.ntmps28
    go_wp2_with (first | (go_at_call 32; refine (k32 _).mono ?_; rintro e w' ⟨rfl, rfl⟩) | (go_at_call 33; refine (k33 _).mono ?_; rintro e w' ⟨rfl, rfl⟩))
    go_ret
    exact ⟨rfl, rfl⟩
  | false =>
    cases y with
    | true =>
      simp only [if_true, if_false, Bool.false_eq_true]
      go_enter Tryd.func28, Tryd.ntmps28
      go_wp2_with (first | (go_at_call 32; refine (k32 _).mono ?_; rintro e w' ⟨rfl, rfl⟩) | (go_at_call 33; refine (k33 _).mono ?_; rintro e w' ⟨rfl, rfl⟩))
      go_ret
      refine ⟨?_, rfl⟩
      show Ending.returned (.int .i64 (wrap64 (-1 - wrap64 m))) = _
      rw [w64m m m0.out ml.out]
    | false =>
      simp only [if_false, Bool.false_eq_true]
      go_enter Tryd.func28, Tryd.ntmps28
      go_wp2_with (first | (go_at_call 32; refine (k32 _).mono ?_; rintro e w' ⟨rfl, rfl⟩) | (go_at_call 33; refine (k33 _).mono ?_; rintro e w' ⟨rfl, rfl⟩))
      go_ret
      refine ⟨?_, rfl⟩
      show Ending.returned (.int .i64 (wrap64 m)) = _
      rw [w64 m m0.out ml.out]

theorem c29 (a : Nat) (ha : a < 18446744073709551616) (w : World) :
    Calls Tryd.prog 29 #[.float .f64 a] w fun e w' => e = .returned (.int .i64 (ordr a)) ∧ w' = w := by
  have k31 := c31 a ha
  have k34 := c34 a ha
  have k35 := c35 a ha
  have hn : Hid (neg a = false → wrap64 (a : Int) = (mag a : Int)) := by
    intro h
    have h' : ¬ 9223372036854775808 ≤ a := of_decide_eq_false h
    unfold wrap64 mag
    omega
  have ml : Hid ((mag a : Int) < 9223372036854775808) := by have := mag_lt a; exact (by omega : (mag a : Int) < 9223372036854775808)
  have m0 : Hid (0 ≤ (mag a : Int)) := (by omega : 0 ≤ (mag a : Int))
  unfold ordr
  clear ha
  generalize (mag a : Int) = m at k34 ml m0 hn ⊢
  generalize isNaN a = x at k31 ⊢
  generalize neg a = y at k35 hn ⊢
  cases x with
  | true =>
    simp only [if_true]
    go_enter Tryd.func29, Tryd.ntmps29
    go_wp2_with (first | (go_at_call 31; refine (k31 _).mono ?_; rintro e w' ⟨rfl, rfl⟩) | (go_at_call 34; refine (k34 _).mono ?_; rintro e w' ⟨rfl, rfl⟩) | (go_at_call 35; refine (k35 _).mono ?_; rintro e w' ⟨rfl, rfl⟩) | (go_at_call 41; refine (c41 _ _).mono ?_; rintro e w' ⟨rfl, rfl⟩))
    go_ret
    exact ⟨rfl, rfl⟩
  | false =>
    cases y with
    | true =>
      simp only [if_true, if_false, Bool.false_eq_true]
      go_enter Tryd.func29, Tryd.ntmps29
      go_wp2_with (first | (go_at_call 31; refine (k31 _).mono ?_; rintro e w' ⟨rfl, rfl⟩) | (go_at_call 34; refine (k34 _).mono ?_; rintro e w' ⟨rfl, rfl⟩) | (go_at_call 35; refine (k35 _).mono ?_; rintro e w' ⟨rfl, rfl⟩) | (go_at_call 41; refine (c41 _ _).mono ?_; rintro e w' ⟨rfl, rfl⟩))
      go_ret
      refine ⟨?_, rfl⟩
      show Ending.returned (.int .i64 (wrap64 (-1 - wrap64 m))) = _
      rw [w64m m m0.out ml.out]
    | false =>
      simp only [if_false, Bool.false_eq_true]
      go_enter Tryd.func29, Tryd.ntmps29
      go_wp2_with (first | (go_at_call 31; refine (k31 _).mono ?_; rintro e w' ⟨rfl, rfl⟩) | (go_at_call 34; refine (k34 _).mono ?_; rintro e w' ⟨rfl, rfl⟩) | (go_at_call 35; refine (k35 _).mono ?_; rintro e w' ⟨rfl, rfl⟩) | (go_at_call 41; refine (c41 _ _).mono ?_; rintro e w' ⟨rfl, rfl⟩))
      go_ret
      refine ⟨?_, rfl⟩
      show Ending.returned (.int .i64 (wrap64 (a : Int))) = _
      rw [hn.out (by simp)]

theorem c56 (a : Nat) (ha : a < 18446744073709551616) (w : World) :
    Calls Tryd.prog 56 #[.float .f64 a] w fun e w' => e = .returned (.int .i64 (stp a)) ∧ w' = w := by
  have k32 := c32 a ha
  have k33 := c33 a ha
  have ml : Hid ((mag a : Int) < 9223372036854775808) := by have := mag_lt a; exact (by omega : (mag a : Int) < 9223372036854775808)
  have m0 : Hid (0 ≤ (mag a : Int)) := (by omega : 0 ≤ (mag a : Int))
  unfold stp sgn
  clear ha
  generalize (mag a : Int) = m at k32 ml m0 ⊢
  generalize neg a = y at k33 ⊢
  cases y with
  | true =>
    simp only [if_true]
    go_enter Tryd.func56, Tryd.ntmps56
    go_wp2_with (first | (go_at_call 32; refine (k32 _).mono ?_; rintro e w' ⟨rfl, rfl⟩) | (go_at_call 33; refine (k33 _).mono ?_; rintro e w' ⟨rfl, rfl⟩))
    go_ret
    refine ⟨?_, rfl⟩
    show Ending.returned (.int .i64 (wrap64 (-wrap64 m))) = _
    rw [w64n m m0.out ml.out]
  | false =>
    simp only [if_false, Bool.false_eq_true]
    go_enter Tryd.func56, Tryd.ntmps56
    go_wp2_with (first | (go_at_call 32; refine (k32 _).mono ?_; rintro e w' ⟨rfl, rfl⟩) | (go_at_call 33; refine (k33 _).mono ?_; rintro e w' ⟨rfl, rfl⟩))
    go_ret
    refine ⟨?_, rfl⟩
    show Ending.returned (.int .i64 (wrap64 m)) = _
    rw [w64 m m0.out ml.out]

/-- Is a at most b? -/
def le (a b : Nat) : Bool := !isNaN a && !isNaN b && decide (stp a ≤ stp b)
theorem lt_or_eq (a b : Nat) : (lt a b || eq a b) = le a b := by
  unfold lt eq le
  cases isNaN a <;> cases isNaN b <;> simp
  rw [← Bool.decide_or]
  congr 1
  apply propext
  omega
def apN (x y : Int) : Int := IntKind.u64.wrap (IntKind.u64.wrap y - IntKind.u64.wrap x)

theorem c26 (a b : Nat) (ha : a < 18446744073709551616) (hb : b < 18446744073709551616) (w : World) :
    Calls Tryd.prog 26 #[.float .f64 a, .float .f64 b] w fun e w' => e = .returned (.tuple #[.int .u64 (if le a b then apN (stp a) (stp b) else 0), .bool (le a b)]) ∧ w' = w := by
  have k := c56
  have ol := ord_lt a b ha hb
  have oe := ord_eq a b ha hb
  rw [← lt_or_eq]
  generalize stp = F at k ⊢
  generalize lt a b = l at ol ⊢
  generalize eq a b = q at oe ⊢
  cases l with
  | true =>
    go_enter Tryd.func26, Tryd.ntmps26
    go_wp2_with (first | (go_at_call 56; refine (k _ (by assumption) _).mono ?_; rintro e w' ⟨rfl, rfl⟩))
    go_ret2
    exact ⟨rfl, rfl⟩
  | false =>
    cases q with
    | true =>
      go_enter Tryd.func26, Tryd.ntmps26
      go_wp2_with (first | (go_at_call 56; refine (k _ (by assumption) _).mono ?_; rintro e w' ⟨rfl, rfl⟩))
      go_ret2
      exact ⟨rfl, rfl⟩
    | false =>
      go_enter Tryd.func26, Tryd.ntmps26
      go_wp2_with (first | (go_at_call 56; refine (k _ (by assumption) _).mono ?_; rintro e w' ⟨rfl, rfl⟩))
      go_ret2
      exact ⟨rfl, rfl⟩

theorem stp_true {a : Nat} (h : neg a = true) : wrap64 (-wrap64 (mag a : Int)) = stp a := by
  unfold stp
  rw [h]
  have := mag_lt a
  exact w64n _ (by omega) (by omega)
theorem stp_false {a : Nat} (h : neg a = false) : wrap64 (mag a : Int) = stp a := by
  unfold stp
  rw [h]
  have := mag_lt a
  exact w64 _ (by omega) (by omega)

set_option maxHeartbeats 4000000 in
theorem c27 (a b : Nat) (ha : a < 18446744073709551616) (hb : b < 18446744073709551616) (w : World) :
    Calls Tryd.prog 27 #[.float .f64 a, .float .f64 b] w fun e w' => e = .returned (.tuple #[.int .u64 (if le a b then apN (stp a) (stp b) else 0), .bool (le a b)]) ∧ w' = w := by
  have ka := c31 a ha
  have kb := c31 b hb
  have la := c34 a ha
  have lb := c34 b hb
  have na := c35 a ha
  have nb := c35 b hb
  have sa : neg a = true → wrap64 (-wrap64 (mag a : Int)) = stp a := stp_true
  have sa' : neg a = false → wrap64 (mag a : Int) = stp a := stp_false
  have sb : neg b = true → wrap64 (-wrap64 (mag b : Int)) = stp b := stp_true
  have sb' : neg b = false → wrap64 (mag b : Int) = stp b := stp_false
  unfold le
  clear ha hb
  generalize (mag a : Int) = x at la sa sa' ⊢
  generalize (mag b : Int) = y at lb sb sb' ⊢
  generalize neg a = s at na sa sa' ⊢
  generalize neg b = t at nb sb sb' ⊢
  generalize isNaN a = u at ka ⊢
  generalize isNaN b = v at kb ⊢
  generalize stp a = X at sa sa' ⊢
  generalize stp b = Y at sb sb' ⊢
  cases u with
  | true =>
    clear sa sa' sb sb'
    go_enter Tryd.func27, Tryd.ntmps27
    go_wp2_with (first | (go_at_call 31; refine (ka _).mono ?_; rintro e w' ⟨rfl, rfl⟩) | (go_at_call 31; refine (kb _).mono ?_; rintro e w' ⟨rfl, rfl⟩) | (go_at_call 34; refine (la _).mono ?_; rintro e w' ⟨rfl, rfl⟩) | (go_at_call 34; refine (lb _).mono ?_; rintro e w' ⟨rfl, rfl⟩) | (go_at_call 35; refine (na _).mono ?_; rintro e w' ⟨rfl, rfl⟩) | (go_at_call 35; refine (nb _).mono ?_; rintro e w' ⟨rfl, rfl⟩))
    go_ret2
    exact ⟨rfl, rfl⟩
  | false =>
    cases v with
    | true =>
      clear sa sa' sb sb'
      go_enter Tryd.func27, Tryd.ntmps27
      go_wp2_with (first | (go_at_call 31; refine (ka _).mono ?_; rintro e w' ⟨rfl, rfl⟩) | (go_at_call 31; refine (kb _).mono ?_; rintro e w' ⟨rfl, rfl⟩) | (go_at_call 34; refine (la _).mono ?_; rintro e w' ⟨rfl, rfl⟩) | (go_at_call 34; refine (lb _).mono ?_; rintro e w' ⟨rfl, rfl⟩) | (go_at_call 35; refine (na _).mono ?_; rintro e w' ⟨rfl, rfl⟩) | (go_at_call 35; refine (nb _).mono ?_; rintro e w' ⟨rfl, rfl⟩))
      go_ret2
      exact ⟨rfl, rfl⟩
    | false =>
      by_cases h : Y < X
      · have e : decide (X ≤ Y) = false := decide_eq_false (by omega)
        rw [e]
        clear e
        cases s with
        | true =>
          have ea := sa rfl
          clear sa sa'
          cases t with
          | true =>
            have eb := sb rfl
            clear sb sb'
            go_enter Tryd.func27, Tryd.ntmps27
            go_wp2_with (first | (go_at_call 31; refine (ka _).mono ?_; rintro e w' ⟨rfl, rfl⟩) | (go_at_call 31; refine (kb _).mono ?_; rintro e w' ⟨rfl, rfl⟩) | (go_at_call 34; refine (la _).mono ?_; rintro e w' ⟨rfl, rfl⟩) | (go_at_call 34; refine (lb _).mono ?_; rintro e w' ⟨rfl, rfl⟩) | (go_at_call 35; refine (na _).mono ?_; rintro e w' ⟨rfl, rfl⟩) | (go_at_call 35; refine (nb _).mono ?_; rintro e w' ⟨rfl, rfl⟩))
            go_ret2
            exact ⟨rfl, rfl⟩
          | false =>
            have eb := sb' rfl
            clear sb sb'
            go_enter Tryd.func27, Tryd.ntmps27
            go_wp2_with (first | (go_at_call 31; refine (ka _).mono ?_; rintro e w' ⟨rfl, rfl⟩) | (go_at_call 31; refine (kb _).mono ?_; rintro e w' ⟨rfl, rfl⟩) | (go_at_call 34; refine (la _).mono ?_; rintro e w' ⟨rfl, rfl⟩) | (go_at_call 34; refine (lb _).mono ?_; rintro e w' ⟨rfl, rfl⟩) | (go_at_call 35; refine (na _).mono ?_; rintro e w' ⟨rfl, rfl⟩) | (go_at_call 35; refine (nb _).mono ?_; rintro e w' ⟨rfl, rfl⟩))
            go_ret2
            exact ⟨rfl, rfl⟩
        | false =>
          have ea := sa' rfl
          clear sa sa'
          cases t with
          | true =>
            have eb := sb rfl
            clear sb sb'
            go_enter Tryd.func27, Tryd.ntmps27
            go_wp2_with (first | (go_at_call 31; refine (ka _).mono ?_; rintro e w' ⟨rfl, rfl⟩) | (go_at_call 31; refine (kb _).mono ?_; rintro e w' ⟨rfl, rfl⟩) | (go_at_call 34; refine (la _).mono ?_; rintro e w' ⟨rfl, rfl⟩) | (go_at_call 34; refine (lb _).mono ?_; rintro e w' ⟨rfl, rfl⟩) | (go_at_call 35; refine (na _).mono ?_; rintro e w' ⟨rfl, rfl⟩) | (go_at_call 35; refine (nb _).mono ?_; rintro e w' ⟨rfl, rfl⟩))
            go_ret2
            exact ⟨rfl, rfl⟩
          | false =>
            have eb := sb' rfl
            clear sb sb'
            go_enter Tryd.func27, Tryd.ntmps27
            go_wp2_with (first | (go_at_call 31; refine (ka _).mono ?_; rintro e w' ⟨rfl, rfl⟩) | (go_at_call 31; refine (kb _).mono ?_; rintro e w' ⟨rfl, rfl⟩) | (go_at_call 34; refine (la _).mono ?_; rintro e w' ⟨rfl, rfl⟩) | (go_at_call 34; refine (lb _).mono ?_; rintro e w' ⟨rfl, rfl⟩) | (go_at_call 35; refine (na _).mono ?_; rintro e w' ⟨rfl, rfl⟩) | (go_at_call 35; refine (nb _).mono ?_; rintro e w' ⟨rfl, rfl⟩))
            go_ret2
            exact ⟨rfl, rfl⟩
      · have e : decide (X ≤ Y) = true := decide_eq_true (by omega)
        rw [e]
        clear e
        cases s with
        | true =>
          have ea := sa rfl
          clear sa sa'
          cases t with
          | true =>
            have eb := sb rfl
            clear sb sb'
            go_enter Tryd.func27, Tryd.ntmps27
            go_wp2_with (first | (go_at_call 31; refine (ka _).mono ?_; rintro e w' ⟨rfl, rfl⟩) | (go_at_call 31; refine (kb _).mono ?_; rintro e w' ⟨rfl, rfl⟩) | (go_at_call 34; refine (la _).mono ?_; rintro e w' ⟨rfl, rfl⟩) | (go_at_call 34; refine (lb _).mono ?_; rintro e w' ⟨rfl, rfl⟩) | (go_at_call 35; refine (na _).mono ?_; rintro e w' ⟨rfl, rfl⟩) | (go_at_call 35; refine (nb _).mono ?_; rintro e w' ⟨rfl, rfl⟩))
            go_ret2
            exact ⟨rfl, rfl⟩
          | false =>
            have eb := sb' rfl
            clear sb sb'
            go_enter Tryd.func27, Tryd.ntmps27
            go_wp2_with (first | (go_at_call 31; refine (ka _).mono ?_; rintro e w' ⟨rfl, rfl⟩) | (go_at_call 31; refine (kb _).mono ?_; rintro e w' ⟨rfl, rfl⟩) | (go_at_call 34; refine (la _).mono ?_; rintro e w' ⟨rfl, rfl⟩) | (go_at_call 34; refine (lb _).mono ?_; rintro e w' ⟨rfl, rfl⟩) | (go_at_call 35; refine (na _).mono ?_; rintro e w' ⟨rfl, rfl⟩) | (go_at_call 35; refine (nb _).mono ?_; rintro e w' ⟨rfl, rfl⟩))
            go_ret2
            exact ⟨rfl, rfl⟩
        | false =>
          have ea := sa' rfl
          clear sa sa'
          cases t with
          | true =>
            have eb := sb rfl
            clear sb sb'
            go_enter Tryd.func27, Tryd.ntmps27
            go_wp2_with (first | (go_at_call 31; refine (ka _).mono ?_; rintro e w' ⟨rfl, rfl⟩) | (go_at_call 31; refine (kb _).mono ?_; rintro e w' ⟨rfl, rfl⟩) | (go_at_call 34; refine (la _).mono ?_; rintro e w' ⟨rfl, rfl⟩) | (go_at_call 34; refine (lb _).mono ?_; rintro e w' ⟨rfl, rfl⟩) | (go_at_call 35; refine (na _).mono ?_; rintro e w' ⟨rfl, rfl⟩) | (go_at_call 35; refine (nb _).mono ?_; rintro e w' ⟨rfl, rfl⟩))
            go_ret2
            exact ⟨rfl, rfl⟩
          | false =>
            have eb := sb' rfl
            clear sb sb'
            go_enter Tryd.func27, Tryd.ntmps27
            go_wp2_with (first | (go_at_call 31; refine (ka _).mono ?_; rintro e w' ⟨rfl, rfl⟩) | (go_at_call 31; refine (kb _).mono ?_; rintro e w' ⟨rfl, rfl⟩) | (go_at_call 34; refine (la _).mono ?_; rintro e w' ⟨rfl, rfl⟩) | (go_at_call 34; refine (lb _).mono ?_; rintro e w' ⟨rfl, rfl⟩) | (go_at_call 35; refine (na _).mono ?_; rintro e w' ⟨rfl, rfl⟩) | (go_at_call 35; refine (nb _).mono ?_; rintro e w' ⟨rfl, rfl⟩))
            go_ret2
            exact ⟨rfl, rfl⟩

end Go.Proofs.YtacaidobfildoaaDoor
