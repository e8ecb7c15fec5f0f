/- What the small functions of the program answer, call by call: the bits, the sign, the magnitude of a float, whether it is a NaN. -/
import Derived.Test.YtacaidobfildoaaDoorRows
import Derived.Test.YtacaidobfildoaaDoorFl
import Derived.WalkKit
import Derived.WalkSpells
import Derived.WalkLawsBesides
import Derived.BigQuiet
namespace Go.Proofs.YtacaidobfildoaaDoor
open Go.RowKit Go.Fl64

theorem run_bits (a : Nat) (w : World) : (callFunc 36 #[.float .f64 a]).run Tryd.prog w = .ok (.value (.int .u64 a)) w :=
  run_callFunc_extern Tryd.func36 (e := Extern.MathFloatBits.float64bits) (by kernel_rfl) (by kernel_rfl) (by kernel_rfl) (by kernel_rfl) #[.float .f64 a] w
theorem run_frombits (a : Int) (w : World) : (callFunc 44 #[.int .u64 a]).run Tryd.prog w = .ok (.value (.float .f64 a.toNat)) w :=
  run_callFunc_extern Tryd.func44 (e := Extern.MathFloatBits.float64frombits) (by kernel_rfl) (by kernel_rfl) (by kernel_rfl) (by kernel_rfl) #[.int .u64 a] w

theorem c32 (a : Nat) (ha : a < 18446744073709551616) (w : World) :
    Calls Tryd.prog 32 #[.float .f64 a] w fun e w' => e = .returned (.int .u64 (mag a)) ∧ w' = w := by
  have hb := run_bits
  go_enter Tryd.func32, Tryd.ntmps32
  go_wp2
  go_ret
  refine ⟨?_, rfl⟩
  show Ending.returned (.int .u64 (bits .andNot .u64 a 9223372036854775808)) = _
  rw [andNot_sign a ha]

theorem c33 (a : Nat) (ha : a < 18446744073709551616) (w : World) :
    Calls Tryd.prog 33 #[.float .f64 a] w fun e w' => e = .returned (.bool (neg a)) ∧ w' = w := by
  have hb := run_bits
  go_enter Tryd.func33, Tryd.ntmps33
  go_wp2
  go_ret
  refine ⟨?_, rfl⟩
  show Ending.returned (.bool (decide (wrap64 (a : Int) < 0))) = _
  rw [wrap_neg a ha]

theorem c41 (a : Nat) (w : World) :
    Calls Tryd.prog 41 #[.float .f64 a] w fun e w' => e = .returned (.int .u64 a) ∧ w' = w := by
  have hb := run_bits
  go_enter Tryd.func41, Tryd.ntmps41
  go_wp2
  go_ret
  exact ⟨rfl, rfl⟩

theorem c40 (a : Int) (w : World) :
    Calls Tryd.prog 40 #[.int .u64 a] w fun e w' => e = .returned (.float .f64 a.toNat) ∧ w' = w := by
  have hf := run_frombits
  go_enter Tryd.func40, Tryd.ntmps40
  go_wp2
  go_ret
  exact ⟨rfl, rfl⟩

theorem c34 (a : Nat) (ha : a < 18446744073709551616) (w : World) :
    Calls Tryd.prog 34 #[.float .f64 a] w fun e w' => e = .returned (.int .u64 (mag a)) ∧ w' = w := by
  go_enter Tryd.func34, Tryd.ntmps34
  go_wp2_with (go_at_call 41; refine (c41 a _).mono ?_; rintro e w' ⟨rfl, rfl⟩)
  go_ret
  refine ⟨?_, rfl⟩
  show Ending.returned (.int .u64 (bits .andNot .u64 a 9223372036854775808)) = _
  rw [andNot_sign a ha]

theorem c35 (a : Nat) (ha : a < 18446744073709551616) (w : World) :
    Calls Tryd.prog 35 #[.float .f64 a] w fun e w' => e = .returned (.bool (neg a)) ∧ w' = w := by
  go_enter Tryd.func35, Tryd.ntmps35
  go_wp2_with (go_at_call 41; refine (c41 a _).mono ?_; rintro e w' ⟨rfl, rfl⟩)
  go_ret
  refine ⟨?_, rfl⟩
  show Ending.returned (.bool ((a : Int) / 9223372036854775808 == 1)) = _
  rw [neg_div a ha]

theorem c31 (a : Nat) (ha : a < 18446744073709551616) (w : World) :
    Calls Tryd.prog 31 #[.float .f64 a] w fun e w' => e = .returned (.bool (isNaN a)) ∧ w' = w := by
  go_enter Tryd.func31, Tryd.ntmps31
  go_wp2_with (go_at_call 34; refine (c34 a ha _).mono ?_; rintro e w' ⟨rfl, rfl⟩)
  go_ret
  refine ⟨?_, rfl⟩
  show Ending.returned (.bool (decide ((9218868437227405312 : Int) < (mag a : Int)))) = _
  rw [nan_int]

theorem c9 (a : Nat) (ha : a < 18446744073709551616) (w : World) :
    Calls Tryd.prog 9 #[.float .f64 a] w fun e w' => e = .returned (.tuple #[.int .i64 (cls a), .bool (cneg a)]) ∧ w' = w := by
  have k32 := c32 a ha
  have k33 := c33 a ha
  unfold cls cneg
  generalize (mag a : Int) = m at k32 ⊢
  generalize neg a = s at k33 ⊢
  clear ha
  by_cases h1 : (9218868437227405312 : Int) < m
  · simp only [h1, if_true]
    go_enter Tryd.func9, Tryd.ntmps9
    go_wp2_with (first | (go_at_call 32; refine (k32 _).mono ?_; rintro e w' ⟨rfl, rfl⟩) | (go_at_call 33; refine (k33 _).mono ?_; rintro e w' ⟨rfl, rfl⟩))
    go_ret2
    exact ⟨rfl, rfl⟩
  · cases h2 : (m == 9218868437227405312) with
    | true =>
      simp only [h1, if_true, if_false]
      go_enter Tryd.func9, Tryd.ntmps9
      go_wp2_with (first | (go_at_call 32; refine (k32 _).mono ?_; rintro e w' ⟨rfl, rfl⟩) | (go_at_call 33; refine (k33 _).mono ?_; rintro e w' ⟨rfl, rfl⟩))
      go_ret2
      exact ⟨rfl, rfl⟩
    | false =>
      cases h3 : (m == 0) with
      | true =>
        simp only [h1, if_true, if_false, Bool.false_eq_true]
        go_enter Tryd.func9, Tryd.ntmps9
        go_wp2_with (first | (go_at_call 32; refine (k32 _).mono ?_; rintro e w' ⟨rfl, rfl⟩) | (go_at_call 33; refine (k33 _).mono ?_; rintro e w' ⟨rfl, rfl⟩))
        go_ret2
        exact ⟨rfl, rfl⟩
      | false =>
        by_cases h4 : m < 4503599627370496
        · simp only [h1, h4, if_true, if_false, Bool.false_eq_true]
          go_enter Tryd.func9, Tryd.ntmps9
          go_wp2_with (first | (go_at_call 32; refine (k32 _).mono ?_; rintro e w' ⟨rfl, rfl⟩) | (go_at_call 33; refine (k33 _).mono ?_; rintro e w' ⟨rfl, rfl⟩))
          go_ret2
          exact ⟨rfl, rfl⟩
        · simp only [h1, h4, if_false, Bool.false_eq_true]
          go_enter Tryd.func9, Tryd.ntmps9
          go_wp2_with (first | (go_at_call 32; refine (k32 _).mono ?_; rintro e w' ⟨rfl, rfl⟩) | (go_at_call 33; refine (k33 _).mono ?_; rintro e w' ⟨rfl, rfl⟩))
          go_ret2
          exact ⟨rfl, rfl⟩

theorem c10 (a : Nat) (ha : a < 18446744073709551616) (w : World) :
    Calls Tryd.prog 10 #[.float .f64 a] w fun e w' => e = .returned (.tuple #[.int .i64 (cls a), .bool (cneg a)]) ∧ w' = w := by
  have k34 := c34 a ha
  have k35 := c35 a ha
  unfold cls cneg
  generalize (mag a : Int) = m at k34 ⊢
  generalize neg a = s at k35 ⊢
  clear ha
  by_cases h1 : (9218868437227405312 : Int) < m
  · simp only [h1, if_true]
    go_enter Tryd.func10, Tryd.ntmps10
    go_wp2_with (first | (go_at_call 34; refine (k34 _).mono ?_; rintro e w' ⟨rfl, rfl⟩) | (go_at_call 35; refine (k35 _).mono ?_; rintro e w' ⟨rfl, rfl⟩))
    go_ret2
    exact ⟨rfl, rfl⟩
  · cases h2 : (m == 9218868437227405312) with
    | true =>
      simp only [h1, if_true, if_false]
      go_enter Tryd.func10, Tryd.ntmps10
      go_wp2_with (first | (go_at_call 34; refine (k34 _).mono ?_; rintro e w' ⟨rfl, rfl⟩) | (go_at_call 35; refine (k35 _).mono ?_; rintro e w' ⟨rfl, rfl⟩))
      go_ret2
      exact ⟨rfl, rfl⟩
    | false =>
      cases h3 : (m == 0) with
      | true =>
        simp only [h1, if_true, if_false, Bool.false_eq_true]
        go_enter Tryd.func10, Tryd.ntmps10
        go_wp2_with (first | (go_at_call 34; refine (k34 _).mono ?_; rintro e w' ⟨rfl, rfl⟩) | (go_at_call 35; refine (k35 _).mono ?_; rintro e w' ⟨rfl, rfl⟩))
        go_ret2
        exact ⟨rfl, rfl⟩
      | false =>
        by_cases h4 : m < 4503599627370496
        · simp only [h1, h4, if_true, if_false, Bool.false_eq_true]
          go_enter Tryd.func10, Tryd.ntmps10
          go_wp2_with (first | (go_at_call 34; refine (k34 _).mono ?_; rintro e w' ⟨rfl, rfl⟩) | (go_at_call 35; refine (k35 _).mono ?_; rintro e w' ⟨rfl, rfl⟩))
          go_ret2
          exact ⟨rfl, rfl⟩
        · simp only [h1, h4, if_false, Bool.false_eq_true]
          go_enter Tryd.func10, Tryd.ntmps10
          go_wp2_with (first | (go_at_call 34; refine (k34 _).mono ?_; rintro e w' ⟨rfl, rfl⟩) | (go_at_call 35; refine (k35 _).mono ?_; rintro e w' ⟨rfl, rfl⟩))
          go_ret2
          exact ⟨rfl, rfl⟩

theorem c11 (a b : Nat) (ha : a < 18446744073709551616) (hb : b < 18446744073709551616) (w : World) :
    Calls Tryd.prog 11 #[.float .f64 a, .float .f64 b] w fun e w' => e = .returned (.bool (same a b)) ∧ w' = w := by
  have kb := run_bits
  have na := self_ne a ha
  have nb := self_ne b hb
  unfold same
  clear ha hb
  generalize isNaN a = x at na ⊢
  generalize isNaN b = y at nb ⊢
  cases h1 : ((a : Int) == (b : Int)) with
  | true =>
    go_enter Tryd.func11, Tryd.ntmps11
    go_wp2
    go_ret
    exact ⟨rfl, rfl⟩
  | false =>
    cases x with
    | true =>
      go_enter Tryd.func11, Tryd.ntmps11
      go_wp2
      go_ret
      exact ⟨rfl, rfl⟩
    | false =>
      go_enter Tryd.func11, Tryd.ntmps11
      go_wp2
      go_ret
      exact ⟨rfl, rfl⟩

theorem c37 (a b : Nat) (ha : a < 18446744073709551616) (hb : b < 18446744073709551616) (w : World) :
    Calls Tryd.prog 37 #[.float .f64 a, .float .f64 b] w fun e w' => e = .returned (.bool (same a b)) ∧ w' = w := by
  have ka := c31 a ha
  have kb := c31 b hb
  unfold same
  clear ha hb
  generalize isNaN a = x at ka ⊢
  generalize isNaN b = y at kb ⊢
  cases h1 : ((a : Int) == (b : Int)) with
  | true =>
    go_enter Tryd.func37, Tryd.ntmps37
    go_wp2_with (first | (go_at_call 41; refine (c41 _ _).mono ?_; rintro e w' ⟨rfl, rfl⟩))
    go_ret
    exact ⟨rfl, rfl⟩
  | false =>
    cases x with
    | true =>
      go_enter Tryd.func37, Tryd.ntmps37
      go_wp2_with (first | (go_at_call 41; refine (c41 _ _).mono ?_; rintro e w' ⟨rfl, rfl⟩) | (go_at_call 31; refine (ka _).mono ?_; rintro e w' ⟨rfl, rfl⟩) | (go_at_call 31; refine (kb _).mono ?_; rintro e w' ⟨rfl, rfl⟩))
      go_ret
      exact ⟨rfl, rfl⟩
    | false =>
      go_enter Tryd.func37, Tryd.ntmps37
      go_wp2_with (first | (go_at_call 41; refine (c41 _ _).mono ?_; rintro e w' ⟨rfl, rfl⟩) | (go_at_call 31; refine (ka _).mono ?_; rintro e w' ⟨rfl, rfl⟩) | (go_at_call 31; refine (kb _).mono ?_; rintro e w' ⟨rfl, rfl⟩))
      go_ret
      exact ⟨rfl, rfl⟩

theorem c12 (a b : Nat) (ha : a < 18446744073709551616) (hb : b < 18446744073709551616) (w : World) :
    Calls Tryd.prog 12 #[.float .f64 a, .float .f64 b] w fun e w' => e = .returned (.bool (same a b)) ∧ w' = w := by
  have k := c37 a b ha hb
  clear ha hb
  go_enter Tryd.func12, Tryd.ntmps12
  go_wp2_with (first | (go_at_call 37; refine (k _).mono ?_; rintro e w' ⟨rfl, rfl⟩))
  go_ret
  exact ⟨rfl, rfl⟩

end Go.Proofs.YtacaidobfildoaaDoor
