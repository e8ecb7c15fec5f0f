/- What Next answers, on both sides; what the small test answers that every law makes. -/
import Derived.Test.YtacaidobfildoaaDoorW4
import Derived.Test.YtacaidobfildoaaDoorW7
import Derived.Test.YtacaidobfildoaaDoorW2
namespace Go.Proofs.YtacaidobfildoaaDoor
set_option linter.unusedVariables false
set_option linter.unusedSimpArgs false
open Go.RowKit Go.Fl64

/-- The float above. -/
def nx (a : Nat) : Nat := if isNaN a then a else if a = 9218868437227405312 then a else if mag a = 0 then 1 else if neg a then a - 1 else a + 1

theorem eq_zero {a : Nat} (h : isNaN a = false) : eq a 0 = decide (mag a = 0) := by
  unfold eq
  rw [h]
  have e : isNaN 0 = false := by decide
  rw [e]
  have e2 : stp 0 = 0 := by decide
  rw [e2]
  simp only [Bool.not_false, Bool.true_and]
  congr 1
  apply propext
  unfold stp sgn
  split <;> omega

theorem and_sign_ne (a : Nat) (h : a < 18446744073709551616) : (bits .and .u64 (a : Int) 9223372036854775808 != 0) = neg a := by
  rw [and_sign a h]
  cases neg a <;> decide

theorem c16_1 (a : Nat) (w : World) (hn : (FloatKind.f64.format.order a a != some Ordering.eq) = true) :
    Calls Tryd.prog 16 #[.float .f64 a] w fun r w' => r = .returned (.float .f64 a) ∧ w' = w := by
  have kb := run_bits
  have kf := run_frombits
  go_enter Tryd.func16, Tryd.ntmps16
  go_wp2
  go_ret
  exact ⟨rfl, rfl⟩
theorem c16_2 (a : Nat) (w : World) (hn : (FloatKind.f64.format.order a a != some Ordering.eq) = false) (h2 : ((a : Int) == 9218868437227405312) = true) :
    Calls Tryd.prog 16 #[.float .f64 a] w fun r w' => r = .returned (.float .f64 a) ∧ w' = w := by
  have kb := run_bits
  have kf := run_frombits
  go_enter Tryd.func16, Tryd.ntmps16
  go_wp2
  go_ret
  exact ⟨rfl, rfl⟩
theorem c16_3 (a : Nat) (w : World) (hn : (FloatKind.f64.format.order a a != some Ordering.eq) = false) (h2 : ((a : Int) == 9218868437227405312) = false) (h3 : (FloatKind.f64.format.order a 0 == some Ordering.eq) = true) :
    Calls Tryd.prog 16 #[.float .f64 a] w fun r w' => r = .returned (.float .f64 1) ∧ w' = w := by
  have kb := run_bits
  have kf := run_frombits
  go_enter Tryd.func16, Tryd.ntmps16
  go_wp2
  go_ret
  exact ⟨rfl, rfl⟩
theorem c16_4 (a : Nat) (r : Int) (w : World) (hn : (FloatKind.f64.format.order a a != some Ordering.eq) = false) (h2 : ((a : Int) == 9218868437227405312) = false) (h3 : (FloatKind.f64.format.order a 0 == some Ordering.eq) = false) (h4 : (bits .and .u64 (a : Int) 9223372036854775808 != 0) = true) (h5 : IntKind.u64.wrap ((a : Int) - 1) = r) :
    Calls Tryd.prog 16 #[.float .f64 a] w fun e w' => e = .returned (.float .f64 r.toNat) ∧ w' = w := by
  have kb := run_bits
  have kf := run_frombits
  go_enter Tryd.func16, Tryd.ntmps16
  go_wp2
  go_ret
  exact ⟨rfl, rfl⟩
theorem c16_5 (a : Nat) (r : Int) (w : World) (hn : (FloatKind.f64.format.order a a != some Ordering.eq) = false) (h2 : ((a : Int) == 9218868437227405312) = false) (h3 : (FloatKind.f64.format.order a 0 == some Ordering.eq) = false) (h4 : (bits .and .u64 (a : Int) 9223372036854775808 != 0) = false) (h5 : IntKind.u64.wrap ((a : Int) + 1) = r) :
    Calls Tryd.prog 16 #[.float .f64 a] w fun e w' => e = .returned (.float .f64 r.toNat) ∧ w' = w := by
  have kb := run_bits
  have kf := run_frombits
  go_enter Tryd.func16, Tryd.ntmps16
  go_wp2
  go_ret
  exact ⟨rfl, rfl⟩

theorem wrap_pred (a : Nat) (h : a < 18446744073709551616) (h0 : neg a = true) : IntKind.u64.wrap ((a : Int) - 1) = ((a - 1 : Nat) : Int) := by
  have := of_decide_eq_true h0
  rw [IntKind.wrap_u64]
  omega
theorem wrap_succ (a : Nat) (h0 : neg a = false) : IntKind.u64.wrap ((a : Int) + 1) = ((a + 1 : Nat) : Int) := by
  have := of_decide_eq_false h0
  rw [IntKind.wrap_u64]
  omega

theorem c16 (a : Nat) (ha : a < 18446744073709551616) (w : World) :
    Calls Tryd.prog 16 #[.float .f64 a] w fun e w' => e = .returned (.float .f64 (nx a)) ∧ w' = w := by
  have hn := self_ne a ha
  have h3 := ord_eq a 0 ha (by decide)
  have h4 := and_sign_ne a ha
  unfold nx
  cases hx : isNaN a with
  | true =>
    rw [if_pos rfl]
    exact c16_1 a w (hn.trans hx)
  | false =>
    rw [if_neg (by decide)]
    rw [eq_zero hx] at h3
    by_cases h2 : a = 9218868437227405312
    · rw [if_pos h2]
      exact c16_2 a w (hn.trans hx) (by simp; omega)
    · rw [if_neg h2]
      have h2' : ((a : Int) == 9218868437227405312) = false := by simp; omega
      by_cases h5 : mag a = 0
      · rw [if_pos h5]
        exact c16_3 a w (hn.trans hx) h2' (h3.trans (decide_eq_true h5))
      · rw [if_neg h5]
        have h3' := h3.trans (decide_eq_false h5)
        cases hs : neg a with
        | true =>
          rw [if_pos rfl]
          exact c16_4 a _ w (hn.trans hx) h2' h3' (h4.trans hs) (wrap_pred a ha hs)
        | false =>
          rw [if_neg (by decide)]
          exact c16_5 a _ w (hn.trans hx) h2' h3' (h4.trans hs) (wrap_succ a hs)

theorem c43t (w : World) : Calls Tryd.prog 43 #[.bool true] w fun e w' => e = .returned (.float .f64 9223372036854775808) ∧ w' = w := by
  go_enter Tryd.func43, Tryd.ntmps43
  go_wp2_with (first | (go_at_call 40; refine (c40 _ _).mono ?_; rintro e w' ⟨rfl, rfl⟩))
  go_ret
  exact ⟨rfl, rfl⟩
theorem c43f (w : World) : Calls Tryd.prog 43 #[.bool false] w fun e w' => e = .returned (.float .f64 0) ∧ w' = w := by
  go_enter Tryd.func43, Tryd.ntmps43
  go_wp2_with (first | (go_at_call 40; refine (c40 _ _).mono ?_; rintro e w' ⟨rfl, rfl⟩))
  go_ret
  exact ⟨rfl, rfl⟩

theorem c15x (w : World) (hT : Tab w) (n1 : Nat)
    (k43 : ∀ w, Calls Tryd.prog 43 #[.bool true] w fun e w' => e = .returned (.float .f64 n1) ∧ w' = w)
    (k9 : ∀ w, Calls Tryd.prog 9 #[.float .f64 n1] w fun e w' => e = .returned (.tuple #[.int .i64 3, .bool true]) ∧ w' = w)
    (k22 : ∀ w, Tab w → Calls Tryd.prog 22 #[.float .f64 4618441417868443648] w fun e w' => e = .returned (.tuple #[.int .u64 3, .int .i64 1, .bool false, .bool true]) ∧ ∃ n, w' = w.drewN n)
    (k16 : ∀ w, Calls Tryd.prog 16 #[.float .f64 4607182418800017408] w fun e w' => e = .returned (.float .f64 4607182418800017409) ∧ w' = w)
    (k28 : ∀ w, Calls Tryd.prog 28 #[.float .f64 4607182418800017408] w fun e w' => e = .returned (.int .i64 4607182418800017408) ∧ w' = w)
    (k24 : ∀ w, Calls Tryd.prog 24 #[.bool false, .int .u64 3, .int .i64 1, .int .i64 1] w fun e w' => e = .returned (.float .f64 4618441417868443648) ∧ w' = w)
    (o1 : (FloatKind.f64.format.order 4607182418800017409 4607182418800017408 == some Ordering.gt) = true)
    (o2 : (FloatKind.f64.format.order 4618441417868443648 4618441417868443648 == some Ordering.eq) = true) :
    Calls Tryd.prog 15 #[] w fun e w' => e = .returned (.bool true) ∧ ∃ n, w' = w.drewN n := by
  have KT : Hid (Tab w) := hT
  clear hT
  go_enter Tryd.func15, Tryd.ntmps15
  go_wp2_with (first | (go_at_call 43; refine (k43 _).mono ?_; rintro e w' ⟨rfl, rfl⟩) | (go_at_call 9; refine (k9 _).mono ?_; rintro e w' ⟨rfl, rfl⟩) | (go_at_call 22; refine (k22 _ KT.out).mono ?_; rintro e w' ⟨rfl, n, rfl⟩) | (go_at_call 16; refine (k16 _).mono ?_; rintro e w' ⟨rfl, rfl⟩) | (go_at_call 28; refine (k28 _).mono ?_; rintro e w' ⟨rfl, rfl⟩) | (go_at_call 24; refine (k24 _).mono ?_; rintro e w' ⟨rfl, rfl⟩))
  go_ret
  exact ⟨rfl, _, rfl⟩

theorem c15 (w : World) (hT : Tab w) : Calls Tryd.prog 15 #[] w fun e w' => e = .returned (.bool true) ∧ ∃ n, w' = w.drewN n := by
  refine c15x w hT 9223372036854775808 c43t ?_ ?_ ?_ ?_ ?_ (by decide +kernel) (by decide +kernel)
  · exact fun w => c9 9223372036854775808 (by decide) w
  · exact fun w hT => c22 4618441417868443648 (by decide) w hT
  · exact fun w => c16 4607182418800017408 (by decide) w
  · exact fun w => c28 4607182418800017408 (by decide) w
  · exact fun w => c24 false 3 1 1 (by decide) w

end Go.Proofs.YtacaidobfildoaaDoor
