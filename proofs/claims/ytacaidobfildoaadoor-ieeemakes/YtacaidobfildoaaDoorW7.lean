/- What the program's Make answers: the float of m times 2 to the e, rounded by the mode. -/
import Derived.Test.YtacaidobfildoaaDoorW6
namespace Go.Proofs.YtacaidobfildoaaDoor
set_option linter.unusedVariables false
set_option linter.unusedSimpArgs false
open Go.RowKit Go.Fl64

/-- The way of a mode, once the sign is known; the float that is made ('nan': of a mode that is none). -/
def wy (neg : Bool) (mode : Int) : Int := if mode = 2 then 1 else if (neg == (mode == 1)) then 2 else 0
def mk (neg : Bool) (m : Nat) (e mode : Int) (nan : Nat) : Nat := if mode = 1 ∨ mode = 2 ∨ mode = 3 then sig neg (if m = 0 then 0 else (bod m e (wy neg mode)).toNat) else nan

theorem c52 (w : World) : Calls Tryd.prog 52 #[] w fun e w' => e = .returned (.float .f64 9221120237041090561) ∧ w' = w := by
  have kf := run_frombits
  go_enter Tryd.func52, Tryd.ntmps52
  go_wp2
  go_ret
  exact ⟨rfl, rfl⟩

theorem c24_2true (m e B C : Int) (w : World) (hm : (m != 0) = true)
    (k53 : ∀ w, Calls Tryd.prog 53 #[.int .u64 m, .int .i64 e, .int .i64 1] w fun r w' => r = .returned (.int .u64 B) ∧ w' = w) (hor : bits .or .u64 B 9223372036854775808 = C) :
    Calls Tryd.prog 24 #[.bool true, .int .u64 m, .int .i64 e, .int .i64 2] w fun r w' => r = .returned (.float .f64 C.toNat) ∧ w' = w := by
  have kf := run_frombits
  go_enter Tryd.func24, Tryd.ntmps24
  go_wp2_with (first | (go_at_call 53; refine (k53 _).mono ?_; rintro e w' ⟨rfl, rfl⟩))
  go_ret
  exact ⟨rfl, rfl⟩
theorem c24_2truez (e C : Int) (w : World) (hor : bits .or .u64 0 9223372036854775808 = C) :
    Calls Tryd.prog 24 #[.bool true, .int .u64 0, .int .i64 e, .int .i64 2] w fun r w' => r = .returned (.float .f64 C.toNat) ∧ w' = w := by
  have kf := run_frombits
  go_enter Tryd.func24, Tryd.ntmps24
  go_wp2
  go_ret
  exact ⟨rfl, rfl⟩

theorem c24_2false (m e B C : Int) (w : World) (hm : (m != 0) = true)
    (k53 : ∀ w, Calls Tryd.prog 53 #[.int .u64 m, .int .i64 e, .int .i64 1] w fun r w' => r = .returned (.int .u64 B) ∧ w' = w) (hor : bits .or .u64 B 9223372036854775808 = C) :
    Calls Tryd.prog 24 #[.bool false, .int .u64 m, .int .i64 e, .int .i64 2] w fun r w' => r = .returned (.float .f64 B.toNat) ∧ w' = w := by
  have kf := run_frombits
  go_enter Tryd.func24, Tryd.ntmps24
  go_wp2_with (first | (go_at_call 53; refine (k53 _).mono ?_; rintro e w' ⟨rfl, rfl⟩))
  go_ret
  exact ⟨rfl, rfl⟩
theorem c24_2falsez (e C : Int) (w : World) (hor : bits .or .u64 0 9223372036854775808 = C) :
    Calls Tryd.prog 24 #[.bool false, .int .u64 0, .int .i64 e, .int .i64 2] w fun r w' => r = .returned (.float .f64 0) ∧ w' = w := by
  have kf := run_frombits
  go_enter Tryd.func24, Tryd.ntmps24
  go_wp2
  go_ret
  exact ⟨rfl, rfl⟩

theorem c24_1true (m e B C : Int) (w : World) (hm : (m != 0) = true)
    (k53 : ∀ w, Calls Tryd.prog 53 #[.int .u64 m, .int .i64 e, .int .i64 2] w fun r w' => r = .returned (.int .u64 B) ∧ w' = w) (hor : bits .or .u64 B 9223372036854775808 = C) :
    Calls Tryd.prog 24 #[.bool true, .int .u64 m, .int .i64 e, .int .i64 1] w fun r w' => r = .returned (.float .f64 C.toNat) ∧ w' = w := by
  have kf := run_frombits
  go_enter Tryd.func24, Tryd.ntmps24
  go_wp2_with (first | (go_at_call 53; refine (k53 _).mono ?_; rintro e w' ⟨rfl, rfl⟩))
  go_ret
  exact ⟨rfl, rfl⟩
theorem c24_1truez (e C : Int) (w : World) (hor : bits .or .u64 0 9223372036854775808 = C) :
    Calls Tryd.prog 24 #[.bool true, .int .u64 0, .int .i64 e, .int .i64 1] w fun r w' => r = .returned (.float .f64 C.toNat) ∧ w' = w := by
  have kf := run_frombits
  go_enter Tryd.func24, Tryd.ntmps24
  go_wp2
  go_ret
  exact ⟨rfl, rfl⟩

theorem c24_3false (m e B C : Int) (w : World) (hm : (m != 0) = true)
    (k53 : ∀ w, Calls Tryd.prog 53 #[.int .u64 m, .int .i64 e, .int .i64 2] w fun r w' => r = .returned (.int .u64 B) ∧ w' = w) (hor : bits .or .u64 B 9223372036854775808 = C) :
    Calls Tryd.prog 24 #[.bool false, .int .u64 m, .int .i64 e, .int .i64 3] w fun r w' => r = .returned (.float .f64 B.toNat) ∧ w' = w := by
  have kf := run_frombits
  go_enter Tryd.func24, Tryd.ntmps24
  go_wp2_with (first | (go_at_call 53; refine (k53 _).mono ?_; rintro e w' ⟨rfl, rfl⟩))
  go_ret
  exact ⟨rfl, rfl⟩
theorem c24_3falsez (e C : Int) (w : World) (hor : bits .or .u64 0 9223372036854775808 = C) :
    Calls Tryd.prog 24 #[.bool false, .int .u64 0, .int .i64 e, .int .i64 3] w fun r w' => r = .returned (.float .f64 0) ∧ w' = w := by
  have kf := run_frombits
  go_enter Tryd.func24, Tryd.ntmps24
  go_wp2
  go_ret
  exact ⟨rfl, rfl⟩

theorem c24_1false (m e B C : Int) (w : World) (hm : (m != 0) = true)
    (k53 : ∀ w, Calls Tryd.prog 53 #[.int .u64 m, .int .i64 e, .int .i64 0] w fun r w' => r = .returned (.int .u64 B) ∧ w' = w) (hor : bits .or .u64 B 9223372036854775808 = C) :
    Calls Tryd.prog 24 #[.bool false, .int .u64 m, .int .i64 e, .int .i64 1] w fun r w' => r = .returned (.float .f64 B.toNat) ∧ w' = w := by
  have kf := run_frombits
  go_enter Tryd.func24, Tryd.ntmps24
  go_wp2_with (first | (go_at_call 53; refine (k53 _).mono ?_; rintro e w' ⟨rfl, rfl⟩))
  go_ret
  exact ⟨rfl, rfl⟩
theorem c24_1falsez (e C : Int) (w : World) (hor : bits .or .u64 0 9223372036854775808 = C) :
    Calls Tryd.prog 24 #[.bool false, .int .u64 0, .int .i64 e, .int .i64 1] w fun r w' => r = .returned (.float .f64 0) ∧ w' = w := by
  have kf := run_frombits
  go_enter Tryd.func24, Tryd.ntmps24
  go_wp2
  go_ret
  exact ⟨rfl, rfl⟩

theorem c24_3true (m e B C : Int) (w : World) (hm : (m != 0) = true)
    (k53 : ∀ w, Calls Tryd.prog 53 #[.int .u64 m, .int .i64 e, .int .i64 0] w fun r w' => r = .returned (.int .u64 B) ∧ w' = w) (hor : bits .or .u64 B 9223372036854775808 = C) :
    Calls Tryd.prog 24 #[.bool true, .int .u64 m, .int .i64 e, .int .i64 3] w fun r w' => r = .returned (.float .f64 C.toNat) ∧ w' = w := by
  have kf := run_frombits
  go_enter Tryd.func24, Tryd.ntmps24
  go_wp2_with (first | (go_at_call 53; refine (k53 _).mono ?_; rintro e w' ⟨rfl, rfl⟩))
  go_ret
  exact ⟨rfl, rfl⟩
theorem c24_3truez (e C : Int) (w : World) (hor : bits .or .u64 0 9223372036854775808 = C) :
    Calls Tryd.prog 24 #[.bool true, .int .u64 0, .int .i64 e, .int .i64 3] w fun r w' => r = .returned (.float .f64 C.toNat) ∧ w' = w := by
  have kf := run_frombits
  go_enter Tryd.func24, Tryd.ntmps24
  go_wp2
  go_ret
  exact ⟨rfl, rfl⟩

theorem c24_none (neg : Bool) (m e mode : Int) (w : World) (h1 : (mode == 1) = false) (h2 : (mode == 2) = false) (h3 : (mode == 3) = false) :
    Calls Tryd.prog 24 #[.bool neg, .int .u64 m, .int .i64 e, .int .i64 mode] w fun r w' => r = .returned (.float .f64 9221120237041090561) ∧ w' = w := by
  go_enter Tryd.func24, Tryd.ntmps24
  go_wp2_with (first | (go_at_call 52; refine (c52 _).mono ?_; rintro e w' ⟨rfl, rfl⟩))
  go_ret
  exact ⟨rfl, rfl⟩

theorem c24 (neg : Bool) (m : Nat) (e mode : Int) (hm : m < 18446744073709551616) (w : World) :
    Calls Tryd.prog 24 #[.bool neg, .int .u64 m, .int .i64 e, .int .i64 mode] w fun r w' => r = .returned (.float .f64 (mk neg m e mode 9221120237041090561)) ∧ w' = w := by
  have hz : bits .or .u64 0 9223372036854775808 = 9223372036854775808 := by decide +kernel
  by_cases hmode : mode = 1 ∨ mode = 2 ∨ mode = 3
  · unfold mk
    rw [if_pos hmode]
    by_cases h0 : m = 0
    · subst h0
      rw [if_pos rfl]
      rcases hmode with rfl | rfl | rfl <;> cases neg
      · exact c24_1falsez e _ w hz
      · exact c24_1truez e _ w hz
      · exact c24_2falsez e _ w hz
      · exact c24_2truez e _ w hz
      · exact c24_3falsez e _ w hz
      · exact c24_3truez e _ w hz
    · rw [if_neg h0]
      have hb : ((m : Int) != 0) = true := by simp; omega
      have hor : ∀ way, bits .or .u64 (bod m e way) 9223372036854775808 = (((bod m e way).toNat + 9223372036854775808 : Nat) : Int) := by
        intro way
        have h1 := bod_bounds m e way hm h0
        have h2 := or_sign (bod m e way).toNat (by omega)
        rw [show (((bod m e way).toNat : Nat) : Int) = bod m e way by omega] at h2
        exact h2
      rcases hmode with rfl | rfl | rfl <;> cases neg
      · exact c24_1false m e _ _ w hb (fun w => c53 m e 0 hm h0 (by simp) w) (hor 0)
      · exact c24_1true m e _ _ w hb (fun w => c53 m e 2 hm h0 (by simp) w) (hor 2)
      · exact c24_2false m e _ _ w hb (fun w => c53 m e 1 hm h0 (by simp) w) (hor 1)
      · exact c24_2true m e _ _ w hb (fun w => c53 m e 1 hm h0 (by simp) w) (hor 1)
      · exact c24_3false m e _ _ w hb (fun w => c53 m e 2 hm h0 (by simp) w) (hor 2)
      · exact c24_3true m e _ _ w hb (fun w => c53 m e 0 hm h0 (by simp) w) (hor 0)
  · unfold mk
    rw [if_neg hmode]
    exact c24_none neg m e mode w (by simp; omega) (by simp; omega) (by simp; omega)

end Go.Proofs.YtacaidobfildoaaDoor
