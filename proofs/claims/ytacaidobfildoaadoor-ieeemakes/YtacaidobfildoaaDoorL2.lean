/- What Unit answers, on both sides, and what the law IeeeSteps answers, for every float. -/
import Derived.Test.YtacaidobfildoaaDoorW9
namespace Go.Proofs.YtacaidobfildoaaDoor
set_option linter.unusedVariables false
set_option linter.unusedSimpArgs false
open Go.RowKit Go.Fl64

theorem c50x (a : Nat) (m f x y : Int) (w : World)
    (k34 : ∀ w, Calls Tryd.prog 34 #[.float .f64 a] w fun e w' => e = .returned (.int .u64 m) ∧ w' = w)
    (hq : wrap64 (m / 4503599627370496) = f) (hand : bits .and .u64 m 4503599627370495 = x) (hor : bits .or .u64 x 4503599627370496 = y) :
    Calls Tryd.prog 50 #[.float .f64 a] w fun e w' => e = .returned (.tuple #[.int .u64 (if f == 0 then x else y), .int .i64 (if f == 0 then -1074 else wrap64 (f - 1075))]) ∧ w' = w := by
  cases h : (f == 0) with
  | true =>
    simp only [if_true]
    go_enter Tryd.func50, Tryd.ntmps50
    go_wp2_with (first | (go_at_call 34; refine (k34 _).mono ?_; rintro e w' ⟨rfl, rfl⟩))
    go_ret2
    exact ⟨rfl, rfl⟩
  | false =>
    simp only [if_false, Bool.false_eq_true]
    go_enter Tryd.func50, Tryd.ntmps50
    go_wp2_with (first | (go_at_call 34; refine (k34 _).mono ?_; rintro e w' ⟨rfl, rfl⟩))
    go_ret2
    exact ⟨rfl, rfl⟩

theorem c50 (a : Nat) (ha : a < 18446744073709551616) (w : World) :
    Calls Tryd.prog 50 #[.float .f64 a] w fun e w' => e = .returned (.tuple #[.int .u64 (mant a), .int .i64 (lp a)]) ∧ w' = w := by
  have hm := mag_lt a
  have hq : wrap64 ((mag a : Int) / 4503599627370496) = ((mag a / 4503599627370496 : Nat) : Int) := by unfold wrap64; omega
  have := c50x a (mag a) _ _ _ w (c34 a ha) hq (and_mant _ (by omega)) (or_mant (mag a % 4503599627370496) (by omega))
  by_cases h : mag a < 4503599627370496
  · have e1 : mant a = mag a % 4503599627370496 := by unfold mant; rw [if_pos h]; omega
    have e2 : lp a = -1074 := by unfold lp; omega
    have e3 : (((mag a / 4503599627370496 : Nat) : Int) == 0) = true := by simp; omega
    rw [e3] at this
    rw [e1, e2]
    exact this
  · have e1 : mant a = 4503599627370496 + mag a % 4503599627370496 := by unfold mant; rw [if_neg h]
    have e2 : wrap64 (((mag a / 4503599627370496 : Nat) : Int) - 1075) = lp a := by unfold lp wrap64; omega
    have e3 : (((mag a / 4503599627370496 : Nat) : Int) == 0) = false := int_beq_false (by omega)
    rw [e3, e2] at this
    rw [e1]
    exact this

theorem c46 (w : World) : Calls Tryd.prog 46 #[.int .i64 1] w fun e w' => e = .returned (.float .f64 9218868437227405312) ∧ w' = w := by
  have kf := run_frombits
  go_enter Tryd.func46, Tryd.ntmps46
  go_wp2
  go_ret
  exact ⟨rfl, rfl⟩
theorem c49f (w : World) : Calls Tryd.prog 49 #[.bool false] w fun e w' => e = .returned (.float .f64 9218868437227405312) ∧ w' = w := by
  go_enter Tryd.func49, Tryd.ntmps49
  go_wp2_with (first | (go_at_call 40; refine (c40 _ _).mono ?_; rintro e w' ⟨rfl, rfl⟩))
  go_ret
  exact ⟨rfl, rfl⟩
theorem c48 (a : Nat) (ha : a < 18446744073709551616) (w : World) :
    Calls Tryd.prog 48 #[.float .f64 a] w fun e w' => e = .returned (.bool ((mag a : Int) == 9218868437227405312)) ∧ w' = w := by
  have k34 := c34 a ha
  clear ha
  generalize (mag a : Int) = m at k34 ⊢
  go_enter Tryd.func48, Tryd.ntmps48
  go_wp2_with (first | (go_at_call 34; refine (k34 _).mono ?_; rintro e w' ⟨rfl, rfl⟩))
  go_ret
  exact ⟨rfl, rfl⟩

/-- The unit at the place E; the unit of a float. -/
def un (E : Int) : Nat := if -1022 ≤ E then ((E + 1023) * 4503599627370496).toNat else (IntKind.u64.wrap (2 ^ (E + 1074).toNat)).toNat
def unit (a : Nat) : Nat := if isNaN a then a else if mag a = 9218868437227405312 then 9218868437227405312 else un (lp a)

theorem un_tab : ∀ k : Nat, k < 2046 → mk false 1 ((k : Int) - 1074) 2 9221120237041090561 = un ((k : Int) - 1074) := by decide +kernel
theorem un_mk (E : Int) (h0 : -1074 ≤ E) (h1 : E ≤ 971) : mk false 1 E 2 9221120237041090561 = un E := by
  have := un_tab (E + 1074).toNat (by omega)
  rw [show (((E + 1074).toNat : Nat) : Int) - 1074 = E by omega] at this
  exact this
theorem lp_fin {a : Nat} (h : mag a < 9218868437227405312) : -1074 ≤ lp a ∧ lp a ≤ 971 := by
  unfold lp
  omega

theorem c21_3 (a : Nat) (x E : Int) (w : World)
    (k31 : ∀ w, Calls Tryd.prog 31 #[.float .f64 a] w fun e w' => e = .returned (.bool false) ∧ w' = w)
    (k48 : ∀ w, Calls Tryd.prog 48 #[.float .f64 a] w fun e w' => e = .returned (.bool false) ∧ w' = w)
    (k50 : ∀ w, Calls Tryd.prog 50 #[.float .f64 a] w fun e w' => e = .returned (.tuple #[.int .u64 x, .int .i64 E]) ∧ w' = w)
    (h0 : -1074 ≤ E) (h1 : E ≤ 971) :
    Calls Tryd.prog 21 #[.float .f64 a] w fun e w' => e = .returned (.float .f64 (un E)) ∧ w' = w := by
  unfold un
  by_cases h : -1022 ≤ E
  · rw [if_pos h]
    go_enter Tryd.func21, Tryd.ntmps21
    go_wp2_with (first | (go_at_call 31; refine (k31 _).mono ?_; rintro e w' ⟨rfl, rfl⟩) | (go_at_call 48; refine (k48 _).mono ?_; rintro e w' ⟨rfl, rfl⟩) | (go_at_call 50; refine (k50 _).mono ?_; rintro e w' ⟨rfl, rfl⟩) | (go_at_call 40; refine (c40 _ _).mono ?_; rintro e w' ⟨rfl, rfl⟩))
    go_ret
    exact ⟨rfl, rfl⟩
  · rw [if_neg h]
    go_enter Tryd.func21, Tryd.ntmps21
    go_wp2_with (first | (go_at_call 31; refine (k31 _).mono ?_; rintro e w' ⟨rfl, rfl⟩) | (go_at_call 48; refine (k48 _).mono ?_; rintro e w' ⟨rfl, rfl⟩) | (go_at_call 50; refine (k50 _).mono ?_; rintro e w' ⟨rfl, rfl⟩) | (go_at_call 40; refine (c40 _ _).mono ?_; rintro e w' ⟨rfl, rfl⟩))
    go_ret
    exact ⟨rfl, rfl⟩

theorem c21_1 (a : Nat) (w : World)
    (k31 : ∀ w, Calls Tryd.prog 31 #[.float .f64 a] w fun e w' => e = .returned (.bool true) ∧ w' = w) :
    Calls Tryd.prog 21 #[.float .f64 a] w fun e w' => e = .returned (.float .f64 a) ∧ w' = w := by
  go_enter Tryd.func21, Tryd.ntmps21
  go_wp2_with (first | (go_at_call 31; refine (k31 _).mono ?_; rintro e w' ⟨rfl, rfl⟩))
  go_ret
  exact ⟨rfl, rfl⟩
theorem c21_2 (a : Nat) (w : World)
    (k31 : ∀ w, Calls Tryd.prog 31 #[.float .f64 a] w fun e w' => e = .returned (.bool false) ∧ w' = w)
    (k48 : ∀ w, Calls Tryd.prog 48 #[.float .f64 a] w fun e w' => e = .returned (.bool true) ∧ w' = w) :
    Calls Tryd.prog 21 #[.float .f64 a] w fun e w' => e = .returned (.float .f64 9218868437227405312) ∧ w' = w := by
  go_enter Tryd.func21, Tryd.ntmps21
  go_wp2_with (first | (go_at_call 31; refine (k31 _).mono ?_; rintro e w' ⟨rfl, rfl⟩) | (go_at_call 48; refine (k48 _).mono ?_; rintro e w' ⟨rfl, rfl⟩) | (go_at_call 49; refine (c49f _).mono ?_; rintro e w' ⟨rfl, rfl⟩))
  go_ret
  exact ⟨rfl, rfl⟩

theorem c21 (a : Nat) (ha : a < 18446744073709551616) (w : World) :
    Calls Tryd.prog 21 #[.float .f64 a] w fun e w' => e = .returned (.float .f64 (unit a)) ∧ w' = w := by
  have k31 := c31 a ha
  have k48 := c48 a ha
  have k50 := c50 a ha
  unfold unit
  cases hn : isNaN a with
  | true =>
    rw [hn] at k31
    rw [if_pos rfl]
    exact c21_1 a w k31
  | false =>
    rw [hn] at k31
    have hn' : ¬ 9218868437227405312 < mag a := of_decide_eq_false hn
    rw [if_neg (by decide)]
    by_cases h : mag a = 9218868437227405312
    · rw [if_pos h]
      have e : ((mag a : Int) == 9218868437227405312) = true := by simp; omega
      rw [e] at k48
      exact c21_2 a w k31 k48
    · rw [if_neg h]
      have e : ((mag a : Int) == 9218868437227405312) = false := int_beq_false (by omega)
      rw [e] at k48
      have hl := lp_fin (a := a) (by omega)
      exact c21_3 a _ _ w k31 k48 k50 hl.1 hl.2

theorem c20_1 (a : Nat) (s : Bool) (w : World)
    (k9 : ∀ w, Calls Tryd.prog 9 #[.float .f64 a] w fun e w' => e = .returned (.tuple #[.int .i64 1, .bool s]) ∧ w' = w) :
    Calls Tryd.prog 20 #[.float .f64 a] w fun e w' => e = .returned (.float .f64 a) ∧ w' = w := by
  go_enter Tryd.func20, Tryd.ntmps20
  go_wp2_with (first | (go_at_call 9; refine (k9 _).mono ?_; rintro e w' ⟨rfl, rfl⟩))
  go_ret
  exact ⟨rfl, rfl⟩
theorem c20_2 (a : Nat) (s : Bool) (w : World)
    (k9 : ∀ w, Calls Tryd.prog 9 #[.float .f64 a] w fun e w' => e = .returned (.tuple #[.int .i64 2, .bool s]) ∧ w' = w) :
    Calls Tryd.prog 20 #[.float .f64 a] w fun e w' => e = .returned (.float .f64 9218868437227405312) ∧ w' = w := by
  go_enter Tryd.func20, Tryd.ntmps20
  go_wp2_with (first | (go_at_call 9; refine (k9 _).mono ?_; rintro e w' ⟨rfl, rfl⟩) | (go_at_call 46; refine (c46 _).mono ?_; rintro e w' ⟨rfl, rfl⟩))
  go_ret
  exact ⟨rfl, rfl⟩
theorem c20_3 (a : Nat) (c E : Int) (s : Bool) (r : Nat) (w : World)
    (k9 : ∀ w, Calls Tryd.prog 9 #[.float .f64 a] w fun e w' => e = .returned (.tuple #[.int .i64 c, .bool s]) ∧ w' = w)
    (h1 : (c == 1) = false) (h2 : (c == 2) = false)
    (k47 : ∀ w, Calls Tryd.prog 47 #[.float .f64 a] w fun e w' => e = .returned (.int .i64 E) ∧ w' = w)
    (k24 : ∀ w, Calls Tryd.prog 24 #[.bool false, .int .u64 1, .int .i64 E, .int .i64 2] w fun e w' => e = .returned (.float .f64 r) ∧ w' = w) :
    Calls Tryd.prog 20 #[.float .f64 a] w fun e w' => e = .returned (.float .f64 r) ∧ w' = w := by
  go_enter Tryd.func20, Tryd.ntmps20
  go_wp2_with (first | (go_at_call 9; refine (k9 _).mono ?_; rintro e w' ⟨rfl, rfl⟩) | (go_at_call 47; refine (k47 _).mono ?_; rintro e w' ⟨rfl, rfl⟩) | (go_at_call 24; refine (k24 _).mono ?_; rintro e w' ⟨rfl, rfl⟩))
  go_ret
  exact ⟨rfl, rfl⟩

theorem c20 (a : Nat) (ha : a < 18446744073709551616) (w : World) :
    Calls Tryd.prog 20 #[.float .f64 a] w fun e w' => e = .returned (.float .f64 (unit a)) ∧ w' = w := by
  have k9 := c9 a ha
  have k47 := c47 a ha
  unfold unit
  cases hn : isNaN a with
  | true =>
    rw [if_pos rfl]
    rw [(cls1 (of_decide_eq_true hn)).1] at k9
    exact c20_1 a _ w k9
  | false =>
    have hn' : ¬ 9218868437227405312 < mag a := of_decide_eq_false hn
    rw [if_neg (by decide)]
    by_cases h : mag a = 9218868437227405312
    · rw [if_pos h]
      rw [(cls2 h).1] at k9
      exact c20_2 a _ w k9
    · rw [if_neg h]
      have hl := lp_fin (a := a) (by omega)
      have k24 := fun w => c24 false 1 (lp a) 2 (by decide) w
      rw [un_mk _ hl.1 hl.2] at k24
      have hc : cls a = 3 ∨ cls a = 4 ∨ cls a = 5 := by
        by_cases h2 : mag a = 0
        · exact .inl (cls3 h2).1
        · by_cases h3 : mag a < 4503599627370496
          · exact .inr (.inl (cls4 h2 h3).1)
          · exact .inr (.inr (cls5 (a := a) (by omega) (by omega)).1)
      exact c20_3 a (cls a) _ _ _ w k9 (int_beq_false (by omega)) (int_beq_false (by omega)) k47 k24

theorem pv_lt (a : Nat) (h : a < 18446744073709551616) : pv a < 18446744073709551616 := trn_lt _ (nx_lt _ (trn_lt a h))
theorem unit_lt (a : Nat) (h : a < 18446744073709551616) : unit a < 18446744073709551616 := by
  unfold unit
  cases hn : isNaN a with
  | true => rw [if_pos rfl]; exact h
  | false =>
    rw [if_neg (by decide)]
    have hn' : ¬ 9218868437227405312 < mag a := of_decide_eq_false hn
    by_cases h2 : mag a = 9218868437227405312
    · rw [if_pos h2]; decide
    · rw [if_neg h2]
      have hl := lp_fin (a := a) (by omega)
      unfold un
      split
      · omega
      · have := Int.emod_lt_of_pos (2 ^ (lp a + 1074).toNat) (show (0 : Int) < 18446744073709551616 by decide)
        rw [IntKind.wrap_u64]
        omega

theorem law4 (a : Nat) (ha : a < 18446744073709551616) (w : World) (hT : Tab w) :
    Calls Tryd.prog 4 #[.float .f64 a] w fun e w' => e = .returned (.bool true) ∧ ∃ n, w' = w.drewN n := by
  have KT : Hid (Tab w) := hT
  have k16 := c16 a ha
  have k17 := c17 a ha
  have k18 := c18 a ha
  have k19 := c19 a ha
  have k20 := c20 a ha
  have k21 := c21 a ha
  have s1 := c12 (nx a) (nx a) (nx_lt a ha) (nx_lt a ha)
  have s2 := c12 (pv a) (pv a) (pv_lt a ha) (pv_lt a ha)
  have s3 := c12 (unit a) (unit a) (unit_lt a ha) (unit_lt a ha)
  rw [same_self] at s1 s2 s3
  clear hT ha
  generalize nx a = x at k16 k17 s1 ⊢
  generalize pv a = y at k18 k19 s2 ⊢
  generalize unit a = z at k20 k21 s3 ⊢
  go_enter Tryd.func4, Tryd.ntmps4
  go_wp2_with (first | (go_at_call 16; refine (k16 _).mono ?_; rintro e w' ⟨rfl, rfl⟩) | (go_at_call 17; refine (k17 _).mono ?_; rintro e w' ⟨rfl, rfl⟩) | (go_at_call 18; refine (k18 _).mono ?_; rintro e w' ⟨rfl, rfl⟩) | (go_at_call 19; refine (k19 _).mono ?_; rintro e w' ⟨rfl, rfl⟩) | (go_at_call 20; refine (k20 _).mono ?_; rintro e w' ⟨rfl, rfl⟩) | (go_at_call 21; refine (k21 _).mono ?_; rintro e w' ⟨rfl, rfl⟩) | (go_at_call 12; refine (s1 _).mono ?_; rintro e w' ⟨rfl, rfl⟩) | (go_at_call 12; refine (s2 _).mono ?_; rintro e w' ⟨rfl, rfl⟩) | (go_at_call 12; refine (s3 _).mono ?_; rintro e w' ⟨rfl, rfl⟩) | (go_at_call 15; refine (c15 _ KT.out).mono ?_; rintro e w' ⟨rfl, n, rfl⟩))
  go_ret
  exact ⟨rfl, _, rfl⟩

end Go.Proofs.YtacaidobfildoaaDoor
