/- What the program's lastPlace and Split answer. -/
import Derived.Test.YtacaidobfildoaaDoorW3
import Derived.Deep.QuietTactic
import Derived.BigQuiet
namespace Go.Proofs.YtacaidobfildoaaDoor
set_option linter.unusedVariables false
set_option linter.unusedSimpArgs false
open Go.RowKit Go.Fl64

/-- The place of the last bit. -/
def lp (a : Nat) : Int := -1075 + max 1 ((mag a / 4503599627370496 : Nat) : Int)
/-- The mantissa, as it is laid. -/
def mant (a : Nat) : Nat := if mag a < 4503599627370496 then mag a else 4503599627370496 + mag a % 4503599627370496

theorem c47 (a : Nat) (ha : a < 18446744073709551616) (w : World) :
    Calls Tryd.prog 47 #[.float .f64 a] w fun e w' => e = .returned (.int .i64 (lp a)) ∧ w' = w := by
  have k32 := c32 a ha
  have e : Hid (wrap64 (-1075 + max 1 (wrap64 ((mag a : Int) / 4503599627370496))) = lp a) := by
    have := mag_lt a
    show wrap64 (-1075 + max 1 (wrap64 ((mag a : Int) / 4503599627370496))) = lp a
    unfold lp wrap64
    omega
  clear ha
  generalize (mag a : Int) = m at k32 e ⊢
  generalize lp a = r at e ⊢
  go_enter Tryd.func47, Tryd.ntmps47
  go_wp2_with (first | (go_at_call 32; refine (k32 _).mono ?_; rintro e w' ⟨rfl, rfl⟩))
  all_goals go_ret
  · refine ⟨?_, rfl⟩
    show Ending.returned (.int .i64 (wrap64 (-1075 + wrap64 (m / 4503599627370496)))) = _
    rw [← e.out, Int.max_eq_right (Int.le_of_lt (by assumption))]
  · refine ⟨?_, rfl⟩
    show Ending.returned (.int .i64 (wrap64 (-1074))) = _
    rw [← e.out, Int.max_eq_left (by assumption)]
    rfl

theorem results_tmp4 {fn : Func} {t u v x : Tmp} (h : fn.results = #[.tmp t, .tmp u, .tmp v, .tmp x]) (tmps : Array Value) (P : Program) (w : World) :
    (results fn tmps).run P w = .ok (.tuple #[tmps.getD t undef, tmps.getD u undef, tmps.getD v undef, tmps.getD x undef]) w := by
  simp [results, h]

theorem tab_drewN {w : World} (h : Tab w) (n : Nat) : Tab (w.drewN n) := h

theorem cls1 {a : Nat} (h : 9218868437227405312 < mag a) : cls a = 1 ∧ cneg a = false := by
  unfold cls cneg
  rw [if_pos (by omega), if_pos (by omega)]
  exact ⟨rfl, rfl⟩
theorem cls2 {a : Nat} (h : mag a = 9218868437227405312) : cls a = 2 ∧ cneg a = neg a := by
  unfold cls cneg
  rw [h]
  exact ⟨rfl, rfl⟩
theorem cls3 {a : Nat} (h : mag a = 0) : cls a = 3 ∧ cneg a = neg a := by
  unfold cls cneg
  rw [h]
  exact ⟨rfl, rfl⟩
theorem int_beq_false {x y : Int} (h : x ≠ y) : (x == y) = false := by simpa using h
theorem cls4 {a : Nat} (h0 : mag a ≠ 0) (h : mag a < 4503599627370496) : cls a = 4 ∧ cneg a = neg a := by
  have e1 : ¬ (9218868437227405312 : Int) < (mag a : Int) := by omega
  have e2 : ((mag a : Int) == 9218868437227405312) = false := int_beq_false (by omega)
  have e3 : ((mag a : Int) == 0) = false := int_beq_false (by omega)
  have e4 : (mag a : Int) < 4503599627370496 := by omega
  refine ⟨?_, if_neg e1⟩
  simp only [cls, e1, e2, e3, e4, if_true, if_false, Bool.false_eq_true]
theorem cls5 {a : Nat} (h : 4503599627370496 ≤ mag a) (h1 : mag a < 9218868437227405312) : cls a = 5 ∧ cneg a = neg a := by
  have e1 : ¬ (9218868437227405312 : Int) < (mag a : Int) := by omega
  have e2 : ((mag a : Int) == 9218868437227405312) = false := int_beq_false (by omega)
  have e3 : ((mag a : Int) == 0) = false := int_beq_false (by omega)
  have e4 : ¬ (mag a : Int) < 4503599627370496 := by omega
  refine ⟨?_, if_neg e1⟩
  simp only [cls, e1, e2, e3, e4, if_false, Bool.false_eq_true]

/-- What Split answers: the odd mantissa, its place, the sign, whether the float is finite. -/
def sM (a : Nat) : Int := if 9218868437227405312 ≤ mag a then 0 else if mag a = 0 then 0 else (mant a : Int) / 2 ^ Lib.ctz 64 (mant a)
def sE (a : Nat) : Int := if 9218868437227405312 ≤ mag a then 0 else if mag a = 0 then 0 else lp a + (Lib.ctz 64 (mant a) : Int)
def sN (a : Nat) : Bool := if 9218868437227405312 ≤ mag a then false else neg a
def sO (a : Nat) : Bool := if 9218868437227405312 ≤ mag a then false else true

theorem c22_12 (a : Nat) (w : World) (s : Bool) (M c : Int) (hc : c = 1 ∨ c = 2)
    (k9 : ∀ w, Calls Tryd.prog 9 #[.float .f64 a] w fun e w' => e = .returned (.tuple #[.int .i64 c, .bool s]) ∧ w' = w)
    (k32 : ∀ w, Calls Tryd.prog 32 #[.float .f64 a] w fun e w' => e = .returned (.int .u64 M) ∧ w' = w) :
    Calls Tryd.prog 22 #[.float .f64 a] w fun e w' => e = .returned (.tuple #[.int .u64 0, .int .i64 0, .bool false, .bool false]) ∧ w' = w := by
  rcases hc with rfl | rfl
  · go_enter Tryd.func22, Tryd.ntmps22
    go_wp2_with (first | (go_at_call 9; refine (k9 _).mono ?_; rintro e w' ⟨rfl, rfl⟩) | (go_at_call 32; refine (k32 _).mono ?_; rintro e w' ⟨rfl, rfl⟩))
    refine bodyPost_ret (results_tmp4 rfl _ _ _) rfl ?_
    exact ⟨rfl, rfl⟩
  · go_enter Tryd.func22, Tryd.ntmps22
    go_wp2_with (first | (go_at_call 9; refine (k9 _).mono ?_; rintro e w' ⟨rfl, rfl⟩) | (go_at_call 32; refine (k32 _).mono ?_; rintro e w' ⟨rfl, rfl⟩))
    refine bodyPost_ret (results_tmp4 rfl _ _ _) rfl ?_
    exact ⟨rfl, rfl⟩

theorem c22_3 (a : Nat) (w : World) (s : Bool) (M : Int)
    (k9 : ∀ w, Calls Tryd.prog 9 #[.float .f64 a] w fun e w' => e = .returned (.tuple #[.int .i64 3, .bool s]) ∧ w' = w)
    (k32 : ∀ w, Calls Tryd.prog 32 #[.float .f64 a] w fun e w' => e = .returned (.int .u64 M) ∧ w' = w) :
    Calls Tryd.prog 22 #[.float .f64 a] w fun e w' => e = .returned (.tuple #[.int .u64 0, .int .i64 0, .bool s, .bool true]) ∧ w' = w := by
  go_enter Tryd.func22, Tryd.ntmps22
  go_wp2_with (first | (go_at_call 9; refine (k9 _).mono ?_; rintro e w' ⟨rfl, rfl⟩) | (go_at_call 32; refine (k32 _).mono ?_; rintro e w' ⟨rfl, rfl⟩))
  refine bodyPost_ret (results_tmp4 rfl _ _ _) rfl ?_
  exact ⟨rfl, rfl⟩

theorem c22_4 (a : Nat) (w : World) (s : Bool) (x : Nat) (T L M : Int)
    (k9 : ∀ w, Calls Tryd.prog 9 #[.float .f64 a] w fun e w' => e = .returned (.tuple #[.int .i64 4, .bool s]) ∧ w' = w)
    (k32 : ∀ w, Calls Tryd.prog 32 #[.float .f64 a] w fun e w' => e = .returned (.int .u64 M) ∧ w' = w)
    (k47 : ∀ w, Calls Tryd.prog 47 #[.float .f64 a] w fun e w' => e = .returned (.int .i64 L) ∧ w' = w)
    (k51 : ∀ w, Tab w → Calls Tryd.prog 51 #[.int .u64 x] w fun e w' => e = .returned (.int .i64 T) ∧ w' = w)
    (hand : bits .and .u64 M 4503599627370495 = (x : Int)) (hT0 : 0 ≤ T) (hT1 : T < 64) (hT : Tab w) :
    Calls Tryd.prog 22 #[.float .f64 a] w fun e w' => e = .returned (.tuple #[.int .u64 ((x : Int) / 2 ^ T.toNat), .int .i64 (wrap64 (L + T)), .bool s, .bool true]) ∧ ∃ n, w' = w.drewN n := by
  have KT : Hid (Tab w) := hT
  clear hT
  go_enter Tryd.func22, Tryd.ntmps22
  go_wp2_with (first | (go_at_call 9; refine (k9 _).mono ?_; rintro e w' ⟨rfl, rfl⟩) | (go_at_call 32; refine (k32 _).mono ?_; rintro e w' ⟨rfl, rfl⟩) | (go_at_call 51; refine (k51 _ KT.out).mono ?_; rintro e w' ⟨rfl, rfl⟩))
  go_quiet (first | (go_at_call 47; refine Calls.quiet_of_same (k47 _)))
  go_wp2
  refine bodyPost_ret (results_tmp4 rfl _ _ _) rfl ?_
  exact ⟨rfl, _, rfl⟩

theorem c22_5 (a : Nat) (w : World) (s : Bool) (x : Nat) (T L M m : Int)
    (k9 : ∀ w, Calls Tryd.prog 9 #[.float .f64 a] w fun e w' => e = .returned (.tuple #[.int .i64 5, .bool s]) ∧ w' = w)
    (k32 : ∀ w, Calls Tryd.prog 32 #[.float .f64 a] w fun e w' => e = .returned (.int .u64 M) ∧ w' = w)
    (k47 : ∀ w, Calls Tryd.prog 47 #[.float .f64 a] w fun e w' => e = .returned (.int .i64 L) ∧ w' = w)
    (k51 : ∀ w, Tab w → Calls Tryd.prog 51 #[.int .u64 x] w fun e w' => e = .returned (.int .i64 T) ∧ w' = w)
    (hand : bits .and .u64 M 4503599627370495 = m) (hor : bits .or .u64 m 4503599627370496 = (x : Int)) (hT0 : 0 ≤ T) (hT1 : T < 64) (hT : Tab w) :
    Calls Tryd.prog 22 #[.float .f64 a] w fun e w' => e = .returned (.tuple #[.int .u64 ((x : Int) / 2 ^ T.toNat), .int .i64 (wrap64 (L + T)), .bool s, .bool true]) ∧ ∃ n, w' = w.drewN n := by
  have KT : Hid (Tab w) := hT
  clear hT
  go_enter Tryd.func22, Tryd.ntmps22
  go_wp2_with (first | (go_at_call 9; refine (k9 _).mono ?_; rintro e w' ⟨rfl, rfl⟩) | (go_at_call 32; refine (k32 _).mono ?_; rintro e w' ⟨rfl, rfl⟩) | (go_at_call 51; refine (k51 _ KT.out).mono ?_; rintro e w' ⟨rfl, rfl⟩))
  go_quiet (first | (go_at_call 47; refine Calls.quiet_of_same (k47 _)))
  go_wp2
  refine bodyPost_ret (results_tmp4 rfl _ _ _) rfl ?_
  exact ⟨rfl, _, rfl⟩

theorem and_mant (x : Nat) (h : x < 18446744073709551616) : bits .and .u64 (x : Int) 4503599627370495 = ((x % 4503599627370496 : Nat) : Int) := by
  have e := u64_and_nat x 4503599627370495 h (by decide)
  rw [show ((4503599627370495 : Nat) : Int) = 4503599627370495 from rfl] at e
  rw [e]
  congr 1
  have := Nat.and_two_pow_sub_one_eq_mod x 52
  simpa using this
theorem or_mant (x : Nat) (h : x < 4503599627370496) : bits .or .u64 (x : Int) 4503599627370496 = ((4503599627370496 + x : Nat) : Int) := by
  have e := u64_or_nat x 4503599627370496 (by omega) (by decide)
  rw [show ((4503599627370496 : Nat) : Int) = 4503599627370496 from rfl] at e
  rw [e]
  congr 1
  have := Nat.two_pow_add_eq_or_of_lt (i := 52) h 1
  rw [Nat.or_comm, ← (show 2 ^ 52 * 1 = 4503599627370496 from rfl), ← this]

theorem mant_bound (a : Nat) : mant a < 9007199254740992 := by
  unfold mant
  split <;> omega
theorem mant_ne {a : Nat} (h : mag a ≠ 0) : mant a ≠ 0 := by
  unfold mant
  split <;> omega
theorem lp_bound (a : Nat) : -1074 ≤ lp a ∧ lp a ≤ 972 := by
  have := mag_lt a
  unfold lp
  omega

theorem c22 (a : Nat) (ha : a < 18446744073709551616) (w : World) (hT : Tab w) :
    Calls Tryd.prog 22 #[.float .f64 a] w fun e w' => e = .returned (.tuple #[.int .u64 (sM a), .int .i64 (sE a), .bool (sN a), .bool (sO a)]) ∧ ∃ n, w' = w.drewN n := by
  have k9 := c9 a ha
  have k32 := c32 a ha
  have k47 := c47 a ha
  by_cases h1 : 9218868437227405312 ≤ mag a
  · unfold sM sE sN sO
    rw [if_pos h1, if_pos h1, if_pos h1, if_pos h1]
    by_cases h2 : mag a = 9218868437227405312
    · rw [(cls2 h2).1] at k9
      exact (c22_12 a w _ _ 2 (.inr rfl) k9 k32).mono fun e w' h => ⟨h.1, 0, h.2⟩
    · rw [(cls1 (a := a) (by omega)).1] at k9
      exact (c22_12 a w _ _ 1 (.inl rfl) k9 k32).mono fun e w' h => ⟨h.1, 0, h.2⟩
  · unfold sM sE sN sO
    rw [if_neg h1, if_neg h1, if_neg h1, if_neg h1]
    by_cases h2 : mag a = 0
    · rw [if_pos h2, if_pos h2]
      rw [(cls3 h2).1, (cls3 h2).2] at k9
      exact (c22_3 a w _ _ k9 k32).mono fun e w' h => ⟨h.1, 0, h.2⟩
    · rw [if_neg h2, if_neg h2]
      have hm := mant_ne h2
      have hb := mant_bound a
      have hl := lp_bound a
      obtain ⟨_, hk⟩ := Lib.lowest_bit 64 (mant a) hm (by omega)
      have k51 := fun w hT => c51 (mant a) (by omega) hm w hT
      have ew : wrap64 (lp a + (Lib.ctz 64 (mant a) : Int)) = lp a + (Lib.ctz 64 (mant a) : Int) := by unfold wrap64; omega
      by_cases h3 : mag a < 4503599627370496
      · rw [(cls4 h2 h3).1, (cls4 h2 h3).2] at k9
        have e : mant a = mag a := if_pos h3
        have := c22_4 a w _ (mant a) (Lib.ctz 64 (mant a)) (lp a) (mag a) k9 k32 k47 k51 (by rw [and_mant _ (by omega), e]; omega) (by omega) (by omega) hT
        rw [ew, Int.toNat_natCast] at this
        exact this
      · rw [(cls5 (a := a) (by omega) (by omega)).1, (cls5 (a := a) (by omega) (by omega)).2] at k9
        have e : mant a = 4503599627370496 + mag a % 4503599627370496 := if_neg h3
        have := c22_5 a w _ (mant a) (Lib.ctz 64 (mant a)) (lp a) (mag a) _ k9 k32 k47 k51 (and_mant _ (by omega)) (by rw [or_mant _ (by omega), e]) (by omega) (by omega) hT
        rw [ew, Int.toNat_natCast] at this
        exact this

end Go.Proofs.YtacaidobfildoaaDoor
