/- What the document's Pack and Make answer. -/
import Derived.Test.YtacaidobfildoaaDoorW12
namespace Go.Proofs.YtacaidobfildoaaDoor
set_option linter.unusedVariables false
set_option linter.unusedSimpArgs false
open Go.RowKit Go.Fl64

theorem c59 (neg : Bool) (how : Int) (hh : how = 1 ∨ how = 2 ∨ how = 3) (w : World) :
    Calls Tryd.prog 59 #[.bool neg, .int .i64 how] w fun e w' => e = .returned (.int .i64 (wy neg how + 1)) ∧ w' = w := by
  rcases hh with rfl | rfl | rfl <;> cases neg
  · have e : wy false 1 + 1 = 1 := by decide
    rw [e]
    clear e
    go_enter Tryd.func59, Tryd.ntmps59
    go_wp2
    go_ret
    exact ⟨rfl, rfl⟩
  · have e : wy true 1 + 1 = 3 := by decide
    rw [e]
    clear e
    go_enter Tryd.func59, Tryd.ntmps59
    go_wp2
    go_ret
    exact ⟨rfl, rfl⟩
  · have e : wy false 2 + 1 = 2 := by decide
    rw [e]
    clear e
    go_enter Tryd.func59, Tryd.ntmps59
    go_wp2
    go_ret
    exact ⟨rfl, rfl⟩
  · have e : wy true 2 + 1 = 2 := by decide
    rw [e]
    clear e
    go_enter Tryd.func59, Tryd.ntmps59
    go_wp2
    go_ret
    exact ⟨rfl, rfl⟩
  · have e : wy false 3 + 1 = 3 := by decide
    rw [e]
    clear e
    go_enter Tryd.func59, Tryd.ntmps59
    go_wp2
    go_ret
    exact ⟨rfl, rfl⟩
  · have e : wy true 3 + 1 = 1 := by decide
    rw [e]
    clear e
    go_enter Tryd.func59, Tryd.ntmps59
    go_wp2
    go_ret
    exact ⟨rfl, rfl⟩

/-- A float as it comes, or turned. -/
def gs (neg : Bool) (r : Nat) : Nat := if neg then (bits .xor .u64 (r : Int) 9223372036854775808).toNat else r

theorem gs_sig (neg : Bool) (r : Nat) (h : r < 9223372036854775808) : gs neg r = sig neg r := by
  unfold gs sig
  cases neg with
  | false => rfl
  | true =>
    rw [if_pos rfl, if_pos rfl, xor_bits r (by omega), Int.toNat_natCast]
    unfold trn
    rw [if_neg]
    intro hn
    have := of_decide_eq_true hn
    omega

theorem c45' (a : Nat) (w : World) :
    Calls Tryd.prog 45 #[.float .f64 a] w fun e w' => e = .returned (.float .f64 (bits .xor .u64 (a : Int) 9223372036854775808).toNat) ∧ w' = w := by
  go_enter Tryd.func45, Tryd.ntmps45
  go_wp2_with (first | (go_at_call 41; refine (c41 _ _).mono ?_; rintro e w' ⟨rfl, rfl⟩) | (go_at_call 40; refine (c40 _ _).mono ?_; rintro e w' ⟨rfl, rfl⟩))
  go_ret
  exact ⟨rfl, rfl⟩

theorem c60 (neg : Bool) (r : Nat) (w : World) :
    Calls Tryd.prog 60 #[.bool neg, .float .f64 r] w fun e w' => e = .returned (.float .f64 (gs neg r)) ∧ w' = w := by
  unfold gs
  cases neg with
  | true =>
    simp only [if_true]
    go_enter Tryd.func60, Tryd.ntmps60
    go_wp2_with (first | (go_at_call 45; refine (c45' _ _).mono ?_; rintro e w' ⟨rfl, rfl⟩))
    go_ret
    exact ⟨rfl, rfl⟩
  | false =>
    simp only [if_false, Bool.false_eq_true]
    go_enter Tryd.func60, Tryd.ntmps60
    go_wp2_with (first | (go_at_call 45; refine (c45' _ _).mono ?_; rintro e w' ⟨rfl, rfl⟩))
    go_ret
    exact ⟨rfl, rfl⟩

theorem c49t (w : World) : Calls Tryd.prog 49 #[.bool true] w fun e w' => e = .returned (.float .f64 18442240474082181120) ∧ w' = w := by
  go_enter Tryd.func49, Tryd.ntmps49
  go_wp2_with (first | (go_at_call 40; refine (c40 _ _).mono ?_; rintro e w' ⟨rfl, rfl⟩))
  go_ret
  exact ⟨rfl, rfl⟩
theorem c49g (w : World) : Calls Tryd.prog 49 #[.bool false] w fun e w' => e = .returned (.float .f64 9218868437227405312) ∧ w' = w := by
  go_enter Tryd.func49, Tryd.ntmps49
  go_wp2_with (first | (go_at_call 40; refine (c40 _ _).mono ?_; rintro e w' ⟨rfl, rfl⟩))
  go_ret
  exact ⟨rfl, rfl⟩

/-- Beyond the greatest one. -/
def ovr (neg : Bool) (h : Int) : Nat := sig neg (if h = 1 then 9218868437227405311 else 9218868437227405312)

theorem c61 (neg : Bool) (h : Int) (hh : h = 1 ∨ h = 2 ∨ h = 3) (w : World) :
    Calls Tryd.prog 61 #[.bool neg, .int .i64 h] w fun e w' => e = .returned (.float .f64 (ovr neg h)) ∧ w' = w := by
  have k60 := c60 neg 9218868437227405311
  rw [gs_sig neg _ (by decide)] at k60
  rcases hh with rfl | rfl | rfl
  · have e : ovr neg 1 = sig neg 9218868437227405311 := rfl
    rw [e]
    clear e
    generalize sig neg 9218868437227405311 = v at k60 ⊢
    go_enter Tryd.func61, Tryd.ntmps61
    go_wp2_with (first | (go_at_call 40; refine (c40 _ _).mono ?_; rintro e w' ⟨rfl, rfl⟩) | (go_at_call 60; refine (k60 _).mono ?_; rintro e w' ⟨rfl, rfl⟩))
    go_ret
    exact ⟨rfl, rfl⟩
  · cases neg with
    | true =>
      have e : ovr true 2 = 18442240474082181120 := by decide
      rw [e]
      clear e
      go_enter Tryd.func61, Tryd.ntmps61
      go_wp2_with (first | (go_at_call 49; refine (c49t _).mono ?_; rintro e w' ⟨rfl, rfl⟩))
      go_ret
      exact ⟨rfl, rfl⟩
    | false =>
      have e : ovr false 2 = 9218868437227405312 := by decide
      rw [e]
      clear e
      go_enter Tryd.func61, Tryd.ntmps61
      go_wp2_with (first | (go_at_call 49; refine (c49g _).mono ?_; rintro e w' ⟨rfl, rfl⟩))
      go_ret
      exact ⟨rfl, rfl⟩
  · cases neg with
    | true =>
      have e : ovr true 3 = 18442240474082181120 := by decide
      rw [e]
      clear e
      go_enter Tryd.func61, Tryd.ntmps61
      go_wp2_with (first | (go_at_call 49; refine (c49t _).mono ?_; rintro e w' ⟨rfl, rfl⟩))
      go_ret
      exact ⟨rfl, rfl⟩
    | false =>
      have e : ovr false 3 = 9218868437227405312 := by decide
      rw [e]
      clear e
      go_enter Tryd.func61, Tryd.ntmps61
      go_wp2_with (first | (go_at_call 49; refine (c49g _).mono ?_; rintro e w' ⟨rfl, rfl⟩))
      go_ret
      exact ⟨rfl, rfl⟩

theorem c43 (neg : Bool) (w : World) : Calls Tryd.prog 43 #[.bool neg] w fun e w' => e = .returned (.float .f64 (sig neg 0)) ∧ w' = w := by
  cases neg with
  | true => exact c43t w
  | false => exact c43f w

theorem c55_0 (neg : Bool) (e how h : Int) (w : World)
    (k59 : ∀ w, Calls Tryd.prog 59 #[.bool neg, .int .i64 how] w fun e w' => e = .returned (.int .i64 h) ∧ w' = w) :
    Calls Tryd.prog 55 #[.bool neg, .int .u64 0, .int .i64 e, .bool false, .int .i64 how] w fun e w' => e = .returned (.float .f64 (sig neg 0)) ∧ w' = w := by
  go_enter Tryd.func55, Tryd.ntmps55
  go_wp2_with (first | (go_at_call 59; refine (k59 _).mono ?_; rintro e w' ⟨rfl, rfl⟩) | (go_at_call 43; refine (c43 _ _).mono ?_; rintro e w' ⟨rfl, rfl⟩))
  go_ret
  exact ⟨rfl, rfl⟩

theorem c55_hi (neg : Bool) (m e how h : Int) (V : Nat) (w : World) (hm : (m == 0) = false) (he : 20000 < e)
    (k59 : ∀ w, Calls Tryd.prog 59 #[.bool neg, .int .i64 how] w fun e w' => e = .returned (.int .i64 h) ∧ w' = w)
    (k61 : ∀ w, Calls Tryd.prog 61 #[.bool neg, .int .i64 h] w fun e w' => e = .returned (.float .f64 V) ∧ w' = w) :
    Calls Tryd.prog 55 #[.bool neg, .int .u64 m, .int .i64 e, .bool false, .int .i64 how] w fun e w' => e = .returned (.float .f64 V) ∧ w' = w := by
  go_enter Tryd.func55, Tryd.ntmps55
  go_wp2_with (first | (go_at_call 59; refine (k59 _).mono ?_; rintro e w' ⟨rfl, rfl⟩) | (go_at_call 61; refine (k61 _).mono ?_; rintro e w' ⟨rfl, rfl⟩))
  go_ret
  exact ⟨rfl, rfl⟩

theorem c55_lo1 (neg : Bool) (m e how h : Int) (w : World) (hm : (m == 0) = false) (he : e < -20000) (hh : (h == 3) = false)
    (k59 : ∀ w, Calls Tryd.prog 59 #[.bool neg, .int .i64 how] w fun e w' => e = .returned (.int .i64 h) ∧ w' = w) :
    Calls Tryd.prog 55 #[.bool neg, .int .u64 m, .int .i64 e, .bool false, .int .i64 how] w fun e w' => e = .returned (.float .f64 (gs neg 0)) ∧ w' = w := by
  go_enter Tryd.func55, Tryd.ntmps55
  go_wp2_with (first | (go_at_call 59; refine (k59 _).mono ?_; rintro e w' ⟨rfl, rfl⟩) | (go_at_call 40; refine (c40 _ _).mono ?_; rintro e w' ⟨rfl, rfl⟩) | (go_at_call 60; refine (c60 _ _ _).mono ?_; rintro e w' ⟨rfl, rfl⟩))
  go_ret
  exact ⟨rfl, rfl⟩
theorem c55_lo3 (neg : Bool) (m e how : Int) (w : World) (hm : (m == 0) = false) (he : e < -20000)
    (k59 : ∀ w, Calls Tryd.prog 59 #[.bool neg, .int .i64 how] w fun e w' => e = .returned (.int .i64 3) ∧ w' = w) :
    Calls Tryd.prog 55 #[.bool neg, .int .u64 m, .int .i64 e, .bool false, .int .i64 how] w fun e w' => e = .returned (.float .f64 (gs neg 1)) ∧ w' = w := by
  go_enter Tryd.func55, Tryd.ntmps55
  go_wp2_with (first | (go_at_call 59; refine (k59 _).mono ?_; rintro e w' ⟨rfl, rfl⟩) | (go_at_call 40; refine (c40 _ _).mono ?_; rintro e w' ⟨rfl, rfl⟩) | (go_at_call 60; refine (c60 _ _ _).mono ?_; rintro e w' ⟨rfl, rfl⟩))
  go_ret
  exact ⟨rfl, rfl⟩

/-! ### The plain facts -/

theorem nr_start (m : Nat) (e : Int) (hm : m < 18446744073709551616) (h0 : m ≠ 0) : NR m e m e := ⟨0, by simp, by simp, by omega, by omega, by decide⟩
theorem nr_end {m : Nat} {e X Y : Int} (hm : m < 18446744073709551616) (h0 : m ≠ 0) (h : NR m e X Y) (hX : 9223372036854775808 ≤ X) : X = (tp m : Int) ∧ Y = e - (nz m : Int) := by
  obtain ⟨j, h1, h2, h3, h4, h5⟩ := h
  obtain ⟨hz, ht0, ht1⟩ := nz_facts m hm h0
  have e1 : X = ((m * 2 ^ j : Nat) : Int) := by rw [h1]; simp
  have hj : j = nz m := by
    rcases Nat.lt_trichotomy j (nz m) with hlt | heq | hgt
    · exfalso
      have a1 : m * 2 ^ (j + 1) ≤ m * 2 ^ nz m := Nat.mul_le_mul_left _ (Nat.pow_le_pow_right (by decide) hlt)
      have a2 : m * 2 ^ (j + 1) = m * 2 ^ j * 2 := by rw [Nat.pow_succ, Nat.mul_assoc]
      unfold tp at ht1
      omega
    · exact heq
    · exfalso
      have a1 : m * 2 ^ (nz m + 1) ≤ m * 2 ^ j := Nat.mul_le_mul_left _ (Nat.pow_le_pow_right (by decide) hgt)
      have a2 : m * 2 ^ (nz m + 1) = m * 2 ^ nz m * 2 := by rw [Nat.pow_succ, Nat.mul_assoc]
      unfold tp at ht0
      omega
  rw [e1, h2, hj]
  exact ⟨rfl, rfl⟩

theorem or_place (q x : Nat) (hq : q < 4096) (hx : x < 4503599627370496) : bits .or .u64 ((q : Int) * 4503599627370496) (x : Int) = ((q * 4503599627370496 + x : Nat) : Int) := by
  have e := u64_or_nat (q * 4503599627370496) x (by omega) (by omega)
  rw [show ((q * 4503599627370496 : Nat) : Int) = (q : Int) * 4503599627370496 by omega] at e
  rw [e]
  congr 1
  have := Nat.two_pow_add_eq_or_of_lt (i := 52) hx q
  rw [Nat.mul_comm q, show (4503599627370496 : Nat) = 2 ^ 52 from rfl, ← this]

/-- How it is rounded, by what is lost. -/
theorem rnd_0 (M d : Nat) : rnd M d 0 = M / 2 ^ d := by
  unfold rnd rup
  rw [if_neg (show ¬ (0 : Int) = 1 by decide), if_neg (show ¬ (0 : Int) = 2 by decide), if_neg (by decide)]
theorem rnd_1a {M d F : Nat} (hF : 2 ^ d = 2 * F) (h : F < M % 2 ^ d) : rnd M d 1 = M / 2 ^ d + 1 := by
  unfold rnd rup
  rw [if_pos rfl, decide_eq_true (by omega : 2 ^ d < 2 * (M % 2 ^ d))]
  rfl
theorem rnd_1b {M d F : Nat} (hF : 2 ^ d = 2 * F) (h : M % 2 ^ d = F) (ho : M / 2 ^ d % 2 = 1) : rnd M d 1 = M / 2 ^ d + 1 := by
  unfold rnd rup
  rw [if_pos rfl, decide_eq_true (by omega : 2 * (M % 2 ^ d) = 2 ^ d), decide_eq_true ho]
  simp
theorem rnd_1c {M d F : Nat} (hF : 2 ^ d = 2 * F) (h : M % 2 ^ d = F) (ho : ¬ M / 2 ^ d % 2 = 1) : rnd M d 1 = M / 2 ^ d := by
  unfold rnd rup
  rw [if_pos rfl, decide_eq_false (by omega : ¬ 2 ^ d < 2 * (M % 2 ^ d)), decide_eq_false ho]
  simp
theorem rnd_1d {M d F : Nat} (hF : 2 ^ d = 2 * F) (h : M % 2 ^ d < F) : rnd M d 1 = M / 2 ^ d := by
  unfold rnd rup
  rw [if_pos rfl, decide_eq_false (by omega : ¬ 2 ^ d < 2 * (M % 2 ^ d)), decide_eq_false (by omega : ¬ 2 * (M % 2 ^ d) = 2 ^ d)]
  simp
theorem rnd_2a {M d : Nat} (h : M % 2 ^ d ≠ 0) : rnd M d 2 = M / 2 ^ d + 1 := by
  unfold rnd rup
  rw [if_neg (show ¬ (2 : Int) = 1 by decide), if_pos (show (2 : Int) = 2 from rfl), decide_eq_true h]
  rfl
theorem rnd_2b {M d : Nat} (h : M % 2 ^ d = 0) : rnd M d 2 = M / 2 ^ d := by
  unfold rnd rup
  rw [if_neg (show ¬ (2 : Int) = 1 by decide), if_pos (show (2 : Int) = 2 from rfl), decide_eq_false (fun hh => hh h)]
  rfl

end Go.Proofs.YtacaidobfildoaaDoor
