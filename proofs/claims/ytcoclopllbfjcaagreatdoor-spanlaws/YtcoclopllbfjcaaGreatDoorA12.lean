/- Own work: contracts of the program's functions, part 12: SF4 SN1 SN2 SN3 SN4 SN5 SN6 SN7 SN8 SN9 SNB SNC. -/
import Derived.Test.YtcoclopllbfjcaaGreatDoorA11
import Derived.Test.YtcoclopllbfjcaaGreatDoorA7
import Derived.Test.YtcoclopllbfjcaaGreatDoorA10
import Derived.Test.YtcoclopllbfjcaaGreatDoorA5

/- RoundHolds. -/
namespace Go.Proofs.YtcoclopllbfjcaaGreatDoor
set_option linter.unusedVariables false
set_option linter.unusedSimpArgs false
open Go.RowKit Go.Fl64

theorem dorder {t1 t2 : Bool × Nat × Int} {X Y : Value} {w : World} (o1 : Ok t1) (o2 : Ok t2) (h1 : DN w X t1) (h2 : DN w Y t2) : Calls Tryz.prog 32 #[X, Y] w fun r w' => r = .returned (.int .i64 (ordN t1.1 t1.2.1 t1.2.2 t2.1 t2.2.1 t2.2.2)) ∧ Below w.heap.size w w' := by
  obtain ⟨ao, cap, rfl, a1⟩ := h1
  obtain ⟨ao', cap', rfl, a2⟩ := h2
  obtain ⟨f1, f2, f3, -, -⟩ := o1.facts
  obtain ⟨g1, g2, g3, -, -⟩ := o2.facts
  exact rorder a1 a2 (by omega) (by omega) (by omega) (by omega)

end Go.Proofs.YtcoclopllbfjcaaGreatDoor
/- Floats in order: not above, the lesser and the greater of two; intervals that may be. -/
namespace Go.Fl64
set_option linter.unusedVariables false
set_option linter.unusedSimpArgs false

/-- a ≤ b of floats -/
def le (a b : Nat) : Bool := !isNaN a && !isNaN b && decide (stp a ≤ stp b)

theorem ord_le (a b : Nat) (ha : a < 18446744073709551616) (hb : b < 18446744073709551616) : (FloatKind.f64.format.order a b == some Ordering.lt || FloatKind.f64.format.order a b == some Ordering.eq) = le a b := by
  rw [ord_lt a b ha hb, ord_eq a b ha hb]
  unfold lt eq le
  cases isNaN a <;> cases isNaN b <;> simp
  rw [← Bool.decide_or]
  exact decide_eq_decide.2 (by omega)
theorem ord_ge (a b : Nat) (ha : a < 18446744073709551616) (hb : b < 18446744073709551616) : (FloatKind.f64.format.order a b == some Ordering.gt || FloatKind.f64.format.order a b == some Ordering.eq) = le b a := by
  rw [ord_gt a b ha hb, ord_eq a b ha hb]
  unfold lt eq le
  cases isNaN a <;> cases isNaN b <;> simp
  rw [← Bool.decide_or]
  exact decide_eq_decide.2 (by omega)
/-- the lesser, the greater of two floats that are no NaN -/
def fMin (x y : Nat) : Nat := if stp x < stp y then x else if stp y < stp x then y else if neg x then x else y
def fMax (x y : Nat) : Nat := if stp x < stp y then y else if stp y < stp x then x else if neg x then y else x

theorem dec_neg (a : Nat) (h : a < 18446744073709551616) (n : isNaN a = false) : (FloatKind.f64.decode a).neg = neg a := by
  unfold FloatKind.decode
  rw [f64]
  have n' : ¬ 9218868437227405312 < mag a := of_decide_eq_false n
  by_cases f : mag a < 9218868437227405312
  · obtain ⟨m, k, e, _⟩ := read_number a h f
    rw [e]; rfl
  · rw [read_infinity a h (by omega)]; rfl

theorem run_fmin {P : Program} (w : World) (ts : Array TypeId) (t : TypeId) (x y : Nat) (hx : x < 18446744073709551616) (hy : y < 18446744073709551616) (nx : isNaN x = false) (ny : isNaN y = false) :
    (Builtin.min_ ts t #[.float .f64 x, .float .f64 y]).run P w = .ok (.float .f64 (fMin x y)) w := by
  have ho := order_num x y hx hy nx ny
  have hd := dec_neg x hx nx
  rw [← f64] at ho
  unfold fMin
  rcases Int.lt_trichotomy (stp x) (stp y) with h | h | h
  · rw [cmp_lt h] at ho
    rw [if_pos h]
    simp [Builtin.min_, Builtin.min2, ho]
  · rw [cmp_eq h] at ho
    rw [if_neg (by omega), if_neg (by omega)]
    simp [Builtin.min_, Builtin.min2, ho, hd]
  · rw [cmp_gt h] at ho
    rw [if_neg (by omega), if_pos h]
    simp [Builtin.min_, Builtin.min2, ho]
theorem run_fmax {P : Program} (w : World) (ts : Array TypeId) (t : TypeId) (x y : Nat) (hx : x < 18446744073709551616) (hy : y < 18446744073709551616) (nx : isNaN x = false) (ny : isNaN y = false) :
    (Builtin.max_ ts t #[.float .f64 x, .float .f64 y]).run P w = .ok (.float .f64 (fMax x y)) w := by
  have ho := order_num x y hx hy nx ny
  have hd := dec_neg x hx nx
  rw [← f64] at ho
  unfold fMax
  rcases Int.lt_trichotomy (stp x) (stp y) with h | h | h
  · rw [cmp_lt h] at ho
    rw [if_pos h]
    simp [Builtin.max_, Builtin.max2, ho]
  · rw [cmp_eq h] at ho
    rw [if_neg (by omega), if_neg (by omega)]
    simp [Builtin.max_, Builtin.max2, ho, hd]
  · rw [cmp_gt h] at ho
    rw [if_neg (by omega), if_pos h]
    simp [Builtin.max_, Builtin.max2, ho]
theorem fMin_or (x y : Nat) : fMin x y = x ∨ fMin x y = y := by
  unfold fMin
  split
  · exact .inl rfl
  · split
    · exact .inr rfl
    · split
      · exact .inl rfl
      · exact .inr rfl
theorem fMax_or (x y : Nat) : fMax x y = x ∨ fMax x y = y := by
  unfold fMax
  split
  · exact .inr rfl
  · split
    · exact .inl rfl
    · split
      · exact .inr rfl
      · exact .inl rfl
theorem fMin_lt {x y : Nat} (hx : x < 18446744073709551616) (hy : y < 18446744073709551616) : fMin x y < 18446744073709551616 := by
  rcases fMin_or x y with h | h <;> rw [h] <;> assumption
theorem fMax_lt {x y : Nat} (hx : x < 18446744073709551616) (hy : y < 18446744073709551616) : fMax x y < 18446744073709551616 := by
  rcases fMax_or x y with h | h <;> rw [h] <;> assumption
theorem fMin_nn {x y : Nat} (hx : isNaN x = false) (hy : isNaN y = false) : isNaN (fMin x y) = false := by
  rcases fMin_or x y with h | h <;> rw [h] <;> assumption
theorem fMax_nn {x y : Nat} (hx : isNaN x = false) (hy : isNaN y = false) : isNaN (fMax x y) = false := by
  rcases fMax_or x y with h | h <;> rw [h] <;> assumption
theorem fMin_stp (x y : Nat) : stp (fMin x y) = min (stp x) (stp y) := by
  unfold fMin
  split
  · omega
  · split
    · omega
    · split <;> omega
theorem fMax_stp (x y : Nat) : stp (fMax x y) = max (stp x) (stp y) := by
  unfold fMax
  split
  · omega
  · split
    · omega
    · split <;> omega

/-- a nought as +0 -/
def pl (a : Nat) : Nat := if a = 9223372036854775808 then 0 else a
theorem pl_lt {a : Nat} (h : a < 18446744073709551616) : pl a < 18446744073709551616 := by unfold pl; split <;> omega
theorem pl_stp (a : Nat) : stp (pl a) = stp a := by
  unfold pl
  split
  · rename_i h; rw [h]; decide
  · rfl
theorem pl_nan (a : Nat) : isNaN (pl a) = isNaN a := by
  unfold pl
  split
  · rename_i h; rw [h]; decide
  · rfl
theorem stp_zero {a : Nat} (ha : a < 18446744073709551616) : stp a = 0 ↔ (a = 0 ∨ a = 9223372036854775808) := by
  unfold stp sgn neg mag
  constructor
  · intro h
    split at h <;> rename_i h1 <;> simp only [decide_eq_true_eq] at h1 <;> omega
  · rintro (rfl | rfl) <;> decide
/-- whether an interval may be -/
def vI (lo hi : Nat) : Bool := le lo hi && lt lo 9218868437227405312 && lt 18442240474082181120 hi && decide (lo ≠ 9223372036854775808) && decide (hi ≠ 9223372036854775808)

/-- floats are told apart by their place in the order and by the sign of noughts -/
theorem stp_inj {a b : Nat} (ha : a < 18446744073709551616) (hb : b < 18446744073709551616) (h : stp a = stp b) (h1 : a ≠ 9223372036854775808) (h2 : b ≠ 9223372036854775808) : a = b := by
  unfold stp sgn neg mag at h
  split at h <;> split at h <;> rename_i h3 h4 <;> simp only [decide_eq_true_eq] at h3 h4 <;> omega
end Go.Fl64
/- The small functions of span: noughts, infinities, what may be. -/
namespace Go.Proofs.YtcoclopllbfjcaaGreatDoor
set_option linter.unusedVariables false
set_option linter.unusedSimpArgs false
open Go.RowKit Go.Fl64

theorem eq_zero (a : Nat) (ha : a < 18446744073709551616) : eq a 0 = (decide (a = 0) || decide (a = 9223372036854775808)) := by
  rw [← Bool.decide_or]
  unfold eq
  rw [show isNaN 0 = false from rfl]
  have h := stp_zero ha
  rw [show stp 0 = 0 from rfl]
  by_cases h0 : stp a = 0
  · have h1 := h.1 h0
    rw [decide_eq_true h0, decide_eq_true h1]
    rcases h1 with rfl | rfl <;> rfl
  · rw [decide_eq_false h0, decide_eq_false fun h2 => h0 (h.2 h2), Bool.and_false]

theorem pmn (a : Nat) (ha : a < 18446744073709551616) (w : World) :
    Calls Tryz.prog 96 #[.float .f64 a] w fun r w' => r = .returned (.bool (decide (a = 9223372036854775808))) ∧ w' = w := by
  have k := Ie.c33 a ha
  have e := ord_eq a 0 ha (by omega)
  rw [eq_zero a ha] at e
  by_cases h : a = 0 ∨ a = 9223372036854775808
  · have e1 : (FloatKind.f64.format.order a 0 == some Ordering.eq) = true := by
      rw [e, ← Bool.decide_or]; exact decide_eq_true h
    have e2 : decide (a = 9223372036854775808) = neg a := by
      rcases h with rfl | rfl <;> rfl
    rw [e2]
    clear e e2 h
    go_enter Tryz.func96, Tryz.ntmps96
    go_wp2_with (first | (go_at_call 109; refine (k _).mono ?_; rintro r w' ⟨rfl, rfl⟩))
    go_ret
    exact ⟨rfl, rfl⟩
  · have e1 : (FloatKind.f64.format.order a 0 == some Ordering.eq) = false := by
      rw [e, ← Bool.decide_or]; exact decide_eq_false h
    rw [decide_eq_false fun h1 => h (.inr h1)]
    clear e h
    go_enter Tryz.func96, Tryz.ntmps96
    go_wp2
    go_ret
    exact ⟨rfl, rfl⟩
theorem ppl (a : Nat) (ha : a < 18446744073709551616) (w : World) :
    Calls Tryz.prog 97 #[.float .f64 a] w fun r w' => r = .returned (.float .f64 (pl a)) ∧ w' = w := by
  have e := ord_eq a 0 ha (by omega)
  rw [eq_zero a ha] at e
  by_cases h : a = 0 ∨ a = 9223372036854775808
  · have e1 : (FloatKind.f64.format.order a 0 == some Ordering.eq) = true := by
      rw [e, ← Bool.decide_or]; exact decide_eq_true h
    have e2 : pl a = 0 := by
      rcases h with rfl | rfl <;> rfl
    rw [e2]
    clear e e2 h
    go_enter Tryz.func97, Tryz.ntmps97
    go_wp2
    go_ret
    exact ⟨rfl, rfl⟩
  · have e1 : (FloatKind.f64.format.order a 0 == some Ordering.eq) = false := by
      rw [e, ← Bool.decide_or]; exact decide_eq_false h
    have e2 : pl a = a := if_neg fun h1 => h (.inr h1)
    rw [e2]
    clear e e2 h
    go_enter Tryz.func97, Tryz.ntmps97
    go_wp2
    go_ret
    exact ⟨rfl, rfl⟩
end Go.Proofs.YtcoclopllbfjcaaGreatDoor
/- Valid on both sides. -/
namespace Go.Proofs.YtcoclopllbfjcaaGreatDoor
set_option linter.unusedVariables false
set_option linter.unusedSimpArgs false
open Go.RowKit Go.Fl64

theorem box_cells2 {w : World} {g : Nat} {a b : Value} {T : TypeId} (h : w.heap[g]? = some (.cells #[a, b] T (0, 0))) : w.cell? ⟨g, 0, none⟩ = some a ∧ w.cell? ⟨g, 1, none⟩ = some b := by
  simp [World.cell?, h]
theorem cinf_p (w : World) : Calls Tryz.prog 44 #[.int .i64 1] w fun r w' => r = .returned (.float .f64 9218868437227405312) ∧ w' = w := by
  have hb := Ie.run_frombits
  go_enter Tryz.func44, Tryz.ntmps44
  go_wp2
  go_ret
  exact ⟨rfl, rfl⟩
theorem isinf_p (a : Nat) (ha : a < 18446744073709551616) (w : World) :
    Calls Tryz.prog 74 #[.float .f64 a, .int .i64 1] w fun e w' => e = .returned (.bool (lt 9218868437227405311 a)) ∧ w' = w := by
  have h := ord_gt a 9218868437227405311 ha (by omega)
  have H : Hid ((FloatKind.f64.format.order a 9218868437227405311 == some Ordering.gt) = lt 9218868437227405311 a) := h
  clear h
  go_enter Tryz.func74, Tryz.ntmps74
  go_wp2
  go_ret
  exact ⟨congrArg Ending.returned (congrArg Value.bool H.out), rfl⟩
theorem run_negf8 (a : Nat) (w : World) : (Op.unary .neg (.float .f64 a)).run Tryz.prog w = .ok (.float .f64 (Op.negFloat .f64 a)) w := rfl
theorem isinf_m (a : Nat) (ha : a < 18446744073709551616) (w : World) :
    Calls Tryz.prog 74 #[.float .f64 a, .int .i64 (-1)] w fun e w' => e = .returned (.bool (lt 9218868437227405311 (ngt a))) ∧ w' = w := by
  have kn := run_negf8
  have h := ord_gt (ngt a) 9218868437227405311 (ngt_lt ha) (by omega)
  have hn := negF a ha
  generalize ngt a = b at *
  have H : Hid ((FloatKind.f64.format.order b 9218868437227405311 == some Ordering.gt) = lt 9218868437227405311 b) := h
  clear h
  go_enter Tryz.func74, Tryz.ntmps74
  go_wp2
  go_ret
  refine ⟨?_, rfl⟩
  rw [hn] at *
  exact congrArg Ending.returned (congrArg Value.bool H.out)

theorem ngt_stp {a : Nat} (ha : a < 18446744073709551616) : stp (ngt a) = - stp a := by
  unfold stp
  rw [ngt_mag ha, ngt_neg ha]
  cases neg a <;> simp [sgn]
theorem ngt_nan8 {a : Nat} (ha : a < 18446744073709551616) : isNaN (ngt a) = isNaN a := by
  unfold isNaN; rw [ngt_mag ha]
theorem nan_stp {a : Nat} (h : isNaN a = false) : -9218868437227405312 ≤ stp a ∧ stp a ≤ 9218868437227405312 := by
  have h' : ¬ 9218868437227405312 < mag a := of_decide_eq_false h
  unfold stp sgn
  split <;> omega
/-- what the program asks -/
theorem vI_p (lo hi : Nat) (h1 : lo < 18446744073709551616) (h2 : hi < 18446744073709551616) :
    vI lo hi = (le lo hi && !(lt 9218868437227405311 lo || lt 9218868437227405311 (ngt hi)) && (!decide (lo = 9223372036854775808) && !decide (hi = 9223372036854775808))) := by
  unfold vI
  cases hl : le lo hi
  · rfl
  · unfold le at hl
    simp only [Bool.and_eq_true, Bool.not_eq_true', decide_eq_true_eq] at hl
    obtain ⟨⟨n1, n2⟩, h3⟩ := hl
    have b1 := nan_stp n1
    have b2 := nan_stp n2
    have e1 : lt lo 9218868437227405312 = !lt 9218868437227405311 lo := by
      unfold lt
      rw [n1, show isNaN 9218868437227405312 = false by decide, show isNaN 9218868437227405311 = false by decide, show stp 9218868437227405312 = 9218868437227405312 by decide, show stp 9218868437227405311 = 9218868437227405311 by decide]
      rw [Bool.not_false, Bool.true_and, Bool.true_and, Bool.true_and, ← decide_not]
      exact decide_eq_decide.2 (by omega)
    have e2 : lt 18442240474082181120 hi = !lt 9218868437227405311 (ngt hi) := by
      unfold lt
      rw [ngt_nan8 h2, n2, ngt_stp h2, show isNaN 18442240474082181120 = false by decide, show isNaN 9218868437227405311 = false by decide, show stp 18442240474082181120 = -9218868437227405312 by decide, show stp 9218868437227405311 = 9218868437227405311 by decide]
      rw [Bool.not_false, Bool.true_and, Bool.true_and, Bool.true_and, ← decide_not]
      exact decide_eq_decide.2 (by omega)
    rw [e1, e2]
    simp [Bool.and_assoc]
set_option maxHeartbeats 1000000 in
theorem pvalid_1 (lo hi : Nat) (w : World)
    (h : (FloatKind.f64.format.order lo hi == some Ordering.lt || FloatKind.f64.format.order lo hi == some Ordering.eq) = false) :
    Calls Tryz.prog 52 #[.agg #[.float .f64 lo, .float .f64 hi]] w fun r w' => r = .returned (.bool false) ∧ Below w.heap.size w w' := by
  go_enter Tryz.func52, Tryz.ntmps52
  go_wp2_with (first | fail)
  go_ret
  exact ⟨rfl, (Below.refl _ _).alloc (Nat.le_refl _) _⟩
set_option maxHeartbeats 1000000 in
theorem pvalid_2 (lo hi : Nat) (w : World) (p q s : Bool)
    (h : (FloatKind.f64.format.order lo hi == some Ordering.lt || FloatKind.f64.format.order lo hi == some Ordering.eq) = true)
    (k1 : ∀ W, Calls Tryz.prog 74 #[.float .f64 lo, .int .i64 1] W fun e w' => e = .returned (.bool true) ∧ w' = W)
    (k2 : ∀ W, Calls Tryz.prog 74 #[.float .f64 hi, .int .i64 (-1)] W fun e w' => e = .returned (.bool p) ∧ w' = W)
    (k3 : ∀ W, Calls Tryz.prog 96 #[.float .f64 lo] W fun e w' => e = .returned (.bool q) ∧ w' = W)
    (k4 : ∀ W, Calls Tryz.prog 96 #[.float .f64 hi] W fun e w' => e = .returned (.bool s) ∧ w' = W) :
    Calls Tryz.prog 52 #[.agg #[.float .f64 lo, .float .f64 hi]] w fun r w' => r = .returned (.bool false) ∧ Below w.heap.size w w' := by
  go_enter Tryz.func52, Tryz.ntmps52
  go_wp2_with (first | (go_at_call 74; first | (with_reducible refine (k1 _).mono ?_; rintro r w' ⟨rfl, rfl⟩) | (with_reducible refine (k2 _).mono ?_; rintro r w' ⟨rfl, rfl⟩)) | (go_at_call 96; first | (with_reducible refine (k3 _).mono ?_; rintro r w' ⟨rfl, rfl⟩) | (with_reducible refine (k4 _).mono ?_; rintro r w' ⟨rfl, rfl⟩)))
  go_ret
  exact ⟨rfl, (Below.refl _ _).alloc (Nat.le_refl _) _⟩
set_option maxHeartbeats 1000000 in
theorem pvalid_3 (lo hi : Nat) (w : World) (q s : Bool)
    (h : (FloatKind.f64.format.order lo hi == some Ordering.lt || FloatKind.f64.format.order lo hi == some Ordering.eq) = true)
    (k1 : ∀ W, Calls Tryz.prog 74 #[.float .f64 lo, .int .i64 1] W fun e w' => e = .returned (.bool false) ∧ w' = W)
    (k2 : ∀ W, Calls Tryz.prog 74 #[.float .f64 hi, .int .i64 (-1)] W fun e w' => e = .returned (.bool true) ∧ w' = W)
    (k3 : ∀ W, Calls Tryz.prog 96 #[.float .f64 lo] W fun e w' => e = .returned (.bool q) ∧ w' = W)
    (k4 : ∀ W, Calls Tryz.prog 96 #[.float .f64 hi] W fun e w' => e = .returned (.bool s) ∧ w' = W) :
    Calls Tryz.prog 52 #[.agg #[.float .f64 lo, .float .f64 hi]] w fun r w' => r = .returned (.bool false) ∧ Below w.heap.size w w' := by
  go_enter Tryz.func52, Tryz.ntmps52
  go_wp2_with (first | (go_at_call 74; first | (with_reducible refine (k1 _).mono ?_; rintro r w' ⟨rfl, rfl⟩) | (with_reducible refine (k2 _).mono ?_; rintro r w' ⟨rfl, rfl⟩)) | (go_at_call 96; first | (with_reducible refine (k3 _).mono ?_; rintro r w' ⟨rfl, rfl⟩) | (with_reducible refine (k4 _).mono ?_; rintro r w' ⟨rfl, rfl⟩)))
  go_ret
  exact ⟨rfl, (Below.refl _ _).alloc (Nat.le_refl _) _⟩
set_option maxHeartbeats 1000000 in
theorem pvalid_4 (lo hi : Nat) (w : World) (s : Bool)
    (h : (FloatKind.f64.format.order lo hi == some Ordering.lt || FloatKind.f64.format.order lo hi == some Ordering.eq) = true)
    (k1 : ∀ W, Calls Tryz.prog 74 #[.float .f64 lo, .int .i64 1] W fun e w' => e = .returned (.bool false) ∧ w' = W)
    (k2 : ∀ W, Calls Tryz.prog 74 #[.float .f64 hi, .int .i64 (-1)] W fun e w' => e = .returned (.bool false) ∧ w' = W)
    (k3 : ∀ W, Calls Tryz.prog 96 #[.float .f64 lo] W fun e w' => e = .returned (.bool true) ∧ w' = W)
    (k4 : ∀ W, Calls Tryz.prog 96 #[.float .f64 hi] W fun e w' => e = .returned (.bool s) ∧ w' = W) :
    Calls Tryz.prog 52 #[.agg #[.float .f64 lo, .float .f64 hi]] w fun r w' => r = .returned (.bool false) ∧ Below w.heap.size w w' := by
  go_enter Tryz.func52, Tryz.ntmps52
  go_wp2_with (first | (go_at_call 74; first | (with_reducible refine (k1 _).mono ?_; rintro r w' ⟨rfl, rfl⟩) | (with_reducible refine (k2 _).mono ?_; rintro r w' ⟨rfl, rfl⟩)) | (go_at_call 96; first | (with_reducible refine (k3 _).mono ?_; rintro r w' ⟨rfl, rfl⟩) | (with_reducible refine (k4 _).mono ?_; rintro r w' ⟨rfl, rfl⟩)))
  go_ret
  exact ⟨rfl, (Below.refl _ _).alloc (Nat.le_refl _) _⟩
set_option maxHeartbeats 1000000 in
theorem pvalid_5 (lo hi : Nat) (w : World) (s : Bool)
    (h : (FloatKind.f64.format.order lo hi == some Ordering.lt || FloatKind.f64.format.order lo hi == some Ordering.eq) = true)
    (k1 : ∀ W, Calls Tryz.prog 74 #[.float .f64 lo, .int .i64 1] W fun e w' => e = .returned (.bool false) ∧ w' = W)
    (k2 : ∀ W, Calls Tryz.prog 74 #[.float .f64 hi, .int .i64 (-1)] W fun e w' => e = .returned (.bool false) ∧ w' = W)
    (k3 : ∀ W, Calls Tryz.prog 96 #[.float .f64 lo] W fun e w' => e = .returned (.bool false) ∧ w' = W)
    (k4 : ∀ W, Calls Tryz.prog 96 #[.float .f64 hi] W fun e w' => e = .returned (.bool s) ∧ w' = W) :
    Calls Tryz.prog 52 #[.agg #[.float .f64 lo, .float .f64 hi]] w fun r w' => r = .returned (.bool (!s)) ∧ Below w.heap.size w w' := by
  go_enter Tryz.func52, Tryz.ntmps52
  go_wp2_with (first | (go_at_call 74; first | (with_reducible refine (k1 _).mono ?_; rintro r w' ⟨rfl, rfl⟩) | (with_reducible refine (k2 _).mono ?_; rintro r w' ⟨rfl, rfl⟩)) | (go_at_call 96; first | (with_reducible refine (k3 _).mono ?_; rintro r w' ⟨rfl, rfl⟩) | (with_reducible refine (k4 _).mono ?_; rintro r w' ⟨rfl, rfl⟩)))
  go_ret
  exact ⟨rfl, (Below.refl _ _).alloc (Nat.le_refl _) _⟩
theorem svalid (lo hi : Nat) (h1 : lo < 18446744073709551616) (h2 : hi < 18446744073709551616) (w : World) :
    Calls Tryz.prog 52 #[.agg #[.float .f64 lo, .float .f64 hi]] w fun r w' => r = .returned (.bool (vI lo hi)) ∧ Below w.heap.size w w' := by
  have ho := ord_le lo hi h1 h2
  rw [vI_p lo hi h1 h2]
  have k1 := isinf_p lo h1
  have k2 := isinf_m hi h2
  have k3 := pmn lo h1
  have k4 := pmn hi h2
  cases hl : le lo hi
  · rw [hl] at ho
    exact pvalid_1 lo hi w ho
  · rw [hl] at ho
    cases hp : lt 9218868437227405311 lo
    · rw [hp] at k1
      cases hq : lt 9218868437227405311 (ngt hi)
      · rw [hq] at k2
        cases hs : decide (lo = 9223372036854775808)
        · rw [hs] at k3
          exact pvalid_5 lo hi w _ ho k1 k2 k3 k4
        · rw [hs] at k3
          exact pvalid_4 lo hi w _ ho k1 k2 k3 k4
      · rw [hq] at k2
        exact pvalid_3 lo hi w _ _ ho k1 k2 k3 k4
    · rw [hp] at k1
      exact pvalid_2 lo hi w _ _ _ ho k1 k2 k3 k4
end Go.Proofs.YtcoclopllbfjcaaGreatDoor
/- mayBe, of two intervals; between, All. -/
namespace Go.Proofs.YtcoclopllbfjcaaGreatDoor
set_option linter.unusedVariables false
set_option linter.unusedSimpArgs false
open Go.RowKit Go.Fl64

theorem run_store_flt (P : Program) (w : World) (a : Addr) (m : Mode) (k : FloatKind) (n : Nat) : (store a (.float k n) m).run P w = stored P w a (.float k n) m := run_store P w a _ m rfl
attribute [local go_sem] run_store_flt

set_option maxRecDepth 200000 in
theorem smaybe_1 (g k : Nat) (lo hi : Nat → Nat) (w : World) (hk : k ≤ 3)
    (h0 : ∀ i, i < k → w.cell? ⟨g, i * 2, none⟩ = some (.float .f64 (lo i))) (h1 : ∀ i, i < k → w.cell? ⟨g, i * 2 + 1, none⟩ = some (.float .f64 (hi i)))
    (b0 : ∀ i, lo i < 18446744073709551616) (b1 : ∀ i, hi i < 18446744073709551616) :
    Calls Tryz.prog 33 #[.slice (some ⟨g, 0, none⟩) k k] w fun r w' => r = .returned (.bool (decide (∀ i, i < k → vI (lo i) (hi i) = true))) ∧ Below w.heap.size w w' := by
  generalize hans : decide (∀ i, i < k → vI (lo i) (hi i) = true) = ans
  have HA : Hid (ans = decide (∀ i, i < k → vI (lo i) (hi i) = true)) := hans.symm
  clear hans
  go_enter Tryz.func33, Tryz.ntmps33
  go_wp2
  go_loopw [7] (fun i wr => ∃ j : Nat, j ≤ k ∧ i = .int .i64 j ∧ Hid (Below w.heap.size w wr) ∧ Hid (∀ i, i < j → vI (lo i) (hi i) = true)) (fun i _ => k - (intOf i).toNat)
  case atStart => exact ⟨0, Nat.zero_le _, rfl, Below.refl _ _, (fun i hi' => absurd hi' (Nat.not_lt_zero _) : ∀ i, i < 0 → vI (lo i) (hi i) = true)⟩
  case round =>
    obtain ⟨j, hj, rfl, hB, hok⟩ := hrel
    by_cases hjk : j < k
    · have a0 : wr.cell? ⟨g, j * 2, none⟩ = some (.float .f64 (lo j)) := (hB.out.cell (World.block_lt_of_cell? _ _ (h0 j hjk))).trans (h0 j hjk)
      have a1 : wr.cell? ⟨g, j * 2 + 1, none⟩ = some (.float .f64 (hi j)) := (hB.out.cell (World.block_lt_of_cell? _ _ (h1 j hjk))).trans (h1 j hjk)
      have hg : g < wr.heap.size := World.block_lt_of_cell? _ _ a0
      have hji : (j : Int) < (k : Int) := by omega
      clear h0 h1
      have k18 := svalid (lo j) (hi j) (b0 j) (b1 j) (wr.alloc (.cells #[.float .f64 (lo j), .float .f64 (hi j)] 24))
      generalize hokj : vI (lo j) (hi j) = okj at *
      have HOK : Hid (vI (lo j) (hi j) = okj) := hokj
      clear hokj b0 b1
      go_wp2_with fail
      refine k18.mono ?_
      rintro r w1 ⟨rfl, hw1⟩
      have HB1 : Hid (Below w.heap.size w w1) := (hB.out.alloc hB.out.size _).trans (hw1.mono (by have := hB.out.size; simp; omega))
      clear hw1 k18
      cases okj
      · go_wp2
        go_ret
        refine ⟨congrArg Ending.returned (congrArg Value.bool ?_), HB1.out⟩
        rw [HA.out, decide_eq_false]
        intro h
        have := h j hjk
        rw [HOK.out] at this
        exact absurd this (by decide)
      · go_wp2
        exact ⟨⟨j + 1, by omega, by simp, HB1, (fun i hi' => by
          by_cases e1 : i = j
          · subst e1; exact HOK.out
          · exact hok.out i (by omega) : ∀ i, i < j + 1 → vI (lo i) (hi i) = true)⟩, by simp [intOf]; omega⟩
    · obtain rfl : j = k := by omega
      clear h0 h1
      go_wp2
      go_ret
      refine ⟨congrArg Ending.returned (congrArg Value.bool ?_), hB.out⟩
      rw [HA.out, decide_eq_true hok.out]
theorem box_cells_2x2 {w : World} {g : Nat} {a b c d : Value} {T : TypeId} (h : w.heap[g]? = some (.cells #[a, b, c, d] T (0, 0))) : w.cell? ⟨g, 0, none⟩ = some a ∧ w.cell? ⟨g, 1, none⟩ = some b ∧ w.cell? ⟨g, 2, none⟩ = some c ∧ w.cell? ⟨g, 3, none⟩ = some d := by
  simp [World.cell?, h]
/-- mayBe of two intervals that lie in a new row -/
theorem smaybe {a b c d g : Nat} {T : TypeId} {w : World} (h : w.heap[g]? = some (.cells #[.float .f64 a, .float .f64 b, .float .f64 c, .float .f64 d] T (0, 0)))
    (ha : a < 18446744073709551616) (hb : b < 18446744073709551616) (hc : c < 18446744073709551616) (hd : d < 18446744073709551616) :
    Calls Tryz.prog 33 #[.slice (some ⟨g, 0, none⟩) 2 2] w fun r w' => r = .returned (.bool (vI a b && vI c d)) ∧ Below w.heap.size w w' := by
  obtain ⟨x0, x1, x2, x3⟩ := box_cells_2x2 h
  have k := smaybe_1 g 2 (fun i => if i = 0 then a else c) (fun i => if i = 0 then b else d) w (by omega)
    (fun i hi => by rcases (show i = 0 ∨ i = 1 by omega) with rfl | rfl; exact x0; exact x2)
    (fun i hi => by rcases (show i = 0 ∨ i = 1 by omega) with rfl | rfl; exact x1; exact x3)
    (fun i => by split <;> assumption) (fun i => by split <;> assumption)
  have e : decide (∀ i, i < 2 → vI (if i = 0 then a else c) (if i = 0 then b else d) = true) = (vI a b && vI c d) := by
    rw [Bool.eq_iff_iff, decide_eq_true_eq, Bool.and_eq_true]
    constructor
    · intro h
      exact ⟨h 0 (by omega), h 1 (by omega)⟩
    · rintro ⟨h1, h2⟩ i hi
      rcases (show i = 0 ∨ i = 1 by omega) with rfl | rfl
      · exact h1
      · exact h2
  rw [e] at k
  exact k

theorem iv_info : (Tryz.prog.info? 24).map (·.size) = some 2 := by kernel_rfl
theorem sall (w : World) : Calls Tryz.prog 51 #[] w fun r w' => r = .returned (.agg #[.float .f64 18442240474082181120, .float .f64 9218868437227405312]) ∧ Below w.heap.size w w' := by
  go_enter Tryz.func51, Tryz.ntmps51
  go_wp2_with (first | (go_at_call 44; first | (with_reducible refine (cinf_p _).mono ?_; rintro r w' ⟨rfl, rfl⟩) | (with_reducible refine (cinf_m _).mono ?_; rintro r w' ⟨rfl, rfl⟩)))
  refine bodyPost_ret (results_cell_row rfl _ _ w.heap.size 24 #[.float .f64 18442240474082181120, .float .f64 9218868437227405312] (0, 0) _ rfl (heap_alloc_new _ _) Tryz.underlying24 rfl iv_info) rfl ?_
  exact ⟨rfl, (Below.refl _ _).alloc (Nat.le_refl _) _⟩
theorem sbetween (a b : Nat) (w : World) (ha : a < 18446744073709551616) (hb : b < 18446744073709551616) : Calls Tryz.prog 54 #[.float .f64 a, .float .f64 b] w fun r w' => r = .returned (.agg #[.float .f64 (pl a), .float .f64 (pl b)]) ∧ Below w.heap.size w w' := by
  have k1 := ppl a ha
  have k2 := ppl b hb
  generalize pl a = A at *
  generalize pl b = C at *
  go_enter Tryz.func54, Tryz.ntmps54
  go_wp2_with (first | (go_at_call 97; first | (with_reducible refine (k1 _).mono ?_; rintro r w' ⟨rfl, rfl⟩) | (with_reducible refine (k2 _).mono ?_; rintro r w' ⟨rfl, rfl⟩)))
  refine bodyPost_ret (results_cell_row rfl _ _ w.heap.size 24 #[.float .f64 A, .float .f64 C] (0, 0) _ rfl (heap_alloc_new _ _) Tryz.underlying24 rfl iv_info) rfl ?_
  exact ⟨rfl, (Below.refl _ _).alloc (Nat.le_refl _) _⟩
end Go.Proofs.YtcoclopllbfjcaaGreatDoor
/- Has and Within on both sides. -/
namespace Go.Proofs.YtcoclopllbfjcaaGreatDoor
set_option linter.unusedVariables false
set_option linter.unusedSimpArgs false
open Go.RowKit Go.Fl64
attribute [local go_sem] run_store_flt

set_option maxHeartbeats 2000000 in
theorem shas_1 (lo hi f : Nat) (v i p q : Bool) (w : World)
    (k1 : ∀ W, Calls Tryz.prog 52 #[.agg #[.float .f64 lo, .float .f64 hi]] W fun r w' => r = .returned (.bool v) ∧ Below W.heap.size W w')
    (k2 : ∀ W, Calls Tryz.prog 74 #[.float .f64 f, .int .i64 0] W fun r w' => r = .returned (.bool i) ∧ w' = W)
    (o1 : (FloatKind.f64.format.order lo f == some Ordering.lt || FloatKind.f64.format.order lo f == some Ordering.eq) = p) (o2 : (FloatKind.f64.format.order f hi == some Ordering.lt || FloatKind.f64.format.order f hi == some Ordering.eq) = q) :
    Calls Tryz.prog 42 #[.agg #[.float .f64 lo, .float .f64 hi], .float .f64 f] w fun r w' => r = .returned (.bool (v && !i && p && q)) ∧ Below w.heap.size w w' := by
  obtain ⟨W, hW⟩ : ∃ W, W = w.alloc (.cells #[.float .f64 lo, .float .f64 hi] 24) := ⟨_, rfl⟩
  have HX : Hid (Below w.heap.size w W ∧ W.heap[w.heap.size]? = some (.cells #[.float .f64 lo, .float .f64 hi] 24 (0, 0))) := ⟨by rw [hW]; exact (Below.refl _ _).alloc (Nat.le_refl _) _, by rw [hW]; exact heap_alloc_new _ _⟩
  have HK : Hid (∀ w', Below W.heap.size W w' → w'.cell? ⟨w.heap.size, 0, none⟩ = some (.float .f64 lo) ∧ w'.cell? ⟨w.heap.size, 1, none⟩ = some (.float .f64 hi)) := fun w' hb => box_cells2 (box_later HX.out.2 hb (lt_of_box HX.out.2))
  obtain ⟨c0, c1⟩ := HK.out W (Below.refl _ _)
  have kv := k1 W
  clear k1
  go_enter Tryz.func42, Tryz.ntmps42
  go_upto_region 1 with fail
  rw [← hW]
  clear hW
  go_wp2_with fail
  refine kv.mono ?_
  rintro r w1 ⟨rfl, hb1⟩
  clear c0 c1
  obtain ⟨c0, c1⟩ := HK.out w1 hb1
  have HB : Hid (Below w.heap.size w w1) := HX.out.1.trans (hb1.mono HX.out.1.size)
  clear hb1 HK HX kv
  cases v <;> cases i <;> cases p
  all_goals
    go_wp2_with (first | (go_at_call 74; refine (k2 _).mono ?_; rintro r w' ⟨rfl, rfl⟩))
    go_ret
    exact ⟨rfl, HB.out⟩
/-- whether a float lies in an interval -/
def hI (lo hi f : Nat) : Bool := vI lo hi && !lt 9218868437227405311 (mag f) && le lo f && le f hi
theorem shas (lo hi f : Nat) (h1 : lo < 18446744073709551616) (h2 : hi < 18446744073709551616) (h3 : f < 18446744073709551616) (w : World) :
    Calls Tryz.prog 42 #[.agg #[.float .f64 lo, .float .f64 hi], .float .f64 f] w fun r w' => r = .returned (.bool (hI lo hi f)) ∧ Below w.heap.size w w' :=
  shas_1 lo hi f _ _ _ _ w (fun W => svalid lo hi h1 h2 W) (fun W => c123 f h3 W) (ord_le lo f h1 h3) (ord_le f hi h3 h2)
set_option maxHeartbeats 2000000 in
theorem swithin_1 (a b c d : Nat) (v p q : Bool) (w : World)
    (k1 : ∀ W g T, W.heap[g]? = some (.cells #[.float .f64 a, .float .f64 b, .float .f64 c, .float .f64 d] T (0, 0)) → Calls Tryz.prog 33 #[.slice (some ⟨g, 0, none⟩) 2 2] W fun r w' => r = .returned (.bool v) ∧ Below W.heap.size W w')
    (o1 : (FloatKind.f64.format.order c a == some Ordering.lt || FloatKind.f64.format.order c a == some Ordering.eq) = p) (o2 : (FloatKind.f64.format.order b d == some Ordering.lt || FloatKind.f64.format.order b d == some Ordering.eq) = q) :
    Calls Tryz.prog 18 #[.agg #[.float .f64 a, .float .f64 b], .agg #[.float .f64 c, .float .f64 d]] w fun r w' => r = .returned (.bool (v && p && q)) ∧ Below w.heap.size w w' := by
  obtain ⟨W, hW⟩ : ∃ W, W = (w.alloc (.cells #[.float .f64 a, .float .f64 b] 24)).alloc (.cells #[.float .f64 c, .float .f64 d] 24) := ⟨_, rfl⟩
  have HX : Hid (Below w.heap.size w W ∧ W.heap[w.heap.size]? = some (.cells #[.float .f64 a, .float .f64 b] 24 (0, 0)) ∧ W.heap[w.heap.size + 1]? = some (.cells #[.float .f64 c, .float .f64 d] 24 (0, 0))) := ⟨by rw [hW]; exact ((Below.refl _ _).alloc (Nat.le_refl _) _).alloc (by simp) _, by rw [hW]; exact (Below.heap_alloc _ _ _ (by simp)).trans (heap_alloc_new _ _), by rw [hW]; have := heap_alloc_new (w.alloc (.cells #[.float .f64 a, .float .f64 b] 24)) (.cells #[.float .f64 c, .float .f64 d] 24); simpa using this⟩
  have HK : Hid (∀ w', Below W.heap.size W w' → (w'.cell? ⟨w.heap.size, 0, none⟩ = some (.float .f64 a) ∧ w'.cell? ⟨w.heap.size, 1, none⟩ = some (.float .f64 b)) ∧ (w'.cell? ⟨w.heap.size + 1, 0, none⟩ = some (.float .f64 c) ∧ w'.cell? ⟨w.heap.size + 1, 1, none⟩ = some (.float .f64 d))) := fun w' hb => ⟨box_cells2 (box_later HX.out.2.1 hb (lt_of_box HX.out.2.1)), box_cells2 (box_later HX.out.2.2 hb (lt_of_box HX.out.2.2))⟩
  obtain ⟨⟨c0, c1⟩, c2, c3⟩ := HK.out W (Below.refl _ _)
  have H1 : Hid (∀ W g T, W.heap[g]? = some (.cells #[.float .f64 a, .float .f64 b, .float .f64 c, .float .f64 d] T (0, 0)) → Calls Tryz.prog 33 #[.slice (some ⟨g, 0, none⟩) 2 2] W fun r w' => r = .returned (.bool v) ∧ Below W.heap.size W w') := k1
  clear k1
  go_enter Tryz.func18, Tryz.ntmps18
  go_upto_region 1 with fail
  rw [← hW]
  clear hW
  go_wp2_with fail
  refine (H1.out _ _ _ (heap_alloc_new _ _)).mono ?_
  rintro r w1 ⟨rfl, hb1⟩
  clear c0 c1 c2 c3
  have hb2 : Below W.heap.size W w1 := ((Below.refl _ _).alloc (Nat.le_refl _) _).trans (hb1.mono (by simp))
  obtain ⟨⟨c0, c1⟩, c2, c3⟩ := HK.out w1 hb2
  have HB : Hid (Below w.heap.size w w1) := HX.out.1.trans (hb2.mono HX.out.1.size)
  clear hb1 hb2 HK HX H1
  cases v <;> cases p
  all_goals
    go_wp2
    go_ret
    exact ⟨rfl, HB.out⟩
/-- whether an interval lies in another one -/
def wI (a b c d : Nat) : Bool := vI a b && vI c d && le c a && le b d
theorem swithin (a b c d : Nat) (ha : a < 18446744073709551616) (hb : b < 18446744073709551616) (hc : c < 18446744073709551616) (hd : d < 18446744073709551616) (w : World) :
    Calls Tryz.prog 18 #[.agg #[.float .f64 a, .float .f64 b], .agg #[.float .f64 c, .float .f64 d]] w fun r w' => r = .returned (.bool (wI a b c d)) ∧ Below w.heap.size w w' :=
  swithin_1 a b c d _ _ _ w (fun W g T h => smaybe h ha hb hc hd) (ord_le c a hc ha) (ord_le b d hb hd)
end Go.Proofs.YtcoclopllbfjcaaGreatDoor
/- math.Max and math.Min, of floats that are no NaN. -/
namespace Go.Proofs.YtcoclopllbfjcaaGreatDoor
set_option linter.unusedVariables false
set_option linter.unusedSimpArgs false
open Go.RowKit Go.Fl64

end Go.Proofs.YtcoclopllbfjcaaGreatDoor
/- Boxes of intervals; the lesser and the greater of two floats, drawn or not. -/
namespace Go.Proofs.YtcoclopllbfjcaaGreatDoor
set_option linter.unusedVariables false
set_option linter.unusedSimpArgs false
open Go.RowKit Go.Fl64
attribute [local go_sem] run_store_flt

/-- an interval lies in a box -/
def IvB (W : World) (g : Nat) (a b : Nat) : Prop := W.heap[g]? = some (.cells #[.float .f64 a, .float .f64 b] 24 (0, 0))
/-- its cells -/
def IvF (W : World) (g : Nat) (a b : Nat) : Prop := W.cell? ⟨g, 0, none⟩ = some (.float .f64 a) ∧ W.cell? ⟨g, 1, none⟩ = some (.float .f64 b) ∧ W.frozen? ⟨g, 0, none⟩ = false ∧ W.frozen? ⟨g, 1, none⟩ = false
theorem IvB.facts {W : World} {g a b : Nat} (h : IvB W g a b) : IvF W g a b := by
  unfold IvB at h
  simp [IvF, World.cell?, World.frozen?, h]
theorem IvB.lt {W : World} {g a b : Nat} (h : IvB W g a b) : g < W.heap.size := lt_of_box h
theorem IvB.box {W w' : World} {g a b : Nat} (h : IvB W g a b) (hb : Below W.heap.size W w') : IvB w' g a b := box_later h hb h.lt
theorem IvB.later {W w' : World} {g a b : Nat} (h : IvB W g a b) (hb : Below W.heap.size W w') : IvF w' g a b := (h.box hb).facts
theorem IvB.new (w : World) (a b : Nat) : IvB (w.alloc (.cells #[.float .f64 a, .float .f64 b] 24)) w.heap.size a b := heap_alloc_new _ _
theorem IvB.alloc {W : World} {g a b : Nat} (h : IvB W g a b) (o : Obj) : IvB (W.alloc o) g a b := h.box ((Below.refl _ _).alloc (Nat.le_refl _) _)
theorem IvB.set {W : World} {g a b : Nat} (h : IvB W g a b) (c d : Nat) : IvB ((W.setCell ⟨g, 0, none⟩ (.float .f64 c)).setCell ⟨g, 1, none⟩ (.float .f64 d)) g c d := by
  unfold IvB at *
  simp [World.setCell, Array.getElem?_modify, h]
theorem below_store2 {B : Nat} {w w' : World} {g : Nat} (h : Below B w w') (hg : B ≤ g) (a b : Value) : Below B w ((w'.setCell ⟨g, 0, none⟩ a).setCell ⟨g, 1, none⟩ b) :=
  (h.setCell hg _).setCell hg _
theorem bxs1_0 (w : World) (a b : Nat) : Below w.heap.size w (w.alloc (.cells #[.float .f64 a, .float .f64 b] 24)) := (Below.refl _ _).alloc (Nat.le_refl _) _
theorem bxs1_1 (w : World) (a b : Nat) : IvB (w.alloc (.cells #[.float .f64 a, .float .f64 b] 24)) w.heap.size a b := IvB.new w a b
theorem bxs2_0 (w : World) (a b c d : Nat) : Below w.heap.size w ((w.alloc (.cells #[.float .f64 a, .float .f64 b] 24)).alloc (.cells #[.float .f64 c, .float .f64 d] 24)) := (bxs1_0 w a b).alloc (bxs1_0 w a b).size _
theorem bxs2_1 (w : World) (a b c d : Nat) : IvB ((w.alloc (.cells #[.float .f64 a, .float .f64 b] 24)).alloc (.cells #[.float .f64 c, .float .f64 d] 24)) w.heap.size a b := (bxs1_1 w a b).alloc _
theorem bxs2_2 (w : World) (a b c d : Nat) : IvB ((w.alloc (.cells #[.float .f64 a, .float .f64 b] 24)).alloc (.cells #[.float .f64 c, .float .f64 d] 24)) (w.heap.size + 1) c d := by
  have := IvB.new (w.alloc (.cells #[.float .f64 a, .float .f64 b] 24)) c d
  simpa using this
theorem bxs3_0 (w : World) (a b c d e f : Nat) : Below w.heap.size w (((w.alloc (.cells #[.float .f64 a, .float .f64 b] 24)).alloc (.cells #[.float .f64 c, .float .f64 d] 24)).alloc (.cells #[.float .f64 e, .float .f64 f] 24)) := (bxs2_0 w a b c d).alloc (bxs2_0 w a b c d).size _
theorem bxs3_1 (w : World) (a b c d e f : Nat) : IvB (((w.alloc (.cells #[.float .f64 a, .float .f64 b] 24)).alloc (.cells #[.float .f64 c, .float .f64 d] 24)).alloc (.cells #[.float .f64 e, .float .f64 f] 24)) w.heap.size a b := (bxs2_1 w a b c d).alloc _
theorem bxs3_2 (w : World) (a b c d e f : Nat) : IvB (((w.alloc (.cells #[.float .f64 a, .float .f64 b] 24)).alloc (.cells #[.float .f64 c, .float .f64 d] 24)).alloc (.cells #[.float .f64 e, .float .f64 f] 24)) (w.heap.size + 1) c d := (bxs2_2 w a b c d).alloc _
theorem bxs3_3 (w : World) (a b c d e f : Nat) : IvB (((w.alloc (.cells #[.float .f64 a, .float .f64 b] 24)).alloc (.cells #[.float .f64 c, .float .f64 d] 24)).alloc (.cells #[.float .f64 e, .float .f64 f] 24)) (w.heap.size + 1 + 1) e f := by
  have := IvB.new ((w.alloc (.cells #[.float .f64 a, .float .f64 b] 24)).alloc (.cells #[.float .f64 c, .float .f64 d] 24)) e f
  simpa using this

theorem vI_nn {a b : Nat} (h : vI a b = true) : isNaN a = false ∧ isNaN b = false := by
  unfold vI le at h
  simp only [Bool.and_eq_true, Bool.not_eq_true'] at h
  exact h.1.1.1.1.1
end Go.Proofs.YtcoclopllbfjcaaGreatDoor
/- Meet and Hull on both sides. -/
namespace Go.Proofs.YtcoclopllbfjcaaGreatDoor
set_option linter.unusedVariables false
set_option linter.unusedSimpArgs false
open Go.RowKit Go.Fl64
attribute [local go_sem] run_store_flt

/-- an interval and a word, or none -/
def orV (ok : Bool) (x y : Nat) (g h : Value) : Value := if ok then .tuple #[.agg #[.float .f64 x, .float .f64 y], g] else .tuple #[.agg #[.float .f64 0, .float .f64 0], h]
end Go.Proofs.YtcoclopllbfjcaaGreatDoor
/- The law's like, same, of. -/
namespace Go.Proofs.YtcoclopllbfjcaaGreatDoor
set_option linter.unusedVariables false
set_option linter.unusedSimpArgs false
open Go.RowKit Go.Fl64
attribute [local go_sem] run_store_flt

theorem dLike_self (x : Nat) (hx : x < 18446744073709551616) (w : World) :
    Calls Tryz.prog 95 #[.float .f64 x, .float .f64 x] w fun r w' => r = .returned (.bool true) ∧ w' = w := by
  have hb := Ie.run_bits
  have e := self_ne x hx
  cases hn : isNaN x
  · rw [hn] at e
    go_enter Tryz.func95, Tryz.ntmps95
    go_wp2
    go_ret
    exact ⟨by simp, rfl⟩
  · rw [hn] at e
    go_enter Tryz.func95, Tryz.ntmps95
    go_wp2
    go_ret
    exact ⟨rfl, rfl⟩
theorem llike_self (x : Nat) (hx : x < 18446744073709551616) (w : World) :
    Calls Tryz.prog 49 #[.float .f64 x, .float .f64 x] w fun r w' => r = .returned (.bool true) ∧ w' = w := by
  have k := dLike_self x hx
  go_enter Tryz.func49, Tryz.ntmps49
  go_wp2_with (first | (go_at_call 95; refine (k _).mono ?_; rintro r w' ⟨rfl, rfl⟩))
  go_ret
  exact ⟨rfl, rfl⟩
theorem isame (x y : Nat) (hx : x < 18446744073709551616) (hy : y < 18446744073709551616) (w : World) :
    Calls Tryz.prog 12 #[.agg #[.float .f64 x, .float .f64 y], .agg #[.float .f64 x, .float .f64 y]] w fun r w' => r = .returned (.bool true) ∧ Below w.heap.size w w' := by
  have k1 := llike_self x hx
  have k2 := llike_self y hy
  go_enter Tryz.func12, Tryz.ntmps12
  go_wp2_with (first | (go_at_call 49; first | (with_reducible refine (k1 _).mono ?_; rintro r w' ⟨rfl, rfl⟩) | (with_reducible refine (k2 _).mono ?_; rintro r w' ⟨rfl, rfl⟩)))
  go_ret
  exact ⟨rfl, bxs2_0 w _ _ _ _⟩
theorem lof (a b : Nat) (w : World) : Calls Tryz.prog 50 #[.float .f64 a, .float .f64 b] w fun r w' => r = .returned (.agg #[.float .f64 a, .float .f64 b]) ∧ Below w.heap.size w w' := by
  go_enter Tryz.func50, Tryz.ntmps50
  go_wp2
  refine bodyPost_ret (results_cell_row rfl _ _ w.heap.size 24 #[.float .f64 a, .float .f64 b] (0, 0) _ rfl (heap_alloc_new _ _) Tryz.underlying24 rfl iv_info) rfl ?_
  exact ⟨rfl, (Below.refl _ _).alloc (Nat.le_refl _) _⟩
theorem sorn (a : Nat) (ha : a < 18446744073709551616) (w : World) :
    Calls Tryz.prog 79 #[.float .f64 a] w fun r w' => r = .returned (.float .f64 (if isNaN a then 0 else a)) ∧ w' = w := by
  have e := self_ne a ha
  cases hn : isNaN a
  · rw [hn] at e
    go_enter Tryz.func79, Tryz.ntmps79
    go_wp2
    go_ret
    exact ⟨rfl, rfl⟩
  · rw [hn] at e
    go_enter Tryz.func79, Tryz.ntmps79
    go_wp2
    go_ret
    exact ⟨rfl, rfl⟩
theorem spairs (a b c d : Nat) (w : World) : Calls Tryz.prog 34 #[.agg #[.float .f64 a, .float .f64 b], .agg #[.float .f64 c, .float .f64 d]] w fun r w' =>
    r = .returned (.agg #[.float .f64 a, .float .f64 c, .float .f64 a, .float .f64 d, .float .f64 b, .float .f64 c, .float .f64 b, .float .f64 d]) ∧ Below w.heap.size w w' := by
  go_enter Tryz.func34, Tryz.ntmps34
  go_wp2
  have hn := heap_alloc_new ((w.alloc (.cells #[.float .f64 a, .float .f64 b] 24)).alloc (.cells #[.float .f64 c, .float .f64 d] 24)) (.cells #[.float .f64 a, .float .f64 c, .float .f64 a, .float .f64 d, .float .f64 b, .float .f64 c, .float .f64 b, .float .f64 d] 56)
  refine bodyPost_ret (results_cell_row rfl _ _ (w.heap.size + 1 + 1) 56 #[.float .f64 a, .float .f64 c, .float .f64 a, .float .f64 d, .float .f64 b, .float .f64 c, .float .f64 b, .float .f64 d] (0, 0) _ rfl (by simpa using hn) (show Tryz.prog.underlying 56 = some (.array 4 54) by kernel_rfl) rfl (by kernel_rfl)) rfl ?_
  exact ⟨rfl, (bxs2_0 w a b c d).alloc (bxs2_0 w a b c d).size _⟩
end Go.Proofs.YtcoclopllbfjcaaGreatDoor
/- Mul and Quo, walked. -/
namespace Go.Proofs.YtcoclopllbfjcaaGreatDoor
set_option linter.unusedVariables false
set_option linter.unusedSimpArgs false
open Go.RowKit Go.Fl64
attribute [local go_sem] run_store_flt

set_option maxHeartbeats 4000000 in
set_option maxRecDepth 200000 in
theorem smul_1 (a b c d x y : Nat) (v : Bool) (w : World)
    (k1 : ∀ W g T, W.heap[g]? = some (.cells #[.float .f64 a, .float .f64 b, .float .f64 c, .float .f64 d] T (0, 0)) → Calls Tryz.prog 33 #[.slice (some ⟨g, 0, none⟩) 2 2] W fun r w' => r = .returned (.bool v) ∧ Below W.heap.size W w')
    (k2 : v = true → ∀ W, Below w.heap.size w W → Calls Tryz.prog 35 #[.agg #[.float .f64 a, .float .f64 c, .float .f64 a, .float .f64 d, .float .f64 b, .float .f64 c, .float .f64 b, .float .f64 d], .func (.func 36) #[] #[]] W fun r w' => r = .returned (.agg #[.float .f64 x, .float .f64 y]) ∧ Below W.heap.size W w') :
    Calls Tryz.prog 8 #[.agg #[.float .f64 a, .float .f64 b], .agg #[.float .f64 c, .float .f64 d]] w fun r w' => r = .returned (orV v x y (.int .i64 0) (.int .i64 1)) ∧ Below w.heap.size w w' := by
  have H1 : Hid (∀ W g T, W.heap[g]? = some (.cells #[.float .f64 a, .float .f64 b, .float .f64 c, .float .f64 d] T (0, 0)) → Calls Tryz.prog 33 #[.slice (some ⟨g, 0, none⟩) 2 2] W fun r w' => r = .returned (.bool v) ∧ Below W.heap.size W w') := k1
  have H2 : Hid (v = true → ∀ W, Below w.heap.size w W → Calls Tryz.prog 35 #[.agg #[.float .f64 a, .float .f64 c, .float .f64 a, .float .f64 d, .float .f64 b, .float .f64 c, .float .f64 b, .float .f64 d], .func (.func 36) #[] #[]] W fun r w' => r = .returned (.agg #[.float .f64 x, .float .f64 y]) ∧ Below W.heap.size W w') := k2
  obtain ⟨W, hW⟩ : ∃ W, W = (((w.alloc (.cells #[.float .f64 a, .float .f64 b] 24)).alloc (.cells #[.float .f64 c, .float .f64 d] 24)).alloc (.cells #[.float .f64 0, .float .f64 0] 24)) := ⟨_, rfl⟩
  have HX : Hid (Below w.heap.size w W ∧ IvB W (w.heap.size) a b ∧ IvB W (w.heap.size + 1) c d ∧ IvB W (w.heap.size + 1 + 1) 0 0) := by
    rw [hW]
    exact ⟨bxs3_0 w a b c d 0 0, bxs3_1 w a b c d 0 0, bxs3_2 w a b c d 0 0, bxs3_3 w a b c d 0 0⟩
  have HK : Hid (∀ w', Below W.heap.size W w' → IvF w' (w.heap.size) a b ∧ IvF w' (w.heap.size + 1) c d ∧ IvF w' (w.heap.size + 1 + 1) 0 0) := fun w' hb => ⟨(HX.out.2.1).later hb, (HX.out.2.2.1).later hb, (HX.out.2.2.2).later hb⟩
  obtain ⟨⟨c0, c1, z0, z1⟩, ⟨c2, c3, z2, z3⟩, ⟨c4, c5, z4, z5⟩⟩ := HK.out W (Below.refl _ _)
  have kk := H1.out (W.alloc (.cells #[.float .f64 a, .float .f64 b, .float .f64 c, .float .f64 d] 24)) W.heap.size _ (heap_alloc_new _ _)
  clear k1 k2 H1
  go_enter Tryz.func8, Tryz.ntmps8
  go_upto_region 1 with fail
  rw [← hW]
  clear hW
  go_wp2_with fail
  refine kk.mono ?_
  rintro r w1 ⟨rfl, hb1⟩
  clear kk
  have hb2 : Below W.heap.size W w1 := ((Below.refl _ _).alloc (Nat.le_refl _) _).trans (hb1.mono (by simp))
  clear c0 c1 c2 c3 c4 c5 z0 z1 z2 z3 z4 z5
  obtain ⟨⟨c0, c1, z0, z1⟩, ⟨c2, c3, z2, z3⟩, ⟨c4, c5, z4, z5⟩⟩ := HK.out w1 hb2
  cases v
  · have HB : Hid (Below w.heap.size w w1) := HX.out.1.trans (hb2.mono HX.out.1.size)
    have HR : Hid (IvB w1 (w.heap.size + 1 + 1) 0 0) := HX.out.2.2.2.box hb2
    clear hb1 hb2 HK HX H2
    go_wp2
    refine bodyPost_ret (results_cell_tmp_row rfl _ _ (w.heap.size + 1 + 1) 24 #[.float .f64 0, .float .f64 0] (0, 0) _ rfl (HR.out.set _ _) Tryz.underlying24 rfl iv_info) rfl ?_
    exact ⟨rfl, below_store2 HB.out (by omega) _ _⟩
  have kp := spairs a b c d w1
  have HB1 : Hid (Below W.heap.size W w1) := hb2
  clear hb1 hb2
  go_wp2_with fail
  refine kp.mono ?_
  rintro r w2 ⟨rfl, hb2⟩
  have hb3 : Below W.heap.size W w2 := HB1.out.trans (hb2.mono HB1.out.size)
  clear c0 c1 c2 c3 c4 c5 z0 z1 z2 z3 z4 z5 kp HB1
  have ks := H2.out (by simp) w2 (HX.out.1.trans (hb3.mono HX.out.1.size))
  have HB3 : Hid (Below W.heap.size W w2) := hb3
  clear hb2 hb3 H2
  go_wp2_with fail
  refine ks.mono ?_
  rintro r w3 ⟨rfl, hb4⟩
  have hb5 : Below W.heap.size W w3 := HB3.out.trans (hb4.mono HB3.out.size)
  obtain ⟨⟨c0, c1, z0, z1⟩, ⟨c2, c3, z2, z3⟩, ⟨c4, c5, z4, z5⟩⟩ := HK.out w3 hb5
  have HB : Hid (Below w.heap.size w w3) := HX.out.1.trans (hb5.mono HX.out.1.size)
  have HR : Hid (IvB w3 (w.heap.size + 1 + 1) 0 0) := HX.out.2.2.2.box hb5
  clear ks hb4 hb5 HK HX HB3
  go_wp2
  refine bodyPost_ret (results_cell_tmp_row rfl _ _ (w.heap.size + 1 + 1) 24 #[.float .f64 x, .float .f64 y] (0, 0) _ rfl (HR.out.set _ _) Tryz.underlying24 rfl iv_info) rfl ?_
  exact ⟨rfl, below_store2 HB.out (by omega) _ _⟩
/-- a quotient's answer, or an error -/
def quoV (v z : Bool) (x y : Nat) : Value := if v then (if z then .tuple #[.agg #[.float .f64 0, .float .f64 0], .int .i64 6] else .tuple #[.agg #[.float .f64 x, .float .f64 y], .int .i64 0]) else .tuple #[.agg #[.float .f64 0, .float .f64 0], .int .i64 1]
set_option maxHeartbeats 4000000 in
set_option maxRecDepth 200000 in
theorem squo_1 (a b c d x y : Nat) (v z : Bool) (w : World)
    (k1 : ∀ W g T, W.heap[g]? = some (.cells #[.float .f64 a, .float .f64 b, .float .f64 c, .float .f64 d] T (0, 0)) → Calls Tryz.prog 33 #[.slice (some ⟨g, 0, none⟩) 2 2] W fun r w' => r = .returned (.bool v) ∧ Below W.heap.size W w')
    (k2 : v = true → z = false → ∀ W, Below w.heap.size w W → Calls Tryz.prog 35 #[.agg #[.float .f64 a, .float .f64 c, .float .f64 a, .float .f64 d, .float .f64 b, .float .f64 c, .float .f64 b, .float .f64 d], .func (.func 43) #[] #[]] W fun r w' => r = .returned (.agg #[.float .f64 x, .float .f64 y]) ∧ Below W.heap.size W w')
    (k3 : v = true → ∀ W, Calls Tryz.prog 42 #[.agg #[.float .f64 c, .float .f64 d], .float .f64 0] W fun r w' => r = .returned (.bool z) ∧ Below W.heap.size W w') :
    Calls Tryz.prog 10 #[.agg #[.float .f64 a, .float .f64 b], .agg #[.float .f64 c, .float .f64 d]] w fun r w' => r = .returned (quoV v z x y) ∧ Below w.heap.size w w' := by
  have H1 : Hid (∀ W g T, W.heap[g]? = some (.cells #[.float .f64 a, .float .f64 b, .float .f64 c, .float .f64 d] T (0, 0)) → Calls Tryz.prog 33 #[.slice (some ⟨g, 0, none⟩) 2 2] W fun r w' => r = .returned (.bool v) ∧ Below W.heap.size W w') := k1
  have H2 : Hid (v = true → z = false → ∀ W, Below w.heap.size w W → Calls Tryz.prog 35 #[.agg #[.float .f64 a, .float .f64 c, .float .f64 a, .float .f64 d, .float .f64 b, .float .f64 c, .float .f64 b, .float .f64 d], .func (.func 43) #[] #[]] W fun r w' => r = .returned (.agg #[.float .f64 x, .float .f64 y]) ∧ Below W.heap.size W w') := k2
  have H3 : Hid (v = true → ∀ W, Calls Tryz.prog 42 #[.agg #[.float .f64 c, .float .f64 d], .float .f64 0] W fun r w' => r = .returned (.bool z) ∧ Below W.heap.size W w') := k3
  obtain ⟨W, hW⟩ : ∃ W, W = (((w.alloc (.cells #[.float .f64 a, .float .f64 b] 24)).alloc (.cells #[.float .f64 c, .float .f64 d] 24)).alloc (.cells #[.float .f64 0, .float .f64 0] 24)) := ⟨_, rfl⟩
  have HX : Hid (Below w.heap.size w W ∧ IvB W (w.heap.size) a b ∧ IvB W (w.heap.size + 1) c d ∧ IvB W (w.heap.size + 1 + 1) 0 0) := by
    rw [hW]
    exact ⟨bxs3_0 w a b c d 0 0, bxs3_1 w a b c d 0 0, bxs3_2 w a b c d 0 0, bxs3_3 w a b c d 0 0⟩
  have HK : Hid (∀ w', Below W.heap.size W w' → IvF w' (w.heap.size) a b ∧ IvF w' (w.heap.size + 1) c d ∧ IvF w' (w.heap.size + 1 + 1) 0 0) := fun w' hb => ⟨(HX.out.2.1).later hb, (HX.out.2.2.1).later hb, (HX.out.2.2.2).later hb⟩
  obtain ⟨⟨c0, c1, z0, z1⟩, ⟨c2, c3, z2, z3⟩, ⟨c4, c5, z4, z5⟩⟩ := HK.out W (Below.refl _ _)
  have kk := H1.out (W.alloc (.cells #[.float .f64 a, .float .f64 b, .float .f64 c, .float .f64 d] 24)) W.heap.size _ (heap_alloc_new _ _)
  clear k1 k2 k3 H1
  go_enter Tryz.func10, Tryz.ntmps10
  go_upto_region 1 with fail
  rw [← hW]
  clear hW
  go_wp2_with fail
  refine kk.mono ?_
  rintro r w1 ⟨rfl, hb1⟩
  clear kk
  have hb2 : Below W.heap.size W w1 := ((Below.refl _ _).alloc (Nat.le_refl _) _).trans (hb1.mono (by simp))
  clear c0 c1 c2 c3 c4 c5 z0 z1 z2 z3 z4 z5
  obtain ⟨⟨c0, c1, z0, z1⟩, ⟨c2, c3, z2, z3⟩, ⟨c4, c5, z4, z5⟩⟩ := HK.out w1 hb2
  cases v
  · have HB : Hid (Below w.heap.size w w1) := HX.out.1.trans (hb2.mono HX.out.1.size)
    have HR : Hid (IvB w1 (w.heap.size + 1 + 1) 0 0) := HX.out.2.2.2.box hb2
    clear hb1 hb2 HK HX H2 H3
    go_wp2
    refine bodyPost_ret (results_cell_tmp_row rfl _ _ (w.heap.size + 1 + 1) 24 #[.float .f64 0, .float .f64 0] (0, 0) _ rfl (HR.out.set _ _) Tryz.underlying24 rfl iv_info) rfl ?_
    exact ⟨rfl, below_store2 HB.out (by omega) _ _⟩
  have kh := H3.out (by simp) w1
  have HB1 : Hid (Below W.heap.size W w1) := hb2
  clear hb1 hb2 H3
  go_wp2_with fail
  refine kh.mono ?_
  rintro r w2 ⟨rfl, hb2⟩
  have hb3 : Below W.heap.size W w2 := HB1.out.trans (hb2.mono HB1.out.size)
  clear c0 c1 c2 c3 c4 c5 z0 z1 z2 z3 z4 z5 kh HB1
  obtain ⟨⟨c0, c1, z0, z1⟩, ⟨c2, c3, z2, z3⟩, ⟨c4, c5, z4, z5⟩⟩ := HK.out w2 hb3
  cases z
  case true =>
    have HB : Hid (Below w.heap.size w w2) := HX.out.1.trans (hb3.mono HX.out.1.size)
    have HR : Hid (IvB w2 (w.heap.size + 1 + 1) 0 0) := HX.out.2.2.2.box hb3
    clear hb2 hb3 HK HX H2
    go_wp2
    refine bodyPost_ret (results_cell_tmp_row rfl _ _ (w.heap.size + 1 + 1) 24 #[.float .f64 0, .float .f64 0] (0, 0) _ rfl (HR.out.set _ _) Tryz.underlying24 rfl iv_info) rfl ?_
    exact ⟨rfl, below_store2 HB.out (by omega) _ _⟩
  have kp := spairs a b c d w2
  have HB1 : Hid (Below W.heap.size W w2) := hb3
  clear hb2 hb3
  go_wp2_with fail
  refine kp.mono ?_
  rintro r w3 ⟨rfl, hb2⟩
  have hb3 : Below W.heap.size W w3 := HB1.out.trans (hb2.mono HB1.out.size)
  clear c0 c1 c2 c3 c4 c5 z0 z1 z2 z3 z4 z5 kp HB1
  have ks := H2.out (by simp) (by simp) w3 (HX.out.1.trans (hb3.mono HX.out.1.size))
  have HB3 : Hid (Below W.heap.size W w3) := hb3
  clear hb2 hb3 H2
  go_wp2_with fail
  refine ks.mono ?_
  rintro r w4 ⟨rfl, hb4⟩
  have hb5 : Below W.heap.size W w4 := HB3.out.trans (hb4.mono HB3.out.size)
  obtain ⟨⟨c0, c1, z0, z1⟩, ⟨c2, c3, z2, z3⟩, ⟨c4, c5, z4, z5⟩⟩ := HK.out w4 hb5
  have HB : Hid (Below w.heap.size w w4) := HX.out.1.trans (hb5.mono HX.out.1.size)
  have HR : Hid (IvB w4 (w.heap.size + 1 + 1) 0 0) := HX.out.2.2.2.box hb5
  clear ks hb4 hb5 HK HX HB3
  go_wp2
  refine bodyPost_ret (results_cell_tmp_row rfl _ _ (w.heap.size + 1 + 1) 24 #[.float .f64 x, .float .f64 y] (0, 0) _ rfl (HR.out.set _ _) Tryz.underlying24 rfl iv_info) rfl ?_
  exact ⟨rfl, below_store2 HB.out (by omega) _ _⟩
end Go.Proofs.YtcoclopllbfjcaaGreatDoor
/- spread. -/
namespace Go.Proofs.YtcoclopllbfjcaaGreatDoor
set_option linter.unusedVariables false
set_option linter.unusedSimpArgs false
open Go.RowKit Go.Fl64
attribute [local go_sem] run_store_flt

/-- the least, the greatest of the first ones -/
def lowF (D : Nat → Nat) : Nat → Nat
  | 0 => 9218868437227405312
  | n + 1 => fMin (lowF D n) (D n)
def hiF (D : Nat → Nat) : Nat → Nat
  | 0 => 18442240474082181120
  | n + 1 => fMax (hiF D n) (D n)
theorem lowF_ok {D : Nat → Nat} (h : ∀ i, D i < 18446744073709551616 ∧ isNaN (D i) = false) : ∀ n, lowF D n < 18446744073709551616 ∧ isNaN (lowF D n) = false
  | 0 => ⟨by unfold lowF; omega, by unfold lowF; decide⟩
  | n + 1 => ⟨fMin_lt (lowF_ok h n).1 (h n).1, fMin_nn (lowF_ok h n).2 (h n).2⟩
theorem hiF_ok {D : Nat → Nat} (h : ∀ i, D i < 18446744073709551616 ∧ isNaN (D i) = false) : ∀ n, hiF D n < 18446744073709551616 ∧ isNaN (hiF D n) = false
  | 0 => ⟨by unfold hiF; omega, by unfold hiF; decide⟩
  | n + 1 => ⟨fMax_lt (hiF_ok h n).1 (h n).1, fMax_nn (hiF_ok h n).2 (h n).2⟩
/-- nought in the place of a NaN -/
def onF (a : Nat) : Nat := if isNaN a then 0 else a
theorem onF_ok {a : Nat} (h : a < 18446744073709551616) : onF a < 18446744073709551616 ∧ isNaN (onF a) = false := by
  unfold onF
  cases e : isNaN a
  · exact ⟨h, e⟩
  · rw [if_pos rfl]; exact ⟨by omega, by decide⟩
theorem onF_lk {n X : Nat} (h : lk n X) : onF n = onF X := by
  rcases lk_or h with rfl | ⟨h1, h2⟩
  · rfl
  · unfold onF; rw [h1, h2]; rfl
theorem sorn_lk {n X : Nat} (h : lk n X) (w : World) : Calls Tryz.prog 79 #[.float .f64 n] w fun r w' => r = .returned (.float .f64 (onF X)) ∧ w' = w := by
  rw [← onF_lk h]
  exact sorn n h.1 w
theorem run_pairs0 (a b c d e f g h : Nat) (w : World) : (Instr.index 56 (.agg #[.float .f64 a, .float .f64 b, .float .f64 c, .float .f64 d, .float .f64 e, .float .f64 f, .float .f64 g, .float .f64 h]) (.int .i64 0)).run Tryz.prog w = .ok (.agg #[.float .f64 a, .float .f64 b]) w := by kernel_rfl
theorem run_pairs1 (a b c d e f g h : Nat) (w : World) : (Instr.index 56 (.agg #[.float .f64 a, .float .f64 b, .float .f64 c, .float .f64 d, .float .f64 e, .float .f64 f, .float .f64 g, .float .f64 h]) (.int .i64 1)).run Tryz.prog w = .ok (.agg #[.float .f64 c, .float .f64 d]) w := by kernel_rfl
theorem run_pairs2 (a b c d e f g h : Nat) (w : World) : (Instr.index 56 (.agg #[.float .f64 a, .float .f64 b, .float .f64 c, .float .f64 d, .float .f64 e, .float .f64 f, .float .f64 g, .float .f64 h]) (.int .i64 2)).run Tryz.prog w = .ok (.agg #[.float .f64 e, .float .f64 f]) w := by kernel_rfl
theorem run_pairs3 (a b c d e f g h : Nat) (w : World) : (Instr.index 56 (.agg #[.float .f64 a, .float .f64 b, .float .f64 c, .float .f64 d, .float .f64 e, .float .f64 f, .float .f64 g, .float .f64 h]) (.int .i64 3)).run Tryz.prog w = .ok (.agg #[.float .f64 g, .float .f64 h]) w := by kernel_rfl
set_option maxHeartbeats 8000000 in
set_option maxRecDepth 200000 in
theorem sspread_Mul (X Y D E : Nat → Nat) (w : World) (hD : ∀ i, D i < 18446744073709551616) (hE : ∀ i, E i < 18446744073709551616)
    (kd : ∀ i, i < 4 → ∀ W, Below w.heap.size w W → Calls Tryz.prog 36 #[.float .f64 (X i), .float .f64 (Y i), .int .i64 1] W fun r w' => ∃ n, r = .returned (.float .f64 n) ∧ lk n (D i) ∧ Below W.heap.size W w')
    (ku : ∀ i, i < 4 → ∀ W, Below w.heap.size w W → Calls Tryz.prog 36 #[.float .f64 (X i), .float .f64 (Y i), .int .i64 3] W fun r w' => ∃ n, r = .returned (.float .f64 n) ∧ lk n (E i) ∧ Below W.heap.size W w') :
    Calls Tryz.prog 35 #[.agg #[.float .f64 (X 0), .float .f64 (Y 0), .float .f64 (X 1), .float .f64 (Y 1), .float .f64 (X 2), .float .f64 (Y 2), .float .f64 (X 3), .float .f64 (Y 3)], .func (.func 36) #[] #[]] w fun r w' => r = .returned (.agg #[.float .f64 (pl (lowF (fun i => onF (D i)) 4)), .float .f64 (pl (hiF (fun i => onF (E i)) 4))]) ∧ Below w.heap.size w w' := by
  have HD : Hid (∀ i, i < 4 → ∀ W, Below w.heap.size w W → Calls Tryz.prog 36 #[.float .f64 (X i), .float .f64 (Y i), .int .i64 1] W fun r w' => ∃ n, r = .returned (.float .f64 n) ∧ lk n (D i) ∧ Below W.heap.size W w') := kd
  have HU : Hid (∀ i, i < 4 → ∀ W, Below w.heap.size w W → Calls Tryz.prog 36 #[.float .f64 (X i), .float .f64 (Y i), .int .i64 3] W fun r w' => ∃ n, r = .returned (.float .f64 n) ∧ lk n (E i) ∧ Below W.heap.size W w') := ku
  have HLo : Hid (∀ n, lowF (fun i => onF (D i)) n < 18446744073709551616 ∧ isNaN (lowF (fun i => onF (D i)) n) = false) := lowF_ok fun i => onF_ok (hD i)
  have HHi : Hid (∀ n, hiF (fun i => onF (E i)) n < 18446744073709551616 ∧ isNaN (hiF (fun i => onF (E i)) n) = false) := hiF_ok fun i => onF_ok (hE i)
  have HDE : Hid ((∀ i, D i < 18446744073709551616) ∧ ∀ i, E i < 18446744073709551616) := ⟨hD, hE⟩
  obtain ⟨W, hW⟩ : ∃ W, W = (w.alloc (.cells #[.float .f64 (X 0), .float .f64 (Y 0), .float .f64 (X 1), .float .f64 (Y 1), .float .f64 (X 2), .float .f64 (Y 2), .float .f64 (X 3), .float .f64 (Y 3)] 56)).alloc (.cells #[.float .f64 0, .float .f64 0] 24) := ⟨_, rfl⟩
  have HX : Hid (Below w.heap.size w W ∧ W.heap[w.heap.size]? = some (.cells #[.float .f64 (X 0), .float .f64 (Y 0), .float .f64 (X 1), .float .f64 (Y 1), .float .f64 (X 2), .float .f64 (Y 2), .float .f64 (X 3), .float .f64 (Y 3)] 56 (0, 0)) ∧ IvB W (w.heap.size + 1) 0 0) := by
    rw [hW]
    refine ⟨((Below.refl _ _).alloc (Nat.le_refl _) _).alloc (by simp) _, ?_, ?_⟩
    · exact (Below.heap_alloc _ _ _ (by simp)).trans (heap_alloc_new _ _)
    · have := IvB.new (w.alloc (.cells #[.float .f64 (X 0), .float .f64 (Y 0), .float .f64 (X 1), .float .f64 (Y 1), .float .f64 (X 2), .float .f64 (Y 2), .float .f64 (X 3), .float .f64 (Y 3)] 56)) 0 0
      simpa using this
  clear kd ku hD hE
  go_enter Tryz.func35, Tryz.ntmps35
  go_upto_region 1 with fail
  rw [← hW]
  clear hW
  have hc : W.cell? ⟨w.heap.size, 0, none⟩ = some (.float .f64 (X 0)) ∧ W.cell? ⟨w.heap.size, 1, none⟩ = some (.float .f64 (Y 0)) ∧ W.cell? ⟨w.heap.size, 2, none⟩ = some (.float .f64 (X 1)) ∧ W.cell? ⟨w.heap.size, 3, none⟩ = some (.float .f64 (Y 1)) ∧ W.cell? ⟨w.heap.size, 4, none⟩ = some (.float .f64 (X 2)) ∧ W.cell? ⟨w.heap.size, 5, none⟩ = some (.float .f64 (Y 2)) ∧ W.cell? ⟨w.heap.size, 6, none⟩ = some (.float .f64 (X 3)) ∧ W.cell? ⟨w.heap.size, 7, none⟩ = some (.float .f64 (Y 3)) := by
    have := HX.out.2.1
    simp [World.cell?, this]
  obtain ⟨q0, q1, q2, q3, q4, q5, q6, q7⟩ := hc
  have hI1 : ∀ W, Calls Tryz.prog 44 #[.int .i64 1] W fun r w' => r = .returned (.float .f64 (lowF (fun i => onF (D i)) 0)) ∧ w' = W := cinf_p
  have hI2 : ∀ W, Calls Tryz.prog 44 #[.int .i64 (-1)] W fun r w' => r = .returned (.float .f64 (hiF (fun i => onF (E i)) 0)) ∧ w' = W := cinf_m
  generalize hlo : lowF (fun i => onF (D i)) = Lo at *
  generalize hhi : hiF (fun i => onF (E i)) = Hi at *
  have HlH : Hid (lowF (fun i => onF (D i)) = Lo ∧ hiF (fun i => onF (E i)) = Hi) := ⟨hlo, hhi⟩
  clear hlo hhi
  go_wp2_with (first | (go_at_call 44; first | (with_reducible refine (hI1 _).mono ?_; rintro r w' ⟨rfl, hw⟩; replace hw := hw.symm; subst hw) | (with_reducible refine (hI2 _).mono ?_; rintro r w' ⟨rfl, hw⟩; replace hw := hw.symm; subst hw)))
  clear hI1 hI2 q0 q1 q2 q3 q4 q5 q6 q7
  go_loopw [5, 6, 12] (fun lo hi i wr => ∃ j : Nat, j ≤ 4 ∧ i = .int .i64 j ∧ lo = .float .f64 (Lo j) ∧ hi = .float .f64 (Hi j) ∧ Hid (Below W.heap.size W wr)) (fun lo hi i _ => 4 - (intOf i).toNat)
  case atStart => exact ⟨0, by omega, rfl, rfl, rfl, Below.refl _ _⟩
  case round =>
    obtain ⟨j, hj, rfl, rfl, rfl, hB⟩ := hrel
    obtain ⟨W1, hW1⟩ : ∃ f : Nat → World, f = fun j => wr.alloc (.cells #[.float .f64 (X j), .float .f64 (Y j)] 54) := ⟨_, rfl⟩
    have HB1 : Hid (∀ j, (W1 j).heap[wr.heap.size]? = some (.cells #[.float .f64 (X j), .float .f64 (Y j)] 54 (0, 0))) := fun j => by rw [hW1]; exact heap_alloc_new _ _
    have HBW1 : Hid (∀ j, Below W.heap.size W (W1 j)) := fun j => by rw [hW1]; exact hB.out.alloc hB.out.size _
    have HL1 : Hid (∀ j, Lo (j + 1) = fMin (Lo j) (onF (D j)) ∧ Hi (j + 1) = fMax (Hi j) (onF (E j))) := fun j => by rw [← HlH.out.1, ← HlH.out.2]; exact ⟨rfl, rfl⟩
    rcases (show j = 0 ∨ j = 1 ∨ j = 2 ∨ j = 3 ∨ j = 4 by omega) with rfl | rfl | rfl | rfl | rfl
    · have hW1 : W1 0 = wr.alloc (.cells #[.float .f64 (X 0), .float .f64 (Y 0)] 54) := by rw [hW1]
      have hp := run_pairs0 (X 0) (Y 0) (X 1) (Y 1) (X 2) (Y 2) (X 3) (Y 3) wr
      have kd := HD.out 0 (by omega) (W1 0) (HX.out.1.trans ((HBW1.out 0).mono HX.out.1.size))
      have ⟨s0, s1⟩ := box_cells2 (HB1.out 0)
      have HB1 := HB1.out 0
      have HB1 : Hid ((W1 0).heap[wr.heap.size]? = some (.cells #[.float .f64 (X 0), .float .f64 (Y 0)] 54 (0, 0))) := HB1
      have HBW : Hid (Below W.heap.size W (W1 0)) := HBW1.out 0
      clear HBW1
      generalize W1 0 = V at *
      go_upto_region 5 with fail
      rw [← hW1]
      clear hW1
      go_wp2_with fail
      refine kd.mono ?_
      rintro r w2 ⟨n, rfl, hl, hb2⟩
      have ko := sorn_lk hl w2
      have hm := fun ts t => run_fmin (P := Tryz.prog) w2 ts t _ _ (HLo.out 0).1 (onF_ok (HDE.out.1 0)).1 (HLo.out 0).2 (onF_ok (HDE.out.1 0)).2
      rw [← (HL1.out 0).1] at hm
      obtain ⟨t0, t1⟩ := box_cells2 (box_later HB1.out hb2 (lt_of_box HB1.out))
      have HB3 : Hid (Below W.heap.size W w2) := HBW.out.trans (hb2.mono HBW.out.size)
      clear hl hb2 kd s0 s1 HBW HB1
      have ku := HU.out 0 (by omega) w2 (HX.out.1.trans (HB3.out.mono HX.out.1.size))
      generalize onF (D 0) = d0 at *
      go_wp2_with fail
      refine ko.mono ?_
      rintro r w3 ⟨rfl, hw⟩
      replace hw := hw.symm
      subst hw
      clear ko
      go_wp2_with fail
      refine ku.mono ?_
      rintro r w3 ⟨n2, rfl, hl, hb2⟩
      have ko := sorn_lk hl w3
      clear hm
      have hm := fun ts t => run_fmax (P := Tryz.prog) w3 ts t _ _ (HHi.out 0).1 (onF_ok (HDE.out.2 0)).1 (HHi.out 0).2 (onF_ok (HDE.out.2 0)).2
      rw [← (HL1.out 0).2] at hm
      have HB4 : Hid (Below W.heap.size W w3) := HB3.out.trans (hb2.mono HB3.out.size)
      clear hl hb2 ku t0 t1 HB3
      generalize onF (E 0) = e0 at *
      go_wp2_with fail
      refine ko.mono ?_
      rintro r w4 ⟨rfl, hw⟩
      replace hw := hw.symm
      subst hw
      clear ko
      go_wp2_with fail
      exact ⟨⟨0 + 1, by omega, rfl, rfl, rfl, HB4⟩, by simp [intOf]⟩
    · have hW1 : W1 1 = wr.alloc (.cells #[.float .f64 (X 1), .float .f64 (Y 1)] 54) := by rw [hW1]
      have hp := run_pairs1 (X 0) (Y 0) (X 1) (Y 1) (X 2) (Y 2) (X 3) (Y 3) wr
      have kd := HD.out 1 (by omega) (W1 1) (HX.out.1.trans ((HBW1.out 1).mono HX.out.1.size))
      have ⟨s0, s1⟩ := box_cells2 (HB1.out 1)
      have HB1 := HB1.out 1
      have HB1 : Hid ((W1 1).heap[wr.heap.size]? = some (.cells #[.float .f64 (X 1), .float .f64 (Y 1)] 54 (0, 0))) := HB1
      have HBW : Hid (Below W.heap.size W (W1 1)) := HBW1.out 1
      clear HBW1
      generalize W1 1 = V at *
      go_upto_region 5 with fail
      rw [← hW1]
      clear hW1
      go_wp2_with fail
      refine kd.mono ?_
      rintro r w2 ⟨n, rfl, hl, hb2⟩
      have ko := sorn_lk hl w2
      have hm := fun ts t => run_fmin (P := Tryz.prog) w2 ts t _ _ (HLo.out 1).1 (onF_ok (HDE.out.1 1)).1 (HLo.out 1).2 (onF_ok (HDE.out.1 1)).2
      rw [← (HL1.out 1).1] at hm
      obtain ⟨t0, t1⟩ := box_cells2 (box_later HB1.out hb2 (lt_of_box HB1.out))
      have HB3 : Hid (Below W.heap.size W w2) := HBW.out.trans (hb2.mono HBW.out.size)
      clear hl hb2 kd s0 s1 HBW HB1
      have ku := HU.out 1 (by omega) w2 (HX.out.1.trans (HB3.out.mono HX.out.1.size))
      generalize onF (D 1) = d0 at *
      go_wp2_with fail
      refine ko.mono ?_
      rintro r w3 ⟨rfl, hw⟩
      replace hw := hw.symm
      subst hw
      clear ko
      go_wp2_with fail
      refine ku.mono ?_
      rintro r w3 ⟨n2, rfl, hl, hb2⟩
      have ko := sorn_lk hl w3
      clear hm
      have hm := fun ts t => run_fmax (P := Tryz.prog) w3 ts t _ _ (HHi.out 1).1 (onF_ok (HDE.out.2 1)).1 (HHi.out 1).2 (onF_ok (HDE.out.2 1)).2
      rw [← (HL1.out 1).2] at hm
      have HB4 : Hid (Below W.heap.size W w3) := HB3.out.trans (hb2.mono HB3.out.size)
      clear hl hb2 ku t0 t1 HB3
      generalize onF (E 1) = e0 at *
      go_wp2_with fail
      refine ko.mono ?_
      rintro r w4 ⟨rfl, hw⟩
      replace hw := hw.symm
      subst hw
      clear ko
      go_wp2_with fail
      exact ⟨⟨1 + 1, by omega, rfl, rfl, rfl, HB4⟩, by simp [intOf]⟩
    · have hW1 : W1 2 = wr.alloc (.cells #[.float .f64 (X 2), .float .f64 (Y 2)] 54) := by rw [hW1]
      have hp := run_pairs2 (X 0) (Y 0) (X 1) (Y 1) (X 2) (Y 2) (X 3) (Y 3) wr
      have kd := HD.out 2 (by omega) (W1 2) (HX.out.1.trans ((HBW1.out 2).mono HX.out.1.size))
      have ⟨s0, s1⟩ := box_cells2 (HB1.out 2)
      have HB1 := HB1.out 2
      have HB1 : Hid ((W1 2).heap[wr.heap.size]? = some (.cells #[.float .f64 (X 2), .float .f64 (Y 2)] 54 (0, 0))) := HB1
      have HBW : Hid (Below W.heap.size W (W1 2)) := HBW1.out 2
      clear HBW1
      generalize W1 2 = V at *
      go_upto_region 5 with fail
      rw [← hW1]
      clear hW1
      go_wp2_with fail
      refine kd.mono ?_
      rintro r w2 ⟨n, rfl, hl, hb2⟩
      have ko := sorn_lk hl w2
      have hm := fun ts t => run_fmin (P := Tryz.prog) w2 ts t _ _ (HLo.out 2).1 (onF_ok (HDE.out.1 2)).1 (HLo.out 2).2 (onF_ok (HDE.out.1 2)).2
      rw [← (HL1.out 2).1] at hm
      obtain ⟨t0, t1⟩ := box_cells2 (box_later HB1.out hb2 (lt_of_box HB1.out))
      have HB3 : Hid (Below W.heap.size W w2) := HBW.out.trans (hb2.mono HBW.out.size)
      clear hl hb2 kd s0 s1 HBW HB1
      have ku := HU.out 2 (by omega) w2 (HX.out.1.trans (HB3.out.mono HX.out.1.size))
      generalize onF (D 2) = d0 at *
      go_wp2_with fail
      refine ko.mono ?_
      rintro r w3 ⟨rfl, hw⟩
      replace hw := hw.symm
      subst hw
      clear ko
      go_wp2_with fail
      refine ku.mono ?_
      rintro r w3 ⟨n2, rfl, hl, hb2⟩
      have ko := sorn_lk hl w3
      clear hm
      have hm := fun ts t => run_fmax (P := Tryz.prog) w3 ts t _ _ (HHi.out 2).1 (onF_ok (HDE.out.2 2)).1 (HHi.out 2).2 (onF_ok (HDE.out.2 2)).2
      rw [← (HL1.out 2).2] at hm
      have HB4 : Hid (Below W.heap.size W w3) := HB3.out.trans (hb2.mono HB3.out.size)
      clear hl hb2 ku t0 t1 HB3
      generalize onF (E 2) = e0 at *
      go_wp2_with fail
      refine ko.mono ?_
      rintro r w4 ⟨rfl, hw⟩
      replace hw := hw.symm
      subst hw
      clear ko
      go_wp2_with fail
      exact ⟨⟨2 + 1, by omega, rfl, rfl, rfl, HB4⟩, by simp [intOf]⟩
    · have hW1 : W1 3 = wr.alloc (.cells #[.float .f64 (X 3), .float .f64 (Y 3)] 54) := by rw [hW1]
      have hp := run_pairs3 (X 0) (Y 0) (X 1) (Y 1) (X 2) (Y 2) (X 3) (Y 3) wr
      have kd := HD.out 3 (by omega) (W1 3) (HX.out.1.trans ((HBW1.out 3).mono HX.out.1.size))
      have ⟨s0, s1⟩ := box_cells2 (HB1.out 3)
      have HB1 := HB1.out 3
      have HB1 : Hid ((W1 3).heap[wr.heap.size]? = some (.cells #[.float .f64 (X 3), .float .f64 (Y 3)] 54 (0, 0))) := HB1
      have HBW : Hid (Below W.heap.size W (W1 3)) := HBW1.out 3
      clear HBW1
      generalize W1 3 = V at *
      go_upto_region 5 with fail
      rw [← hW1]
      clear hW1
      go_wp2_with fail
      refine kd.mono ?_
      rintro r w2 ⟨n, rfl, hl, hb2⟩
      have ko := sorn_lk hl w2
      have hm := fun ts t => run_fmin (P := Tryz.prog) w2 ts t _ _ (HLo.out 3).1 (onF_ok (HDE.out.1 3)).1 (HLo.out 3).2 (onF_ok (HDE.out.1 3)).2
      rw [← (HL1.out 3).1] at hm
      obtain ⟨t0, t1⟩ := box_cells2 (box_later HB1.out hb2 (lt_of_box HB1.out))
      have HB3 : Hid (Below W.heap.size W w2) := HBW.out.trans (hb2.mono HBW.out.size)
      clear hl hb2 kd s0 s1 HBW HB1
      have ku := HU.out 3 (by omega) w2 (HX.out.1.trans (HB3.out.mono HX.out.1.size))
      generalize onF (D 3) = d0 at *
      go_wp2_with fail
      refine ko.mono ?_
      rintro r w3 ⟨rfl, hw⟩
      replace hw := hw.symm
      subst hw
      clear ko
      go_wp2_with fail
      refine ku.mono ?_
      rintro r w3 ⟨n2, rfl, hl, hb2⟩
      have ko := sorn_lk hl w3
      clear hm
      have hm := fun ts t => run_fmax (P := Tryz.prog) w3 ts t _ _ (HHi.out 3).1 (onF_ok (HDE.out.2 3)).1 (HHi.out 3).2 (onF_ok (HDE.out.2 3)).2
      rw [← (HL1.out 3).2] at hm
      have HB4 : Hid (Below W.heap.size W w3) := HB3.out.trans (hb2.mono HB3.out.size)
      clear hl hb2 ku t0 t1 HB3
      generalize onF (E 3) = e0 at *
      go_wp2_with fail
      refine ko.mono ?_
      rintro r w4 ⟨rfl, hw⟩
      replace hw := hw.symm
      subst hw
      clear ko
      go_wp2_with fail
      exact ⟨⟨3 + 1, by omega, rfl, rfl, rfl, HB4⟩, by simp [intOf]⟩
    · have kb := sbetween (Lo 4) (Hi 4) wr (HLo.out 4).1 (HHi.out 4).1
      have HR : Hid (IvB wr (w.heap.size + 1) 0 0) := HX.out.2.2.box hB.out
      have HBw : Hid (Below w.heap.size w wr) := HX.out.1.trans (hB.out.mono HX.out.1.size)
      clear HB1 HBW1 hW1
      go_wp2_with fail
      refine kb.mono ?_
      rintro r w2 ⟨rfl, hb2⟩
      have hR2 : IvB w2 (w.heap.size + 1) 0 0 := HR.out.box hb2
      obtain ⟨y0, y1, y2, y3⟩ := hR2.facts
      have HR : Hid (IvB w2 (w.heap.size + 1) 0 0) := hR2
      have HB2 : Hid (Below w.heap.size w w2) := HBw.out.trans (hb2.mono HBw.out.size)
      clear hb2 hR2 kb
      generalize hA : pl (Lo 4) = A at *
      generalize hC : pl (Hi 4) = C at *
      have HAC : Hid (pl (Lo 4) = A ∧ pl (Hi 4) = C) := ⟨hA, hC⟩
      clear hA hC
      go_wp2_with fail
      refine bodyPost_ret (results_cell_row rfl _ _ (w.heap.size + 1) 24 #[.float .f64 A, .float .f64 C] (0, 0) _ rfl (HR.out.set _ _) Tryz.underlying24 rfl iv_info) rfl ?_
      exact ⟨by rw [HlH.out.1, HlH.out.2, HAC.out.1, HAC.out.2], below_store2 HB2.out (by omega) _ _⟩
set_option maxHeartbeats 8000000 in
set_option maxRecDepth 200000 in
theorem sspread_Div (X Y D E : Nat → Nat) (w : World) (hD : ∀ i, D i < 18446744073709551616) (hE : ∀ i, E i < 18446744073709551616)
    (kd : ∀ i, i < 4 → ∀ W, Below w.heap.size w W → Calls Tryz.prog 43 #[.float .f64 (X i), .float .f64 (Y i), .int .i64 1] W fun r w' => ∃ n, r = .returned (.float .f64 n) ∧ lk n (D i) ∧ Below W.heap.size W w')
    (ku : ∀ i, i < 4 → ∀ W, Below w.heap.size w W → Calls Tryz.prog 43 #[.float .f64 (X i), .float .f64 (Y i), .int .i64 3] W fun r w' => ∃ n, r = .returned (.float .f64 n) ∧ lk n (E i) ∧ Below W.heap.size W w') :
    Calls Tryz.prog 35 #[.agg #[.float .f64 (X 0), .float .f64 (Y 0), .float .f64 (X 1), .float .f64 (Y 1), .float .f64 (X 2), .float .f64 (Y 2), .float .f64 (X 3), .float .f64 (Y 3)], .func (.func 43) #[] #[]] w fun r w' => r = .returned (.agg #[.float .f64 (pl (lowF (fun i => onF (D i)) 4)), .float .f64 (pl (hiF (fun i => onF (E i)) 4))]) ∧ Below w.heap.size w w' := by
  have HD : Hid (∀ i, i < 4 → ∀ W, Below w.heap.size w W → Calls Tryz.prog 43 #[.float .f64 (X i), .float .f64 (Y i), .int .i64 1] W fun r w' => ∃ n, r = .returned (.float .f64 n) ∧ lk n (D i) ∧ Below W.heap.size W w') := kd
  have HU : Hid (∀ i, i < 4 → ∀ W, Below w.heap.size w W → Calls Tryz.prog 43 #[.float .f64 (X i), .float .f64 (Y i), .int .i64 3] W fun r w' => ∃ n, r = .returned (.float .f64 n) ∧ lk n (E i) ∧ Below W.heap.size W w') := ku
  have HLo : Hid (∀ n, lowF (fun i => onF (D i)) n < 18446744073709551616 ∧ isNaN (lowF (fun i => onF (D i)) n) = false) := lowF_ok fun i => onF_ok (hD i)
  have HHi : Hid (∀ n, hiF (fun i => onF (E i)) n < 18446744073709551616 ∧ isNaN (hiF (fun i => onF (E i)) n) = false) := hiF_ok fun i => onF_ok (hE i)
  have HDE : Hid ((∀ i, D i < 18446744073709551616) ∧ ∀ i, E i < 18446744073709551616) := ⟨hD, hE⟩
  obtain ⟨W, hW⟩ : ∃ W, W = (w.alloc (.cells #[.float .f64 (X 0), .float .f64 (Y 0), .float .f64 (X 1), .float .f64 (Y 1), .float .f64 (X 2), .float .f64 (Y 2), .float .f64 (X 3), .float .f64 (Y 3)] 56)).alloc (.cells #[.float .f64 0, .float .f64 0] 24) := ⟨_, rfl⟩
  have HX : Hid (Below w.heap.size w W ∧ W.heap[w.heap.size]? = some (.cells #[.float .f64 (X 0), .float .f64 (Y 0), .float .f64 (X 1), .float .f64 (Y 1), .float .f64 (X 2), .float .f64 (Y 2), .float .f64 (X 3), .float .f64 (Y 3)] 56 (0, 0)) ∧ IvB W (w.heap.size + 1) 0 0) := by
    rw [hW]
    refine ⟨((Below.refl _ _).alloc (Nat.le_refl _) _).alloc (by simp) _, ?_, ?_⟩
    · exact (Below.heap_alloc _ _ _ (by simp)).trans (heap_alloc_new _ _)
    · have := IvB.new (w.alloc (.cells #[.float .f64 (X 0), .float .f64 (Y 0), .float .f64 (X 1), .float .f64 (Y 1), .float .f64 (X 2), .float .f64 (Y 2), .float .f64 (X 3), .float .f64 (Y 3)] 56)) 0 0
      simpa using this
  clear kd ku hD hE
  go_enter Tryz.func35, Tryz.ntmps35
  go_upto_region 1 with fail
  rw [← hW]
  clear hW
  have hc : W.cell? ⟨w.heap.size, 0, none⟩ = some (.float .f64 (X 0)) ∧ W.cell? ⟨w.heap.size, 1, none⟩ = some (.float .f64 (Y 0)) ∧ W.cell? ⟨w.heap.size, 2, none⟩ = some (.float .f64 (X 1)) ∧ W.cell? ⟨w.heap.size, 3, none⟩ = some (.float .f64 (Y 1)) ∧ W.cell? ⟨w.heap.size, 4, none⟩ = some (.float .f64 (X 2)) ∧ W.cell? ⟨w.heap.size, 5, none⟩ = some (.float .f64 (Y 2)) ∧ W.cell? ⟨w.heap.size, 6, none⟩ = some (.float .f64 (X 3)) ∧ W.cell? ⟨w.heap.size, 7, none⟩ = some (.float .f64 (Y 3)) := by
    have := HX.out.2.1
    simp [World.cell?, this]
  obtain ⟨q0, q1, q2, q3, q4, q5, q6, q7⟩ := hc
  have hI1 : ∀ W, Calls Tryz.prog 44 #[.int .i64 1] W fun r w' => r = .returned (.float .f64 (lowF (fun i => onF (D i)) 0)) ∧ w' = W := cinf_p
  have hI2 : ∀ W, Calls Tryz.prog 44 #[.int .i64 (-1)] W fun r w' => r = .returned (.float .f64 (hiF (fun i => onF (E i)) 0)) ∧ w' = W := cinf_m
  generalize hlo : lowF (fun i => onF (D i)) = Lo at *
  generalize hhi : hiF (fun i => onF (E i)) = Hi at *
  have HlH : Hid (lowF (fun i => onF (D i)) = Lo ∧ hiF (fun i => onF (E i)) = Hi) := ⟨hlo, hhi⟩
  clear hlo hhi
  go_wp2_with (first | (go_at_call 44; first | (with_reducible refine (hI1 _).mono ?_; rintro r w' ⟨rfl, hw⟩; replace hw := hw.symm; subst hw) | (with_reducible refine (hI2 _).mono ?_; rintro r w' ⟨rfl, hw⟩; replace hw := hw.symm; subst hw)))
  clear hI1 hI2 q0 q1 q2 q3 q4 q5 q6 q7
  go_loopw [5, 6, 12] (fun lo hi i wr => ∃ j : Nat, j ≤ 4 ∧ i = .int .i64 j ∧ lo = .float .f64 (Lo j) ∧ hi = .float .f64 (Hi j) ∧ Hid (Below W.heap.size W wr)) (fun lo hi i _ => 4 - (intOf i).toNat)
  case atStart => exact ⟨0, by omega, rfl, rfl, rfl, Below.refl _ _⟩
  case round =>
    obtain ⟨j, hj, rfl, rfl, rfl, hB⟩ := hrel
    obtain ⟨W1, hW1⟩ : ∃ f : Nat → World, f = fun j => wr.alloc (.cells #[.float .f64 (X j), .float .f64 (Y j)] 54) := ⟨_, rfl⟩
    have HB1 : Hid (∀ j, (W1 j).heap[wr.heap.size]? = some (.cells #[.float .f64 (X j), .float .f64 (Y j)] 54 (0, 0))) := fun j => by rw [hW1]; exact heap_alloc_new _ _
    have HBW1 : Hid (∀ j, Below W.heap.size W (W1 j)) := fun j => by rw [hW1]; exact hB.out.alloc hB.out.size _
    have HL1 : Hid (∀ j, Lo (j + 1) = fMin (Lo j) (onF (D j)) ∧ Hi (j + 1) = fMax (Hi j) (onF (E j))) := fun j => by rw [← HlH.out.1, ← HlH.out.2]; exact ⟨rfl, rfl⟩
    rcases (show j = 0 ∨ j = 1 ∨ j = 2 ∨ j = 3 ∨ j = 4 by omega) with rfl | rfl | rfl | rfl | rfl
    · have hW1 : W1 0 = wr.alloc (.cells #[.float .f64 (X 0), .float .f64 (Y 0)] 54) := by rw [hW1]
      have hp := run_pairs0 (X 0) (Y 0) (X 1) (Y 1) (X 2) (Y 2) (X 3) (Y 3) wr
      have kd := HD.out 0 (by omega) (W1 0) (HX.out.1.trans ((HBW1.out 0).mono HX.out.1.size))
      have ⟨s0, s1⟩ := box_cells2 (HB1.out 0)
      have HB1 := HB1.out 0
      have HB1 : Hid ((W1 0).heap[wr.heap.size]? = some (.cells #[.float .f64 (X 0), .float .f64 (Y 0)] 54 (0, 0))) := HB1
      have HBW : Hid (Below W.heap.size W (W1 0)) := HBW1.out 0
      clear HBW1
      generalize W1 0 = V at *
      go_upto_region 5 with fail
      rw [← hW1]
      clear hW1
      go_wp2_with fail
      refine kd.mono ?_
      rintro r w2 ⟨n, rfl, hl, hb2⟩
      have ko := sorn_lk hl w2
      have hm := fun ts t => run_fmin (P := Tryz.prog) w2 ts t _ _ (HLo.out 0).1 (onF_ok (HDE.out.1 0)).1 (HLo.out 0).2 (onF_ok (HDE.out.1 0)).2
      rw [← (HL1.out 0).1] at hm
      obtain ⟨t0, t1⟩ := box_cells2 (box_later HB1.out hb2 (lt_of_box HB1.out))
      have HB3 : Hid (Below W.heap.size W w2) := HBW.out.trans (hb2.mono HBW.out.size)
      clear hl hb2 kd s0 s1 HBW HB1
      have ku := HU.out 0 (by omega) w2 (HX.out.1.trans (HB3.out.mono HX.out.1.size))
      generalize onF (D 0) = d0 at *
      go_wp2_with fail
      refine ko.mono ?_
      rintro r w3 ⟨rfl, hw⟩
      replace hw := hw.symm
      subst hw
      clear ko
      go_wp2_with fail
      refine ku.mono ?_
      rintro r w3 ⟨n2, rfl, hl, hb2⟩
      have ko := sorn_lk hl w3
      clear hm
      have hm := fun ts t => run_fmax (P := Tryz.prog) w3 ts t _ _ (HHi.out 0).1 (onF_ok (HDE.out.2 0)).1 (HHi.out 0).2 (onF_ok (HDE.out.2 0)).2
      rw [← (HL1.out 0).2] at hm
      have HB4 : Hid (Below W.heap.size W w3) := HB3.out.trans (hb2.mono HB3.out.size)
      clear hl hb2 ku t0 t1 HB3
      generalize onF (E 0) = e0 at *
      go_wp2_with fail
      refine ko.mono ?_
      rintro r w4 ⟨rfl, hw⟩
      replace hw := hw.symm
      subst hw
      clear ko
      go_wp2_with fail
      exact ⟨⟨0 + 1, by omega, rfl, rfl, rfl, HB4⟩, by simp [intOf]⟩
    · have hW1 : W1 1 = wr.alloc (.cells #[.float .f64 (X 1), .float .f64 (Y 1)] 54) := by rw [hW1]
      have hp := run_pairs1 (X 0) (Y 0) (X 1) (Y 1) (X 2) (Y 2) (X 3) (Y 3) wr
      have kd := HD.out 1 (by omega) (W1 1) (HX.out.1.trans ((HBW1.out 1).mono HX.out.1.size))
      have ⟨s0, s1⟩ := box_cells2 (HB1.out 1)
      have HB1 := HB1.out 1
      have HB1 : Hid ((W1 1).heap[wr.heap.size]? = some (.cells #[.float .f64 (X 1), .float .f64 (Y 1)] 54 (0, 0))) := HB1
      have HBW : Hid (Below W.heap.size W (W1 1)) := HBW1.out 1
      clear HBW1
      generalize W1 1 = V at *
      go_upto_region 5 with fail
      rw [← hW1]
      clear hW1
      go_wp2_with fail
      refine kd.mono ?_
      rintro r w2 ⟨n, rfl, hl, hb2⟩
      have ko := sorn_lk hl w2
      have hm := fun ts t => run_fmin (P := Tryz.prog) w2 ts t _ _ (HLo.out 1).1 (onF_ok (HDE.out.1 1)).1 (HLo.out 1).2 (onF_ok (HDE.out.1 1)).2
      rw [← (HL1.out 1).1] at hm
      obtain ⟨t0, t1⟩ := box_cells2 (box_later HB1.out hb2 (lt_of_box HB1.out))
      have HB3 : Hid (Below W.heap.size W w2) := HBW.out.trans (hb2.mono HBW.out.size)
      clear hl hb2 kd s0 s1 HBW HB1
      have ku := HU.out 1 (by omega) w2 (HX.out.1.trans (HB3.out.mono HX.out.1.size))
      generalize onF (D 1) = d0 at *
      go_wp2_with fail
      refine ko.mono ?_
      rintro r w3 ⟨rfl, hw⟩
      replace hw := hw.symm
      subst hw
      clear ko
      go_wp2_with fail
      refine ku.mono ?_
      rintro r w3 ⟨n2, rfl, hl, hb2⟩
      have ko := sorn_lk hl w3
      clear hm
      have hm := fun ts t => run_fmax (P := Tryz.prog) w3 ts t _ _ (HHi.out 1).1 (onF_ok (HDE.out.2 1)).1 (HHi.out 1).2 (onF_ok (HDE.out.2 1)).2
      rw [← (HL1.out 1).2] at hm
      have HB4 : Hid (Below W.heap.size W w3) := HB3.out.trans (hb2.mono HB3.out.size)
      clear hl hb2 ku t0 t1 HB3
      generalize onF (E 1) = e0 at *
      go_wp2_with fail
      refine ko.mono ?_
      rintro r w4 ⟨rfl, hw⟩
      replace hw := hw.symm
      subst hw
      clear ko
      go_wp2_with fail
      exact ⟨⟨1 + 1, by omega, rfl, rfl, rfl, HB4⟩, by simp [intOf]⟩
    · have hW1 : W1 2 = wr.alloc (.cells #[.float .f64 (X 2), .float .f64 (Y 2)] 54) := by rw [hW1]
      have hp := run_pairs2 (X 0) (Y 0) (X 1) (Y 1) (X 2) (Y 2) (X 3) (Y 3) wr
      have kd := HD.out 2 (by omega) (W1 2) (HX.out.1.trans ((HBW1.out 2).mono HX.out.1.size))
      have ⟨s0, s1⟩ := box_cells2 (HB1.out 2)
      have HB1 := HB1.out 2
      have HB1 : Hid ((W1 2).heap[wr.heap.size]? = some (.cells #[.float .f64 (X 2), .float .f64 (Y 2)] 54 (0, 0))) := HB1
      have HBW : Hid (Below W.heap.size W (W1 2)) := HBW1.out 2
      clear HBW1
      generalize W1 2 = V at *
      go_upto_region 5 with fail
      rw [← hW1]
      clear hW1
      go_wp2_with fail
      refine kd.mono ?_
      rintro r w2 ⟨n, rfl, hl, hb2⟩
      have ko := sorn_lk hl w2
      have hm := fun ts t => run_fmin (P := Tryz.prog) w2 ts t _ _ (HLo.out 2).1 (onF_ok (HDE.out.1 2)).1 (HLo.out 2).2 (onF_ok (HDE.out.1 2)).2
      rw [← (HL1.out 2).1] at hm
      obtain ⟨t0, t1⟩ := box_cells2 (box_later HB1.out hb2 (lt_of_box HB1.out))
      have HB3 : Hid (Below W.heap.size W w2) := HBW.out.trans (hb2.mono HBW.out.size)
      clear hl hb2 kd s0 s1 HBW HB1
      have ku := HU.out 2 (by omega) w2 (HX.out.1.trans (HB3.out.mono HX.out.1.size))
      generalize onF (D 2) = d0 at *
      go_wp2_with fail
      refine ko.mono ?_
      rintro r w3 ⟨rfl, hw⟩
      replace hw := hw.symm
      subst hw
      clear ko
      go_wp2_with fail
      refine ku.mono ?_
      rintro r w3 ⟨n2, rfl, hl, hb2⟩
      have ko := sorn_lk hl w3
      clear hm
      have hm := fun ts t => run_fmax (P := Tryz.prog) w3 ts t _ _ (HHi.out 2).1 (onF_ok (HDE.out.2 2)).1 (HHi.out 2).2 (onF_ok (HDE.out.2 2)).2
      rw [← (HL1.out 2).2] at hm
      have HB4 : Hid (Below W.heap.size W w3) := HB3.out.trans (hb2.mono HB3.out.size)
      clear hl hb2 ku t0 t1 HB3
      generalize onF (E 2) = e0 at *
      go_wp2_with fail
      refine ko.mono ?_
      rintro r w4 ⟨rfl, hw⟩
      replace hw := hw.symm
      subst hw
      clear ko
      go_wp2_with fail
      exact ⟨⟨2 + 1, by omega, rfl, rfl, rfl, HB4⟩, by simp [intOf]⟩
    · have hW1 : W1 3 = wr.alloc (.cells #[.float .f64 (X 3), .float .f64 (Y 3)] 54) := by rw [hW1]
      have hp := run_pairs3 (X 0) (Y 0) (X 1) (Y 1) (X 2) (Y 2) (X 3) (Y 3) wr
      have kd := HD.out 3 (by omega) (W1 3) (HX.out.1.trans ((HBW1.out 3).mono HX.out.1.size))
      have ⟨s0, s1⟩ := box_cells2 (HB1.out 3)
      have HB1 := HB1.out 3
      have HB1 : Hid ((W1 3).heap[wr.heap.size]? = some (.cells #[.float .f64 (X 3), .float .f64 (Y 3)] 54 (0, 0))) := HB1
      have HBW : Hid (Below W.heap.size W (W1 3)) := HBW1.out 3
      clear HBW1
      generalize W1 3 = V at *
      go_upto_region 5 with fail
      rw [← hW1]
      clear hW1
      go_wp2_with fail
      refine kd.mono ?_
      rintro r w2 ⟨n, rfl, hl, hb2⟩
      have ko := sorn_lk hl w2
      have hm := fun ts t => run_fmin (P := Tryz.prog) w2 ts t _ _ (HLo.out 3).1 (onF_ok (HDE.out.1 3)).1 (HLo.out 3).2 (onF_ok (HDE.out.1 3)).2
      rw [← (HL1.out 3).1] at hm
      obtain ⟨t0, t1⟩ := box_cells2 (box_later HB1.out hb2 (lt_of_box HB1.out))
      have HB3 : Hid (Below W.heap.size W w2) := HBW.out.trans (hb2.mono HBW.out.size)
      clear hl hb2 kd s0 s1 HBW HB1
      have ku := HU.out 3 (by omega) w2 (HX.out.1.trans (HB3.out.mono HX.out.1.size))
      generalize onF (D 3) = d0 at *
      go_wp2_with fail
      refine ko.mono ?_
      rintro r w3 ⟨rfl, hw⟩
      replace hw := hw.symm
      subst hw
      clear ko
      go_wp2_with fail
      refine ku.mono ?_
      rintro r w3 ⟨n2, rfl, hl, hb2⟩
      have ko := sorn_lk hl w3
      clear hm
      have hm := fun ts t => run_fmax (P := Tryz.prog) w3 ts t _ _ (HHi.out 3).1 (onF_ok (HDE.out.2 3)).1 (HHi.out 3).2 (onF_ok (HDE.out.2 3)).2
      rw [← (HL1.out 3).2] at hm
      have HB4 : Hid (Below W.heap.size W w3) := HB3.out.trans (hb2.mono HB3.out.size)
      clear hl hb2 ku t0 t1 HB3
      generalize onF (E 3) = e0 at *
      go_wp2_with fail
      refine ko.mono ?_
      rintro r w4 ⟨rfl, hw⟩
      replace hw := hw.symm
      subst hw
      clear ko
      go_wp2_with fail
      exact ⟨⟨3 + 1, by omega, rfl, rfl, rfl, HB4⟩, by simp [intOf]⟩
    · have kb := sbetween (Lo 4) (Hi 4) wr (HLo.out 4).1 (HHi.out 4).1
      have HR : Hid (IvB wr (w.heap.size + 1) 0 0) := HX.out.2.2.box hB.out
      have HBw : Hid (Below w.heap.size w wr) := HX.out.1.trans (hB.out.mono HX.out.1.size)
      clear HB1 HBW1 hW1
      go_wp2_with fail
      refine kb.mono ?_
      rintro r w2 ⟨rfl, hb2⟩
      have hR2 : IvB w2 (w.heap.size + 1) 0 0 := HR.out.box hb2
      obtain ⟨y0, y1, y2, y3⟩ := hR2.facts
      have HR : Hid (IvB w2 (w.heap.size + 1) 0 0) := hR2
      have HB2 : Hid (Below w.heap.size w w2) := HBw.out.trans (hb2.mono HBw.out.size)
      clear hb2 hR2 kb
      generalize hA : pl (Lo 4) = A at *
      generalize hC : pl (Hi 4) = C at *
      have HAC : Hid (pl (Lo 4) = A ∧ pl (Hi 4) = C) := ⟨hA, hC⟩
      clear hA hC
      go_wp2_with fail
      refine bodyPost_ret (results_cell_row rfl _ _ (w.heap.size + 1) 24 #[.float .f64 A, .float .f64 C] (0, 0) _ rfl (HR.out.set _ _) Tryz.underlying24 rfl iv_info) rfl ?_
      exact ⟨by rw [HlH.out.1, HlH.out.2, HAC.out.1, HAC.out.2], below_store2 HB2.out (by omega) _ _⟩
end Go.Proofs.YtcoclopllbfjcaaGreatDoor
