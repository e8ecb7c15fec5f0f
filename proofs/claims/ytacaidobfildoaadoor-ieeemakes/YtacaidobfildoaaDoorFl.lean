/- Plain facts on the bits of a float64, of no program: its magnitude, its sign, whether it is a NaN, and that two floats stand in order as their numbers of steps from nought do. -/
import Derived.WalkKit
import Derived.WalkLawsBesides
namespace Go.Fl64
open Go.RowKit

/-- The bits without the sign. -/
def mag (a : Nat) : Nat := a % 9223372036854775808
/-- Is the sign set? -/
def neg (a : Nat) : Bool := decide (9223372036854775808 ≤ a)
def isNaN (a : Nat) : Bool := decide (9218868437227405312 < mag a)
/-- A magnitude with a sign. -/
def sgn (s : Bool) (n : Nat) : Int := if s then -(n : Int) else (n : Int)
/-- How many steps from nought: less than nought where the sign is set. -/
def stp (a : Nat) : Int := sgn (neg a) (mag a)

theorem mag_lt (a : Nat) : mag a < 9223372036854775808 := Nat.mod_lt _ (by decide)

theorem and_low (a : Nat) : a &&& 9223372036854775807 = a % 9223372036854775808 := by
  have := Nat.and_two_pow_sub_one_eq_mod a 63
  simpa using this

theorem andNot_sign (a : Nat) (h : a < 18446744073709551616) : bits .andNot .u64 (a : Int) 9223372036854775808 = (mag a : Int) := by
  have e := u64_andNot_nat a 9223372036854775808 h (by decide)
  rw [show ((9223372036854775808 : Nat) : Int) = 9223372036854775808 from rfl] at e
  rw [e]
  congr 1
  unfold mag
  rw [← and_low]

theorem wrap_neg (a : Nat) (h : a < 18446744073709551616) : decide (wrap64 (a : Int) < 0) = neg a := by
  unfold neg wrap64
  congr 1
  apply propext
  omega

/-! ### The order of floats -/

/-- The number that a rung stands for, in units of the least one. -/
def val (r : Nat) : Nat := if r < 4503599627370496 then r else (4503599627370496 + r % 4503599627370496) * 2 ^ (r / 4503599627370496 - 1)

theorem val_succ (r : Nat) : val r < val (r + 1) := by
  unfold val
  by_cases h1 : r + 1 < 4503599627370496
  · rw [if_pos (by omega), if_pos h1]; omega
  · rw [if_neg h1]
    by_cases h2 : r < 4503599627370496
    · rw [if_pos h2]
      have e : r + 1 = 4503599627370496 := by omega
      rw [e]
      simp
      omega
    · rw [if_neg h2]
      by_cases h3 : r % 4503599627370496 + 1 < 4503599627370496
      · have e1 : (r + 1) % 4503599627370496 = r % 4503599627370496 + 1 := by omega
        have e2 : (r + 1) / 4503599627370496 = r / 4503599627370496 := by omega
        rw [e1, e2]
        exact Nat.mul_lt_mul_of_pos_right (by omega) (Nat.two_pow_pos _)
      · have e1 : (r + 1) % 4503599627370496 = 0 := by omega
        have e2 : (r + 1) / 4503599627370496 - 1 = (r / 4503599627370496 - 1) + 1 := by omega
        rw [e1, e2, Nat.pow_succ]
        have hp := Nat.two_pow_pos (r / 4503599627370496 - 1)
        generalize 2 ^ (r / 4503599627370496 - 1) = p at *
        have e3 : (4503599627370496 + r % 4503599627370496) * p ≤ 9007199254740991 * p := Nat.mul_le_mul_right _ (by omega)
        omega

theorem val_lt_of_lt {r s : Nat} (h : r < s) : val r < val s := by
  obtain ⟨d, rfl⟩ : ∃ d, s = r + 1 + d := ⟨s - r - 1, by omega⟩
  clear h
  induction d with
  | zero => exact val_succ r
  | succ d ih => exact Nat.lt_trans ih (val_succ _)

theorem val_lt (r s : Nat) : val r < val s ↔ r < s := by
  constructor
  · intro h
    apply Nat.lt_of_not_le
    intro hle
    rcases Nat.lt_or_eq_of_le hle with h' | h'
    · have := val_lt_of_lt h'; omega
    · subst h'; omega
  · exact val_lt_of_lt

theorem val_eq (r s : Nat) : val r = val s ↔ r = s := by
  have h1 := val_lt r s
  have h2 := val_lt s r
  omega

theorem val_zero : val 0 = 0 := rfl
theorem val_eq_zero (r : Nat) : val r = 0 ↔ r = 0 := by
  have := val_eq r 0
  rw [val_zero] at this
  exact this

theorem compare_congr {x y x' y' : Int} (h1 : x < y ↔ x' < y') (h2 : x = y ↔ x' = y') : compare x y = compare x' y' := by
  show compareOfLessAndEq x y = compareOfLessAndEq x' y'
  unfold compareOfLessAndEq
  by_cases a : x < y
  · rw [if_pos a, if_pos (h1.1 a)]
  · rw [if_neg a, if_neg (fun b => a (h1.2 b))]
    by_cases b : x = y
    · rw [if_pos b, if_pos (h2.1 b)]
    · rw [if_neg b, if_neg (fun c => b (h2.2 c))]

theorem cmp_lt {x y : Int} (h : x < y) : compare x y = .lt := by
  show compareOfLessAndEq x y = _
  unfold compareOfLessAndEq
  rw [if_pos h]
theorem cmp_eq {x y : Int} (h : x = y) : compare x y = .eq := by
  show compareOfLessAndEq x y = _
  unfold compareOfLessAndEq
  rw [if_neg (by omega), if_pos h]
theorem cmp_gt {x y : Int} (h : y < x) : compare x y = .gt := by
  show compareOfLessAndEq x y = _
  unfold compareOfLessAndEq
  rw [if_neg (by omega), if_neg (by omega)]

theorem sgn_lt (s t : Bool) (m n m' n' : Nat) (h1 : m < n ↔ m' < n') (h2 : n < m ↔ n' < m') (h3 : m = 0 ↔ m' = 0) (h4 : n = 0 ↔ n' = 0) : sgn s m < sgn t n ↔ sgn s m' < sgn t n' := by
  unfold sgn
  cases s <;> cases t <;> simp <;> omega
theorem sgn_eq (s t : Bool) (m n m' n' : Nat) (h1 : m < n ↔ m' < n') (h2 : n < m ↔ n' < m') (h3 : m = 0 ↔ m' = 0) (h4 : n = 0 ↔ n' = 0) : sgn s m = sgn t n ↔ sgn s m' = sgn t n' := by
  unfold sgn
  cases s <;> cases t <;> simp <;> omega

theorem sgn_cmp (s t : Bool) (m n m' n' : Nat) (h1 : m < n ↔ m' < n') (h2 : n < m ↔ n' < m') (h3 : m = 0 ↔ m' = 0) (h4 : n = 0 ↔ n' = 0) : compare (sgn s m) (sgn t n) = compare (sgn s m') (sgn t n') :=
  compare_congr (sgn_lt s t m n m' n' h1 h2 h3 h4) (sgn_eq s t m n m' n' h1 h2 h3 h4)

theorem signed_sgn (s : Bool) (m u : Nat) : Ieee.signed s m u = sgn s (m * 2 ^ u) := by
  unfold Ieee.signed sgn
  rw [Nat.shiftLeft_eq]

/-- A finite float read: its parts make the number of its rung. -/
theorem read_number (a : Nat) (h : a < 18446744073709551616) (hf : mag a < 9218868437227405312) :
    ∃ (m k : Nat), Ieee.double.read a = .number (neg a) m (-1074 + (k : Int)) ∧ m * 2 ^ k = val (mag a) := by
  have hs : Ieee.double.signWeight = 9223372036854775808 := by decide
  have hb : Ieee.double.binade = 4503599627370496 := by decide
  have hi : Ieee.double.infRung = 9218868437227405312 := by decide
  have hl : Ieee.double.leastPlace = -1074 := by decide
  have hn : (a / 9223372036854775808 % 2 == 1) = neg a := by
    unfold neg
    rw [Bool.beq_eq_decide_eq]
    congr 1
    apply propext
    omega
  unfold Ieee.Format.read
  simp only [hs, hb, hi, hl, hn]
  show ∃ m k, (if mag a < 4503599627370496 then _ else _) = _ ∧ _
  unfold mag at hf ⊢
  by_cases h1 : a % 9223372036854775808 < 4503599627370496
  · refine ⟨a % 9223372036854775808, 0, ?_, ?_⟩
    · rw [if_pos h1]; simp
    · unfold val; rw [if_pos h1]; simp
  · refine ⟨4503599627370496 + a % 9223372036854775808 % 4503599627370496, a % 9223372036854775808 / 4503599627370496 - 1, ?_, ?_⟩
    · rw [if_neg h1, if_pos hf]
    · unfold val; rw [if_neg h1]

theorem read_infinity (a : Nat) (h : a < 18446744073709551616) (hf : mag a = 9218868437227405312) : Ieee.double.read a = .infinity (neg a) := by
  have hs : Ieee.double.signWeight = 9223372036854775808 := by decide
  have hb : Ieee.double.binade = 4503599627370496 := by decide
  have hi : Ieee.double.infRung = 9218868437227405312 := by decide
  have hn : (a / 9223372036854775808 % 2 == 1) = neg a := by
    unfold neg
    rw [Bool.beq_eq_decide_eq]
    congr 1
    apply propext
    omega
  unfold Ieee.Format.read
  simp only [hs, hb, hi, hn]
  unfold mag at hf
  rw [hf]
  simp

theorem read_nan (a : Nat) (hf : 9218868437227405312 < mag a) : ∃ s f, Ieee.double.read a = .nan s f := by
  have hs : Ieee.double.signWeight = 9223372036854775808 := by decide
  have hb : Ieee.double.binade = 4503599627370496 := by decide
  have hi : Ieee.double.infRung = 9218868437227405312 := by decide
  unfold Ieee.Format.read
  simp only [hs, hb, hi]
  unfold mag at hf
  rw [if_neg (by omega), if_neg (by omega), if_neg (by omega)]
  exact ⟨_, _, rfl⟩

theorem order_nan_left (a b : Nat) (h : isNaN a = true) : Ieee.double.order a b = none := by
  obtain ⟨s, f, e⟩ := read_nan a (of_decide_eq_true h)
  unfold Ieee.Format.order
  rw [e]
  rfl

theorem order_nan_right (a b : Nat) (h : isNaN b = true) : Ieee.double.order a b = none := by
  obtain ⟨s, f, e⟩ := read_nan b (of_decide_eq_true h)
  unfold Ieee.Format.order
  rw [e]
  cases Ieee.double.read a <;> rfl

theorem order_num (a b : Nat) (ha : a < 18446744073709551616) (hb : b < 18446744073709551616) (na : isNaN a = false) (nb : isNaN b = false) :
    Ieee.double.order a b = some (compare (stp a) (stp b)) := by
  have na' : ¬ 9218868437227405312 < mag a := of_decide_eq_false na
  have nb' : ¬ 9218868437227405312 < mag b := of_decide_eq_false nb
  unfold Ieee.Format.order stp
  by_cases fa : mag a < 9218868437227405312
  · obtain ⟨m, k, e, hm⟩ := read_number a ha fa
    by_cases fb : mag b < 9218868437227405312
    · obtain ⟨n, l, e', hn⟩ := read_number b hb fb
      rw [e, e']
      unfold Ieee.Datum.order
      dsimp only
      rw [signed_sgn, signed_sgn]
      congr 1
      have e1 : ((-1074 + (k : Int)) - min (-1074 + (k : Int)) (-1074 + (l : Int))).toNat = k - min k l := by omega
      have e2 : ((-1074 + (l : Int)) - min (-1074 + (k : Int)) (-1074 + (l : Int))).toNat = l - min k l := by omega
      rw [e1, e2]
      have p1 : m * 2 ^ (k - min k l) * 2 ^ min k l = val (mag a) := by
        rw [Nat.mul_assoc, ← Nat.pow_add, show k - min k l + min k l = k by omega, hm]
      have p2 : n * 2 ^ (l - min k l) * 2 ^ min k l = val (mag b) := by
        rw [Nat.mul_assoc, ← Nat.pow_add, show l - min k l + min k l = l by omega, hn]
      have hp := Nat.two_pow_pos (min k l)
      generalize m * 2 ^ (k - min k l) = X at *
      generalize n * 2 ^ (l - min k l) = Y at *
      generalize 2 ^ min k l = p at *
      have v1 := val_lt (mag a) (mag b)
      have v2 := val_lt (mag b) (mag a)
      have z1 := val_eq_zero (mag a)
      have z2 := val_eq_zero (mag b)
      rw [← p1, ← p2] at v1 v2
      rw [← p1] at z1
      rw [← p2] at z2
      apply sgn_cmp
      · rw [← v1]; exact (Nat.mul_lt_mul_right hp).symm
      · rw [← v2]; exact (Nat.mul_lt_mul_right hp).symm
      · rw [← z1, Nat.mul_eq_zero]; omega
      · rw [← z2, Nat.mul_eq_zero]; omega
    · have fb' : mag b = 9218868437227405312 := by omega
      rw [e, read_infinity b hb fb', fb']
      unfold Ieee.Datum.order
      dsimp only
      congr 1
      cases neg b
      · exact (cmp_lt (by unfold sgn; cases neg a <;> simp <;> omega)).symm
      · exact (cmp_gt (by unfold sgn; cases neg a <;> simp <;> omega)).symm
  · have fa' : mag a = 9218868437227405312 := by omega
    rw [read_infinity a ha fa', fa']
    by_cases fb : mag b < 9218868437227405312
    · obtain ⟨n, l, e', hn⟩ := read_number b hb fb
      rw [e']
      unfold Ieee.Datum.order
      dsimp only
      congr 1
      cases neg a
      · exact (cmp_gt (by unfold sgn; cases neg b <;> simp <;> omega)).symm
      · exact (cmp_lt (by unfold sgn; cases neg b <;> simp <;> omega)).symm
    · have fb' : mag b = 9218868437227405312 := by omega
      rw [read_infinity b hb fb', fb']
      unfold Ieee.Datum.order
      dsimp only
      congr 1
      cases neg b <;> cases neg a <;> rfl

/-! ### The six comparisons of Go, as the walk spells them -/

theorem f64 : FloatKind.f64.format = Ieee.double := rfl

theorem self_ne (a : Nat) (h : a < 18446744073709551616) : (FloatKind.f64.format.order a a != some Ordering.eq) = isNaN a := by
  rw [f64]
  cases hn : isNaN a with
  | true => rw [order_nan_left a a hn]; rfl
  | false => rw [order_num a a h h hn hn, cmp_eq rfl]; rfl

/-- a < b, a = b of floats. -/
def lt (a b : Nat) : Bool := !isNaN a && !isNaN b && decide (stp a < stp b)
def eq (a b : Nat) : Bool := !isNaN a && !isNaN b && decide (stp a = stp b)

theorem ord_lt (a b : Nat) (ha : a < 18446744073709551616) (hb : b < 18446744073709551616) : (FloatKind.f64.format.order a b == some Ordering.lt) = lt a b := by
  rw [f64]
  unfold lt
  cases na : isNaN a with
  | true => rw [order_nan_left a b na]; rfl
  | false =>
    cases nb : isNaN b with
    | true => rw [order_nan_right a b nb]; rfl
    | false =>
      rw [order_num a b ha hb na nb]
      rcases Int.lt_trichotomy (stp a) (stp b) with h | h | h
      · rw [cmp_lt h]; simp [h]
      · rw [cmp_eq h]; simp [h]
      · rw [cmp_gt h, decide_eq_false (by omega)]; rfl
theorem ord_eq (a b : Nat) (ha : a < 18446744073709551616) (hb : b < 18446744073709551616) : (FloatKind.f64.format.order a b == some Ordering.eq) = eq a b := by
  rw [f64]
  unfold eq
  cases na : isNaN a with
  | true => rw [order_nan_left a b na]; rfl
  | false =>
    cases nb : isNaN b with
    | true => rw [order_nan_right a b nb]; rfl
    | false =>
      rw [order_num a b ha hb na nb]
      rcases Int.lt_trichotomy (stp a) (stp b) with h | h | h
      · rw [cmp_lt h, decide_eq_false (by omega)]; rfl
      · rw [cmp_eq h]; simp [h]
      · rw [cmp_gt h, decide_eq_false (by omega)]; rfl
theorem ord_gt (a b : Nat) (ha : a < 18446744073709551616) (hb : b < 18446744073709551616) : (FloatKind.f64.format.order a b == some Ordering.gt) = lt b a := by
  rw [f64]
  unfold lt
  cases na : isNaN a with
  | true => rw [order_nan_left a b na]; cases isNaN b <;> rfl
  | false =>
    cases nb : isNaN b with
    | true => rw [order_nan_right a b nb]; rfl
    | false =>
      rw [order_num a b ha hb na nb]
      rcases Int.lt_trichotomy (stp a) (stp b) with h | h | h
      · rw [cmp_lt h, decide_eq_false (by omega)]; rfl
      · rw [cmp_eq h, decide_eq_false (by omega)]; rfl
      · rw [cmp_gt h, decide_eq_true h]; rfl

/-! ### Classes, signs -/

def cls (a : Nat) : Int :=
  if (9218868437227405312 : Int) < (mag a : Int) then 1 else if ((mag a : Int) == 9218868437227405312) then 2 else if ((mag a : Int) == 0) then 3 else if (mag a : Int) < 4503599627370496 then 4 else 5
def cneg (a : Nat) : Bool := if (9218868437227405312 : Int) < (mag a : Int) then false else neg a
/-- Bit by bit, NaNs are one. -/
def same (a b : Nat) : Bool := ((a : Int) == (b : Int)) || (isNaN a && isNaN b)
theorem same_self (a : Nat) : same a a = true := by simp [same]
/-- a with the sign s. -/
def sig (s : Bool) (m : Nat) : Nat := if s then m + 9223372036854775808 else m
/-- a with b's sign; a NaN as b has the sign +. -/
def withF (a b : Nat) : Nat := if isNaN a then a else if isNaN b then mag a else sig (neg b) (mag a)

theorem nan_int (a : Nat) : decide ((9218868437227405312 : Int) < (mag a : Int)) = isNaN a := by
  unfold isNaN
  congr 1
  apply propext
  omega

theorem neg_div (a : Nat) (h : a < 18446744073709551616) : ((a : Int) / 9223372036854775808 == 1) = neg a := by
  unfold neg
  rw [Bool.beq_eq_decide_eq]
  congr 1
  apply propext
  omega

theorem and_sign (b : Nat) (h : b < 18446744073709551616) : bits .and .u64 (b : Int) 9223372036854775808 = if neg b then 9223372036854775808 else 0 := by
  have e := u64_and_nat b 9223372036854775808 h (by decide)
  rw [show ((9223372036854775808 : Nat) : Int) = 9223372036854775808 from rfl] at e
  rw [e]
  have e2 : b &&& 9223372036854775808 = b / 9223372036854775808 % 2 * 9223372036854775808 := nat_bit 63 b
  rw [e2]
  unfold neg
  by_cases hn : 9223372036854775808 ≤ b
  · rw [decide_eq_true hn]; simp; omega
  · rw [decide_eq_false hn]; simp; omega

theorem or_sign (m : Nat) (h : m < 9223372036854775808) : bits .or .u64 (m : Int) 9223372036854775808 = ((m + 9223372036854775808 : Nat) : Int) := by
  have e := u64_or_nat m 9223372036854775808 (by omega) (by decide)
  rw [show ((9223372036854775808 : Nat) : Int) = 9223372036854775808 from rfl] at e
  rw [e]
  congr 1
  have := Nat.two_pow_add_eq_or_of_lt (i := 63) h 1
  rw [Nat.or_comm, ← (show 2 ^ 63 * 1 = 9223372036854775808 from rfl), ← this, Nat.add_comm]

theorem or_zero (m : Nat) (h : m < 9223372036854775808) : bits .or .u64 (m : Int) 0 = (m : Int) := by
  have e := u64_or_nat m 0 (by omega) (by decide)
  rw [show ((0 : Nat) : Int) = 0 from rfl] at e
  rw [e]
  simp

theorem andNot_self : bits .andNot .u64 9223372036854775808 9223372036854775808 = 0 := by decide +kernel
theorem andNot_none : bits .andNot .u64 9223372036854775808 0 = 9223372036854775808 := by decide +kernel
theorem andNot_zero (x : Nat) (h : x < 18446744073709551616) : bits .andNot .u64 0 (x : Int) = 0 := by
  have e := u64_andNot_nat 0 x (by decide) h
  rw [show ((0 : Nat) : Int) = 0 from rfl] at e
  rw [e]
  simp

end Go.Fl64
