/- Own work: contracts of the program's functions, part A7. -/
import Derived.WalkKit
import Derived.WalkLawsBesides
import Derived.Test.YtceoeiojoffnnaaGreatDoorA6
import Derived.WalkSpells
import Derived.BigQuiet
import Derived.Laws.MathBits
import Derived.Lib.TrailingZeros
import Derived.Lib.LaidTab
import Derived.Deep.QuietTactic

/- Plain facts on the bits of a float64, of no program: its magnitude, its sign, whether it is a NaN, and that two floats stand in order as their numbers of steps from nought do. -/
namespace Go.Fl64
open Go.RowKit

/-- The bits without the sign. -/
def mag (a : Nat) : Nat := a % 9223372036854775808
/-- Is the sign set? -/
def neg (a : Nat) : Bool := decide (9223372036854775808 ≤ a)
def isNaN (a : Nat) : Bool := decide (9218868437227405312 < mag a)
/-- A magnitude with a sign. -/
def sgn (s : Bool) (n : Nat) : Int := if s then -(n : Int) else (n : Int)
/-- How many steps from nought: less than nought where the sign is set. -/
def stp (a : Nat) : Int := sgn (neg a) (mag a)

theorem mag_lt (a : Nat) : mag a < 9223372036854775808 := Nat.mod_lt _ (by decide)

theorem and_low (a : Nat) : a &&& 9223372036854775807 = a % 9223372036854775808 := by
  have := Nat.and_two_pow_sub_one_eq_mod a 63
  simpa using this

theorem andNot_sign (a : Nat) (h : a < 18446744073709551616) : bits .andNot .u64 (a : Int) 9223372036854775808 = (mag a : Int) := by
  have e := u64_andNot_nat a 9223372036854775808 h (by decide)
  rw [show ((9223372036854775808 : Nat) : Int) = 9223372036854775808 from rfl] at e
  rw [e]
  congr 1
  unfold mag
  rw [← and_low]

theorem wrap_neg (a : Nat) (h : a < 18446744073709551616) : decide (wrap64 (a : Int) < 0) = neg a := by
  unfold neg wrap64
  congr 1
  apply propext
  omega

/-! ### The order of floats -/

/-- The number that a rung stands for, in units of the least one. -/
def val (r : Nat) : Nat := if r < 4503599627370496 then r else (4503599627370496 + r % 4503599627370496) * 2 ^ (r / 4503599627370496 - 1)

theorem val_succ (r : Nat) : val r < val (r + 1) := by
  unfold val
  by_cases h1 : r + 1 < 4503599627370496
  · rw [if_pos (by omega), if_pos h1]; omega
  · rw [if_neg h1]
    by_cases h2 : r < 4503599627370496
    · rw [if_pos h2]
      have e : r + 1 = 4503599627370496 := by omega
      rw [e]
      simp
      omega
    · rw [if_neg h2]
      by_cases h3 : r % 4503599627370496 + 1 < 4503599627370496
      · have e1 : (r + 1) % 4503599627370496 = r % 4503599627370496 + 1 := by omega
        have e2 : (r + 1) / 4503599627370496 = r / 4503599627370496 := by omega
        rw [e1, e2]
        exact Nat.mul_lt_mul_of_pos_right (by omega) (Nat.two_pow_pos _)
      · have e1 : (r + 1) % 4503599627370496 = 0 := by omega
        have e2 : (r + 1) / 4503599627370496 - 1 = (r / 4503599627370496 - 1) + 1 := by omega
        rw [e1, e2, Nat.pow_succ]
        have hp := Nat.two_pow_pos (r / 4503599627370496 - 1)
        generalize 2 ^ (r / 4503599627370496 - 1) = p at *
        have e3 : (4503599627370496 + r % 4503599627370496) * p ≤ 9007199254740991 * p := Nat.mul_le_mul_right _ (by omega)
        omega

theorem val_lt_of_lt {r s : Nat} (h : r < s) : val r < val s := by
  obtain ⟨d, rfl⟩ : ∃ d, s = r + 1 + d := ⟨s - r - 1, by omega⟩
  clear h
  induction d with
  | zero => exact val_succ r
  | succ d ih => exact Nat.lt_trans ih (val_succ _)

theorem val_lt (r s : Nat) : val r < val s ↔ r < s := by
  constructor
  · intro h
    apply Nat.lt_of_not_le
    intro hle
    rcases Nat.lt_or_eq_of_le hle with h' | h'
    · have := val_lt_of_lt h'; omega
    · subst h'; omega
  · exact val_lt_of_lt

theorem val_eq (r s : Nat) : val r = val s ↔ r = s := by
  have h1 := val_lt r s
  have h2 := val_lt s r
  omega

theorem val_zero : val 0 = 0 := rfl
theorem val_eq_zero (r : Nat) : val r = 0 ↔ r = 0 := by
  have := val_eq r 0
  rw [val_zero] at this
  exact this

theorem compare_congr {x y x' y' : Int} (h1 : x < y ↔ x' < y') (h2 : x = y ↔ x' = y') : compare x y = compare x' y' := by
  show compareOfLessAndEq x y = compareOfLessAndEq x' y'
  unfold compareOfLessAndEq
  by_cases a : x < y
  · rw [if_pos a, if_pos (h1.1 a)]
  · rw [if_neg a, if_neg (fun b => a (h1.2 b))]
    by_cases b : x = y
    · rw [if_pos b, if_pos (h2.1 b)]
    · rw [if_neg b, if_neg (fun c => b (h2.2 c))]

theorem cmp_lt {x y : Int} (h : x < y) : compare x y = .lt := by
  show compareOfLessAndEq x y = _
  unfold compareOfLessAndEq
  rw [if_pos h]
theorem cmp_eq {x y : Int} (h : x = y) : compare x y = .eq := by
  show compareOfLessAndEq x y = _
  unfold compareOfLessAndEq
  rw [if_neg (by omega), if_pos h]
theorem cmp_gt {x y : Int} (h : y < x) : compare x y = .gt := by
  show compareOfLessAndEq x y = _
  unfold compareOfLessAndEq
  rw [if_neg (by omega), if_neg (by omega)]

theorem sgn_lt (s t : Bool) (m n m' n' : Nat) (h1 : m < n ↔ m' < n') (h2 : n < m ↔ n' < m') (h3 : m = 0 ↔ m' = 0) (h4 : n = 0 ↔ n' = 0) : sgn s m < sgn t n ↔ sgn s m' < sgn t n' := by
  unfold sgn
  cases s <;> cases t <;> simp <;> omega
theorem sgn_eq (s t : Bool) (m n m' n' : Nat) (h1 : m < n ↔ m' < n') (h2 : n < m ↔ n' < m') (h3 : m = 0 ↔ m' = 0) (h4 : n = 0 ↔ n' = 0) : sgn s m = sgn t n ↔ sgn s m' = sgn t n' := by
  unfold sgn
  cases s <;> cases t <;> simp <;> omega

theorem sgn_cmp (s t : Bool) (m n m' n' : Nat) (h1 : m < n ↔ m' < n') (h2 : n < m ↔ n' < m') (h3 : m = 0 ↔ m' = 0) (h4 : n = 0 ↔ n' = 0) : compare (sgn s m) (sgn t n) = compare (sgn s m') (sgn t n') :=
  compare_congr (sgn_lt s t m n m' n' h1 h2 h3 h4) (sgn_eq s t m n m' n' h1 h2 h3 h4)

theorem signed_sgn (s : Bool) (m u : Nat) : Ieee.signed s m u = sgn s (m * 2 ^ u) := by
  unfold Ieee.signed sgn
  rw [Nat.shiftLeft_eq]

/-- A finite float read: its parts make the number of its rung. -/
theorem read_number (a : Nat) (h : a < 18446744073709551616) (hf : mag a < 9218868437227405312) :
    ∃ (m k : Nat), Ieee.double.read a = .number (neg a) m (-1074 + (k : Int)) ∧ m * 2 ^ k = val (mag a) := by
  have hs : Ieee.double.signWeight = 9223372036854775808 := by decide
  have hb : Ieee.double.binade = 4503599627370496 := by decide
  have hi : Ieee.double.infRung = 9218868437227405312 := by decide
  have hl : Ieee.double.leastPlace = -1074 := by decide
  have hn : (a / 9223372036854775808 % 2 == 1) = neg a := by
    unfold neg
    rw [Bool.beq_eq_decide_eq]
    congr 1
    apply propext
    omega
  unfold Ieee.Format.read
  simp only [hs, hb, hi, hl, hn]
  show ∃ m k, (if mag a < 4503599627370496 then _ else _) = _ ∧ _
  unfold mag at hf ⊢
  by_cases h1 : a % 9223372036854775808 < 4503599627370496
  · refine ⟨a % 9223372036854775808, 0, ?_, ?_⟩
    · rw [if_pos h1]; simp
    · unfold val; rw [if_pos h1]; simp
  · refine ⟨4503599627370496 + a % 9223372036854775808 % 4503599627370496, a % 9223372036854775808 / 4503599627370496 - 1, ?_, ?_⟩
    · rw [if_neg h1, if_pos hf]
    · unfold val; rw [if_neg h1]

theorem read_infinity (a : Nat) (h : a < 18446744073709551616) (hf : mag a = 9218868437227405312) : Ieee.double.read a = .infinity (neg a) := by
  have hs : Ieee.double.signWeight = 9223372036854775808 := by decide
  have hb : Ieee.double.binade = 4503599627370496 := by decide
  have hi : Ieee.double.infRung = 9218868437227405312 := by decide
  have hn : (a / 9223372036854775808 % 2 == 1) = neg a := by
    unfold neg
    rw [Bool.beq_eq_decide_eq]
    congr 1
    apply propext
    omega
  unfold Ieee.Format.read
  simp only [hs, hb, hi, hn]
  unfold mag at hf
  rw [hf]
  simp

theorem read_nan (a : Nat) (hf : 9218868437227405312 < mag a) : ∃ s f, Ieee.double.read a = .nan s f := by
  have hs : Ieee.double.signWeight = 9223372036854775808 := by decide
  have hb : Ieee.double.binade = 4503599627370496 := by decide
  have hi : Ieee.double.infRung = 9218868437227405312 := by decide
  unfold Ieee.Format.read
  simp only [hs, hb, hi]
  unfold mag at hf
  rw [if_neg (by omega), if_neg (by omega), if_neg (by omega)]
  exact ⟨_, _, rfl⟩

theorem order_nan_left (a b : Nat) (h : isNaN a = true) : Ieee.double.order a b = none := by
  obtain ⟨s, f, e⟩ := read_nan a (of_decide_eq_true h)
  unfold Ieee.Format.order
  rw [e]
  rfl

theorem order_nan_right (a b : Nat) (h : isNaN b = true) : Ieee.double.order a b = none := by
  obtain ⟨s, f, e⟩ := read_nan b (of_decide_eq_true h)
  unfold Ieee.Format.order
  rw [e]
  cases Ieee.double.read a <;> rfl

theorem order_num (a b : Nat) (ha : a < 18446744073709551616) (hb : b < 18446744073709551616) (na : isNaN a = false) (nb : isNaN b = false) :
    Ieee.double.order a b = some (compare (stp a) (stp b)) := by
  have na' : ¬ 9218868437227405312 < mag a := of_decide_eq_false na
  have nb' : ¬ 9218868437227405312 < mag b := of_decide_eq_false nb
  unfold Ieee.Format.order stp
  by_cases fa : mag a < 9218868437227405312
  · obtain ⟨m, k, e, hm⟩ := read_number a ha fa
    by_cases fb : mag b < 9218868437227405312
    · obtain ⟨n, l, e', hn⟩ := read_number b hb fb
      rw [e, e']
      unfold Ieee.Datum.order
      dsimp only
      rw [signed_sgn, signed_sgn]
      congr 1
      have e1 : ((-1074 + (k : Int)) - min (-1074 + (k : Int)) (-1074 + (l : Int))).toNat = k - min k l := by omega
      have e2 : ((-1074 + (l : Int)) - min (-1074 + (k : Int)) (-1074 + (l : Int))).toNat = l - min k l := by omega
      rw [e1, e2]
      have p1 : m * 2 ^ (k - min k l) * 2 ^ min k l = val (mag a) := by
        rw [Nat.mul_assoc, ← Nat.pow_add, show k - min k l + min k l = k by omega, hm]
      have p2 : n * 2 ^ (l - min k l) * 2 ^ min k l = val (mag b) := by
        rw [Nat.mul_assoc, ← Nat.pow_add, show l - min k l + min k l = l by omega, hn]
      have hp := Nat.two_pow_pos (min k l)
      generalize m * 2 ^ (k - min k l) = X at *
      generalize n * 2 ^ (l - min k l) = Y at *
      generalize 2 ^ min k l = p at *
      have v1 := val_lt (mag a) (mag b)
      have v2 := val_lt (mag b) (mag a)
      have z1 := val_eq_zero (mag a)
      have z2 := val_eq_zero (mag b)
      rw [← p1, ← p2] at v1 v2
      rw [← p1] at z1
      rw [← p2] at z2
      apply sgn_cmp
      · rw [← v1]; exact (Nat.mul_lt_mul_right hp).symm
      · rw [← v2]; exact (Nat.mul_lt_mul_right hp).symm
      · rw [← z1, Nat.mul_eq_zero]; omega
      · rw [← z2, Nat.mul_eq_zero]; omega
    · have fb' : mag b = 9218868437227405312 := by omega
      rw [e, read_infinity b hb fb', fb']
      unfold Ieee.Datum.order
      dsimp only
      congr 1
      cases neg b
      · exact (cmp_lt (by unfold sgn; cases neg a <;> simp <;> omega)).symm
      · exact (cmp_gt (by unfold sgn; cases neg a <;> simp <;> omega)).symm
  · have fa' : mag a = 9218868437227405312 := by omega
    rw [read_infinity a ha fa', fa']
    by_cases fb : mag b < 9218868437227405312
    · obtain ⟨n, l, e', hn⟩ := read_number b hb fb
      rw [e']
      unfold Ieee.Datum.order
      dsimp only
      congr 1
      cases neg a
      · exact (cmp_gt (by unfold sgn; cases neg b <;> simp <;> omega)).symm
      · exact (cmp_lt (by unfold sgn; cases neg b <;> simp <;> omega)).symm
    · have fb' : mag b = 9218868437227405312 := by omega
      rw [read_infinity b hb fb', fb']
      unfold Ieee.Datum.order
      dsimp only
      congr 1
      cases neg b <;> cases neg a <;> rfl

/-! ### The six comparisons of Go, as the walk spells them -/

theorem f64 : FloatKind.f64.format = Ieee.double := rfl

theorem self_ne (a : Nat) (h : a < 18446744073709551616) : (FloatKind.f64.format.order a a != some Ordering.eq) = isNaN a := by
  rw [f64]
  cases hn : isNaN a with
  | true => rw [order_nan_left a a hn]; rfl
  | false => rw [order_num a a h h hn hn, cmp_eq rfl]; rfl

/-- a < b, a = b of floats. -/
def lt (a b : Nat) : Bool := !isNaN a && !isNaN b && decide (stp a < stp b)
def eq (a b : Nat) : Bool := !isNaN a && !isNaN b && decide (stp a = stp b)

theorem ord_lt (a b : Nat) (ha : a < 18446744073709551616) (hb : b < 18446744073709551616) : (FloatKind.f64.format.order a b == some Ordering.lt) = lt a b := by
  rw [f64]
  unfold lt
  cases na : isNaN a with
  | true => rw [order_nan_left a b na]; rfl
  | false =>
    cases nb : isNaN b with
    | true => rw [order_nan_right a b nb]; rfl
    | false =>
      rw [order_num a b ha hb na nb]
      rcases Int.lt_trichotomy (stp a) (stp b) with h | h | h
      · rw [cmp_lt h]; simp [h]
      · rw [cmp_eq h]; simp [h]
      · rw [cmp_gt h, decide_eq_false (by omega)]; rfl
theorem ord_eq (a b : Nat) (ha : a < 18446744073709551616) (hb : b < 18446744073709551616) : (FloatKind.f64.format.order a b == some Ordering.eq) = eq a b := by
  rw [f64]
  unfold eq
  cases na : isNaN a with
  | true => rw [order_nan_left a b na]; rfl
  | false =>
    cases nb : isNaN b with
    | true => rw [order_nan_right a b nb]; rfl
    | false =>
      rw [order_num a b ha hb na nb]
      rcases Int.lt_trichotomy (stp a) (stp b) with h | h | h
      · rw [cmp_lt h, decide_eq_false (by omega)]; rfl
      · rw [cmp_eq h]; simp [h]
      · rw [cmp_gt h, decide_eq_false (by omega)]; rfl
theorem ord_gt (a b : Nat) (ha : a < 18446744073709551616) (hb : b < 18446744073709551616) : (FloatKind.f64.format.order a b == some Ordering.gt) = lt b a := by
  rw [f64]
  unfold lt
  cases na : isNaN a with
  | true => rw [order_nan_left a b na]; cases isNaN b <;> rfl
  | false =>
    cases nb : isNaN b with
    | true => rw [order_nan_right a b nb]; rfl
    | false =>
      rw [order_num a b ha hb na nb]
      rcases Int.lt_trichotomy (stp a) (stp b) with h | h | h
      · rw [cmp_lt h, decide_eq_false (by omega)]; rfl
      · rw [cmp_eq h, decide_eq_false (by omega)]; rfl
      · rw [cmp_gt h, decide_eq_true h]; rfl

/-! ### Classes, signs -/

def cls (a : Nat) : Int :=
  if (9218868437227405312 : Int) < (mag a : Int) then 1 else if ((mag a : Int) == 9218868437227405312) then 2 else if ((mag a : Int) == 0) then 3 else if (mag a : Int) < 4503599627370496 then 4 else 5
def cneg (a : Nat) : Bool := if (9218868437227405312 : Int) < (mag a : Int) then false else neg a
/-- Bit by bit, NaNs are one. -/
def same (a b : Nat) : Bool := ((a : Int) == (b : Int)) || (isNaN a && isNaN b)
theorem same_self (a : Nat) : same a a = true := by simp [same]
/-- a with the sign s. -/
def sig (s : Bool) (m : Nat) : Nat := if s then m + 9223372036854775808 else m
/-- a with b's sign; a NaN as b has the sign +. -/
def withF (a b : Nat) : Nat := if isNaN a then a else if isNaN b then mag a else sig (neg b) (mag a)

theorem nan_int (a : Nat) : decide ((9218868437227405312 : Int) < (mag a : Int)) = isNaN a := by
  unfold isNaN
  congr 1
  apply propext
  omega

theorem neg_div (a : Nat) (h : a < 18446744073709551616) : ((a : Int) / 9223372036854775808 == 1) = neg a := by
  unfold neg
  rw [Bool.beq_eq_decide_eq]
  congr 1
  apply propext
  omega

theorem and_sign (b : Nat) (h : b < 18446744073709551616) : bits .and .u64 (b : Int) 9223372036854775808 = if neg b then 9223372036854775808 else 0 := by
  have e := u64_and_nat b 9223372036854775808 h (by decide)
  rw [show ((9223372036854775808 : Nat) : Int) = 9223372036854775808 from rfl] at e
  rw [e]
  have e2 : b &&& 9223372036854775808 = b / 9223372036854775808 % 2 * 9223372036854775808 := nat_bit 63 b
  rw [e2]
  unfold neg
  by_cases hn : 9223372036854775808 ≤ b
  · rw [decide_eq_true hn]; simp; omega
  · rw [decide_eq_false hn]; simp; omega

theorem or_sign (m : Nat) (h : m < 9223372036854775808) : bits .or .u64 (m : Int) 9223372036854775808 = ((m + 9223372036854775808 : Nat) : Int) := by
  have e := u64_or_nat m 9223372036854775808 (by omega) (by decide)
  rw [show ((9223372036854775808 : Nat) : Int) = 9223372036854775808 from rfl] at e
  rw [e]
  congr 1
  have := Nat.two_pow_add_eq_or_of_lt (i := 63) h 1
  rw [Nat.or_comm, ← (show 2 ^ 63 * 1 = 9223372036854775808 from rfl), ← this, Nat.add_comm]

theorem or_zero (m : Nat) (h : m < 9223372036854775808) : bits .or .u64 (m : Int) 0 = (m : Int) := by
  have e := u64_or_nat m 0 (by omega) (by decide)
  rw [show ((0 : Nat) : Int) = 0 from rfl] at e
  rw [e]
  simp

theorem andNot_self : bits .andNot .u64 9223372036854775808 9223372036854775808 = 0 := by decide +kernel
theorem andNot_none : bits .andNot .u64 9223372036854775808 0 = 9223372036854775808 := by decide +kernel
theorem andNot_zero (x : Nat) (h : x < 18446744073709551616) : bits .andNot .u64 0 (x : Int) = 0 := by
  have e := u64_andNot_nat 0 x (by decide) h
  rw [show ((0 : Nat) : Int) = 0 from rfl] at e
  rw [e]
  simp

end Go.Fl64

/- What the small functions of the program answer, call by call: the bits, the sign, the magnitude of a float, whether it is a NaN. -/
namespace Go.Proofs.YtceoeiojoffnnaaGreatDoor.Ie
open Go.RowKit Go.Fl64

theorem run_bits (a : Nat) (w : World) : (callFunc 50 #[.float .f64 a]).run Tryz.prog w = .ok (.value (.int .u64 a)) w :=
  run_callFunc_extern Tryz.func50 (e := Extern.MathFloatBits.float64bits) (by kernel_rfl) (by kernel_rfl) (by kernel_rfl) (by kernel_rfl) #[.float .f64 a] w
theorem run_frombits (a : Int) (w : World) : (callFunc 69 #[.int .u64 a]).run Tryz.prog w = .ok (.value (.float .f64 a.toNat)) w :=
  run_callFunc_extern Tryz.func69 (e := Extern.MathFloatBits.float64frombits) (by kernel_rfl) (by kernel_rfl) (by kernel_rfl) (by kernel_rfl) #[.int .u64 a] w

theorem c32 (a : Nat) (ha : a < 18446744073709551616) (w : World) :
    Calls Tryz.prog 59 #[.float .f64 a] w fun e w' => e = .returned (.int .u64 (mag a)) ∧ w' = w := by
  have hb := run_bits
  go_enter Tryz.func59, Tryz.ntmps59
  go_wp2
  go_ret
  refine ⟨?_, rfl⟩
  show Ending.returned (.int .u64 (bits .andNot .u64 a 9223372036854775808)) = _
  rw [andNot_sign a ha]

theorem c33 (a : Nat) (ha : a < 18446744073709551616) (w : World) :
    Calls Tryz.prog 87 #[.float .f64 a] w fun e w' => e = .returned (.bool (neg a)) ∧ w' = w := by
  have hb := run_bits
  go_enter Tryz.func87, Tryz.ntmps87
  go_wp2
  go_ret
  refine ⟨?_, rfl⟩
  show Ending.returned (.bool (decide (wrap64 (a : Int) < 0))) = _
  rw [wrap_neg a ha]

theorem c9 (a : Nat) (ha : a < 18446744073709551616) (w : World) :
    Calls Tryz.prog 58 #[.float .f64 a] w fun e w' => e = .returned (.tuple #[.int .i64 (cls a), .bool (cneg a)]) ∧ w' = w := by
  have k32 := c32 a ha
  have k33 := c33 a ha
  unfold cls cneg
  generalize (mag a : Int) = m at k32 ⊢
  generalize neg a = s at k33 ⊢
  clear ha
  by_cases h1 : (9218868437227405312 : Int) < m
  · simp only [h1, if_true]
    go_enter Tryz.func58, Tryz.ntmps58
    go_wp2_with (first | (go_at_call 59; refine (k32 _).mono ?_; rintro e w' ⟨rfl, rfl⟩) | (go_at_call 87; refine (k33 _).mono ?_; rintro e w' ⟨rfl, rfl⟩))
    go_ret2
    exact ⟨rfl, rfl⟩
  · cases h2 : (m == 9218868437227405312) with
    | true =>
      simp only [h1, if_true, if_false]
      go_enter Tryz.func58, Tryz.ntmps58
      go_wp2_with (first | (go_at_call 59; refine (k32 _).mono ?_; rintro e w' ⟨rfl, rfl⟩) | (go_at_call 87; refine (k33 _).mono ?_; rintro e w' ⟨rfl, rfl⟩))
      go_ret2
      exact ⟨rfl, rfl⟩
    | false =>
      cases h3 : (m == 0) with
      | true =>
        simp only [h1, if_true, if_false, Bool.false_eq_true]
        go_enter Tryz.func58, Tryz.ntmps58
        go_wp2_with (first | (go_at_call 59; refine (k32 _).mono ?_; rintro e w' ⟨rfl, rfl⟩) | (go_at_call 87; refine (k33 _).mono ?_; rintro e w' ⟨rfl, rfl⟩))
        go_ret2
        exact ⟨rfl, rfl⟩
      | false =>
        by_cases h4 : m < 4503599627370496
        · simp only [h1, h4, if_true, if_false, Bool.false_eq_true]
          go_enter Tryz.func58, Tryz.ntmps58
          go_wp2_with (first | (go_at_call 59; refine (k32 _).mono ?_; rintro e w' ⟨rfl, rfl⟩) | (go_at_call 87; refine (k33 _).mono ?_; rintro e w' ⟨rfl, rfl⟩))
          go_ret2
          exact ⟨rfl, rfl⟩
        · simp only [h1, h4, if_false, Bool.false_eq_true]
          go_enter Tryz.func58, Tryz.ntmps58
          go_wp2_with (first | (go_at_call 59; refine (k32 _).mono ?_; rintro e w' ⟨rfl, rfl⟩) | (go_at_call 87; refine (k33 _).mono ?_; rintro e w' ⟨rfl, rfl⟩))
          go_ret2
          exact ⟨rfl, rfl⟩

theorem c11 (a b : Nat) (ha : a < 18446744073709551616) (hb : b < 18446744073709551616) (w : World) :
    Calls Tryz.prog 67 #[.float .f64 a, .float .f64 b] w fun e w' => e = .returned (.bool (same a b)) ∧ w' = w := by
  have kb := run_bits
  have na := self_ne a ha
  have nb := self_ne b hb
  unfold same
  clear ha hb
  generalize isNaN a = x at na ⊢
  generalize isNaN b = y at nb ⊢
  cases h1 : ((a : Int) == (b : Int)) with
  | true =>
    go_enter Tryz.func67, Tryz.ntmps67
    go_wp2
    go_ret
    exact ⟨rfl, rfl⟩
  | false =>
    cases x with
    | true =>
      go_enter Tryz.func67, Tryz.ntmps67
      go_wp2
      go_ret
      exact ⟨rfl, rfl⟩
    | false =>
      go_enter Tryz.func67, Tryz.ntmps67
      go_wp2
      go_ret
      exact ⟨rfl, rfl⟩

end Go.Proofs.YtceoeiojoffnnaaGreatDoor.Ie

/- What the library's bits.Len64, LeadingZeros64 and TrailingZeros64 answer. -/
namespace Go.Proofs.YtceoeiojoffnnaaGreatDoor.Ie
set_option linter.unusedVariables false
set_option linter.unusedSimpArgs false
open Go.RowKit Go.Fl64

theorem len_fin (x k p : Nat) (y : Int) (hk : k ≤ 56) (hp : 2 ^ k = p) (hy : y.toNat = x / p) (hy0 : x / p ≠ 0) (hy1 : x / p < 256) : wrap64 ((k : Int) + wrap64 (bitLen y.toNat : Int)) = (bitLen x : Int) := by
  have e := bitLen_shift x k (by rw [hp]; exact hy0)
  have l := bitLen_le8 (x / p) hy1
  rw [hp] at e
  rw [hy, e]
  generalize bitLen (x / p) = a at *
  unfold wrap64
  omega
theorem len_fin0 (x : Nat) (hx : x < 256) : wrap64 (wrap64 (bitLen (x : Int).toNat : Int)) = (bitLen x : Int) := by
  have l := bitLen_le8 x hx
  rw [Int.toNat_natCast]
  generalize bitLen x = a at *
  unfold wrap64
  omega

set_option maxRecDepth 1000000 in
set_option maxHeartbeats 1000000 in
theorem c62 (x : Nat) (hx : x < 18446744073709551616) (w : World) :
    Calls Tryz.prog 123 #[.int .u64 x] w fun e w' => e = .returned (.int .i64 (bitLen x)) ∧ w' = w := by
  obtain ⟨X, hX⟩ : ∃ X : Int, X = (x : Int) := ⟨_, rfl⟩
  rw [← hX]
  have hX0 : 0 ≤ X := by omega
  have hX1 : Hid (X < 18446744073709551616) := (by omega : X < 18446744073709551616)
  have hX' : Hid (X = (x : Int)) := hX
  clear hX hx
  go_enter Tryz.func123, Tryz.ntmps123
  go_wp2
  all_goals go_ret
  all_goals (refine ⟨congrArg Ending.returned (congrArg (Value.int IntKind.i64) ?_), rfl⟩)
  all_goals have h1 := hX1.out
  all_goals have h2 := hX'.out
  all_goals clear hX1 hX'
  all_goals subst h2
  all_goals rw [len8tab_get]
  · exact len_fin x 56 72057594037927936 _ (by decide) (by decide) (by omega) (by omega) (by omega)
  · exact len_fin x 48 281474976710656 _ (by decide) (by decide) (by omega) (by omega) (by omega)
  · exact len_fin x 40 1099511627776 _ (by decide) (by decide) (by omega) (by omega) (by omega)
  · exact len_fin x 32 4294967296 _ (by decide) (by decide) (by omega) (by omega) (by omega)
  · exact len_fin x 24 16777216 _ (by decide) (by decide) (by omega) (by omega) (by omega)
  · exact len_fin x 16 65536 _ (by decide) (by decide) (by omega) (by omega) (by omega)
  · exact len_fin x 8 256 _ (by decide) (by decide) (by omega) (by omega) (by omega)
  · exact len_fin0 x (by omega)

theorem bitLen_le64 (x : Nat) (hx : x < 18446744073709551616) : bitLen x ≤ 64 := by
  unfold bitLen
  split
  · omega
  · rename_i h0
    have := (Nat.log2_lt h0).2 (show x < 2 ^ 64 from hx)
    omega

theorem c57 (x : Nat) (hx : x < 18446744073709551616) (w : World) :
    Calls Tryz.prog 129 #[.int .u64 x] w fun e w' => e = .returned (.int .i64 (64 - (bitLen x : Int))) ∧ w' = w := by
  have k := c62 x hx
  have hl : Hid ((bitLen x : Int) ≤ 64) := by have := bitLen_le64 x hx; exact (by omega : (bitLen x : Int) ≤ 64)
  have h0 : Hid (0 ≤ (bitLen x : Int)) := (by omega : 0 ≤ (bitLen x : Int))
  clear hx
  generalize (bitLen x : Int) = b at k hl h0 ⊢
  go_enter Tryz.func129, Tryz.ntmps129
  go_wp2_with (first | (go_at_call 123; refine (k _).mono ?_; rintro e w' ⟨rfl, rfl⟩))
  go_ret
  refine ⟨?_, rfl⟩
  show Ending.returned (.int .i64 (wrap64 (64 - b))) = _
  have hl := hl.out
  have h0 := h0.out
  rw [show wrap64 (64 - b) = 64 - b by unfold wrap64; omega]

theorem tz_key (x a : Nat) (hx : x < 18446744073709551616) (hx0 : x ≠ 0) (hlow : x &&& (18446744073709551616 - x) = a) :
    IntKind.u64.wrap (bits BinOp.and IntKind.u64 (x : Int) (IntKind.u64.wrap (-(x : Int))) * 285870213051353865) / 288230376151711744 = ((a * 285870213051353865 % 18446744073709551616 / 288230376151711744 : Nat) : Int) := by
  have e1 : IntKind.u64.wrap (-(x : Int)) = ((18446744073709551616 - x : Nat) : Int) := by rw [IntKind.wrap_u64]; omega
  rw [e1, u64_and_nat x _ hx (by omega), hlow, IntKind.wrap_u64]
  omega

set_option maxHeartbeats 1000000 in
theorem c51x (x k idx : Nat) (w : World) (hx0 : ((x : Int) == 0) = false)
    (key : IntKind.u64.wrap (bits BinOp.and IntKind.u64 (x : Int) (IntKind.u64.wrap (-(x : Int))) * 285870213051353865) / 288230376151711744 = (idx : Int))
    (hi : idx < 64) (hk : k < 64) (hcell : w.cell? ⟨1, idx, none⟩ = some (.int .u8 k)) :
    Calls Tryz.prog 60 #[.int .u64 x] w fun e w' => e = .returned (.int .i64 k) ∧ w' = w := by
  go_enter Tryz.func60, Tryz.ntmps60
  go_wp2_with (simp only [key])
  go_ret
  exact ⟨rfl, rfl⟩

/-- The table of the library, where the program lays it. -/
def Tab (w : World) : Prop := ∀ i, i < 64 → w.cell? ⟨1, i, none⟩ = some (.int .u8 (Lib.deBruijn64tab.getD i 0 : Nat))

theorem c51 (x : Nat) (hx : x < 18446744073709551616) (hx0 : x ≠ 0) (w : World) (hT : Tab w) :
    Calls Tryz.prog 60 #[.int .u64 x] w fun e w' => e = .returned (.int .i64 (Lib.ctz 64 x)) ∧ w' = w := by
  obtain ⟨hlow, hk⟩ := Lib.lowest_bit 64 x hx0 hx
  obtain ⟨hi, htab⟩ := Lib.deBruijn64_at _ hk
  have hcell := hT _ hi
  rw [htab] at hcell
  exact c51x x _ _ w (by simp; omega) (tz_key x _ hx hx0 hlow) hi hk hcell

end Go.Proofs.YtceoeiojoffnnaaGreatDoor.Ie

/- What the program's lastPlace and Split answer. -/
namespace Go.Proofs.YtceoeiojoffnnaaGreatDoor.Ie
set_option linter.unusedVariables false
set_option linter.unusedSimpArgs false
open Go.RowKit Go.Fl64

/-- The place of the last bit. -/
def lp (a : Nat) : Int := -1075 + max 1 ((mag a / 4503599627370496 : Nat) : Int)
/-- The mantissa, as it is laid. -/
def mant (a : Nat) : Nat := if mag a < 4503599627370496 then mag a else 4503599627370496 + mag a % 4503599627370496

theorem c47 (a : Nat) (ha : a < 18446744073709551616) (w : World) :
    Calls Tryz.prog 61 #[.float .f64 a] w fun e w' => e = .returned (.int .i64 (lp a)) ∧ w' = w := by
  have k32 := c32 a ha
  have e : Hid (wrap64 (-1075 + max 1 (wrap64 ((mag a : Int) / 4503599627370496))) = lp a) := by
    have := mag_lt a
    show wrap64 (-1075 + max 1 (wrap64 ((mag a : Int) / 4503599627370496))) = lp a
    unfold lp wrap64
    omega
  clear ha
  generalize (mag a : Int) = m at k32 e ⊢
  generalize lp a = r at e ⊢
  go_enter Tryz.func61, Tryz.ntmps61
  go_wp2_with (first | (go_at_call 59; refine (k32 _).mono ?_; rintro e w' ⟨rfl, rfl⟩))
  all_goals go_ret
  · refine ⟨?_, rfl⟩
    show Ending.returned (.int .i64 (wrap64 (-1075 + wrap64 (m / 4503599627370496)))) = _
    rw [← e.out, Int.max_eq_right (Int.le_of_lt (by assumption))]
  · refine ⟨?_, rfl⟩
    show Ending.returned (.int .i64 (wrap64 (-1074))) = _
    rw [← e.out, Int.max_eq_left (by assumption)]
    rfl

theorem results_tmp4 {fn : Func} {t u v x : Tmp} (h : fn.results = #[.tmp t, .tmp u, .tmp v, .tmp x]) (tmps : Array Value) (P : Program) (w : World) :
    (results fn tmps).run P w = .ok (.tuple #[tmps.getD t undef, tmps.getD u undef, tmps.getD v undef, tmps.getD x undef]) w := by
  simp [results, h]

theorem tab_drewN {w : World} (h : Tab w) (n : Nat) : Tab (w.drewN n) := h

theorem cls1 {a : Nat} (h : 9218868437227405312 < mag a) : cls a = 1 ∧ cneg a = false := by
  unfold cls cneg
  rw [if_pos (by omega), if_pos (by omega)]
  exact ⟨rfl, rfl⟩
theorem cls2 {a : Nat} (h : mag a = 9218868437227405312) : cls a = 2 ∧ cneg a = neg a := by
  unfold cls cneg
  rw [h]
  exact ⟨rfl, rfl⟩
theorem cls3 {a : Nat} (h : mag a = 0) : cls a = 3 ∧ cneg a = neg a := by
  unfold cls cneg
  rw [h]
  exact ⟨rfl, rfl⟩
theorem int_beq_false {x y : Int} (h : x ≠ y) : (x == y) = false := by simpa using h
theorem cls4 {a : Nat} (h0 : mag a ≠ 0) (h : mag a < 4503599627370496) : cls a = 4 ∧ cneg a = neg a := by
  have e1 : ¬ (9218868437227405312 : Int) < (mag a : Int) := by omega
  have e2 : ((mag a : Int) == 9218868437227405312) = false := int_beq_false (by omega)
  have e3 : ((mag a : Int) == 0) = false := int_beq_false (by omega)
  have e4 : (mag a : Int) < 4503599627370496 := by omega
  refine ⟨?_, if_neg e1⟩
  simp only [cls, e1, e2, e3, e4, if_true, if_false, Bool.false_eq_true]
theorem cls5 {a : Nat} (h : 4503599627370496 ≤ mag a) (h1 : mag a < 9218868437227405312) : cls a = 5 ∧ cneg a = neg a := by
  have e1 : ¬ (9218868437227405312 : Int) < (mag a : Int) := by omega
  have e2 : ((mag a : Int) == 9218868437227405312) = false := int_beq_false (by omega)
  have e3 : ((mag a : Int) == 0) = false := int_beq_false (by omega)
  have e4 : ¬ (mag a : Int) < 4503599627370496 := by omega
  refine ⟨?_, if_neg e1⟩
  simp only [cls, e1, e2, e3, e4, if_false, Bool.false_eq_true]

/-- What Split answers: the odd mantissa, its place, the sign, whether the float is finite. -/
def sM (a : Nat) : Int := if 9218868437227405312 ≤ mag a then 0 else if mag a = 0 then 0 else (mant a : Int) / 2 ^ Lib.ctz 64 (mant a)
def sE (a : Nat) : Int := if 9218868437227405312 ≤ mag a then 0 else if mag a = 0 then 0 else lp a + (Lib.ctz 64 (mant a) : Int)
def sN (a : Nat) : Bool := if 9218868437227405312 ≤ mag a then false else neg a
def sO (a : Nat) : Bool := if 9218868437227405312 ≤ mag a then false else true

theorem c22_12 (a : Nat) (w : World) (s : Bool) (M c : Int) (hc : c = 1 ∨ c = 2)
    (k9 : ∀ w, Calls Tryz.prog 58 #[.float .f64 a] w fun e w' => e = .returned (.tuple #[.int .i64 c, .bool s]) ∧ w' = w)
    (k32 : ∀ w, Calls Tryz.prog 59 #[.float .f64 a] w fun e w' => e = .returned (.int .u64 M) ∧ w' = w) :
    Calls Tryz.prog 30 #[.float .f64 a] w fun e w' => e = .returned (.tuple #[.int .u64 0, .int .i64 0, .bool false, .bool false]) ∧ w' = w := by
  rcases hc with rfl | rfl
  · go_enter Tryz.func30, Tryz.ntmps30
    go_wp2_with (first | (go_at_call 58; refine (k9 _).mono ?_; rintro e w' ⟨rfl, rfl⟩) | (go_at_call 59; refine (k32 _).mono ?_; rintro e w' ⟨rfl, rfl⟩))
    refine bodyPost_ret (results_tmp4 rfl _ _ _) rfl ?_
    exact ⟨rfl, rfl⟩
  · go_enter Tryz.func30, Tryz.ntmps30
    go_wp2_with (first | (go_at_call 58; refine (k9 _).mono ?_; rintro e w' ⟨rfl, rfl⟩) | (go_at_call 59; refine (k32 _).mono ?_; rintro e w' ⟨rfl, rfl⟩))
    refine bodyPost_ret (results_tmp4 rfl _ _ _) rfl ?_
    exact ⟨rfl, rfl⟩

theorem c22_3 (a : Nat) (w : World) (s : Bool) (M : Int)
    (k9 : ∀ w, Calls Tryz.prog 58 #[.float .f64 a] w fun e w' => e = .returned (.tuple #[.int .i64 3, .bool s]) ∧ w' = w)
    (k32 : ∀ w, Calls Tryz.prog 59 #[.float .f64 a] w fun e w' => e = .returned (.int .u64 M) ∧ w' = w) :
    Calls Tryz.prog 30 #[.float .f64 a] w fun e w' => e = .returned (.tuple #[.int .u64 0, .int .i64 0, .bool s, .bool true]) ∧ w' = w := by
  go_enter Tryz.func30, Tryz.ntmps30
  go_wp2_with (first | (go_at_call 58; refine (k9 _).mono ?_; rintro e w' ⟨rfl, rfl⟩) | (go_at_call 59; refine (k32 _).mono ?_; rintro e w' ⟨rfl, rfl⟩))
  refine bodyPost_ret (results_tmp4 rfl _ _ _) rfl ?_
  exact ⟨rfl, rfl⟩

theorem c22_4 (a : Nat) (w : World) (s : Bool) (x : Nat) (T L M : Int)
    (k9 : ∀ w, Calls Tryz.prog 58 #[.float .f64 a] w fun e w' => e = .returned (.tuple #[.int .i64 4, .bool s]) ∧ w' = w)
    (k32 : ∀ w, Calls Tryz.prog 59 #[.float .f64 a] w fun e w' => e = .returned (.int .u64 M) ∧ w' = w)
    (k47 : ∀ w, Calls Tryz.prog 61 #[.float .f64 a] w fun e w' => e = .returned (.int .i64 L) ∧ w' = w)
    (k51 : ∀ w, Tab w → Calls Tryz.prog 60 #[.int .u64 x] w fun e w' => e = .returned (.int .i64 T) ∧ w' = w)
    (hand : bits .and .u64 M 4503599627370495 = (x : Int)) (hT0 : 0 ≤ T) (hT1 : T < 64) (hT : Tab w) :
    Calls Tryz.prog 30 #[.float .f64 a] w fun e w' => e = .returned (.tuple #[.int .u64 ((x : Int) / 2 ^ T.toNat), .int .i64 (wrap64 (L + T)), .bool s, .bool true]) ∧ ∃ n, w' = w.drewN n := by
  have KT : Hid (Tab w) := hT
  clear hT
  go_enter Tryz.func30, Tryz.ntmps30
  go_wp2_with (first | (go_at_call 58; refine (k9 _).mono ?_; rintro e w' ⟨rfl, rfl⟩) | (go_at_call 59; refine (k32 _).mono ?_; rintro e w' ⟨rfl, rfl⟩) | (go_at_call 60; refine (k51 _ KT.out).mono ?_; rintro e w' ⟨rfl, rfl⟩))
  go_quiet (first | (go_at_call 61; refine Calls.quiet_of_same (k47 _)))
  go_wp2
  refine bodyPost_ret (results_tmp4 rfl _ _ _) rfl ?_
  exact ⟨rfl, _, rfl⟩

theorem c22_5 (a : Nat) (w : World) (s : Bool) (x : Nat) (T L M m : Int)
    (k9 : ∀ w, Calls Tryz.prog 58 #[.float .f64 a] w fun e w' => e = .returned (.tuple #[.int .i64 5, .bool s]) ∧ w' = w)
    (k32 : ∀ w, Calls Tryz.prog 59 #[.float .f64 a] w fun e w' => e = .returned (.int .u64 M) ∧ w' = w)
    (k47 : ∀ w, Calls Tryz.prog 61 #[.float .f64 a] w fun e w' => e = .returned (.int .i64 L) ∧ w' = w)
    (k51 : ∀ w, Tab w → Calls Tryz.prog 60 #[.int .u64 x] w fun e w' => e = .returned (.int .i64 T) ∧ w' = w)
    (hand : bits .and .u64 M 4503599627370495 = m) (hor : bits .or .u64 m 4503599627370496 = (x : Int)) (hT0 : 0 ≤ T) (hT1 : T < 64) (hT : Tab w) :
    Calls Tryz.prog 30 #[.float .f64 a] w fun e w' => e = .returned (.tuple #[.int .u64 ((x : Int) / 2 ^ T.toNat), .int .i64 (wrap64 (L + T)), .bool s, .bool true]) ∧ ∃ n, w' = w.drewN n := by
  have KT : Hid (Tab w) := hT
  clear hT
  go_enter Tryz.func30, Tryz.ntmps30
  go_wp2_with (first | (go_at_call 58; refine (k9 _).mono ?_; rintro e w' ⟨rfl, rfl⟩) | (go_at_call 59; refine (k32 _).mono ?_; rintro e w' ⟨rfl, rfl⟩) | (go_at_call 60; refine (k51 _ KT.out).mono ?_; rintro e w' ⟨rfl, rfl⟩))
  go_quiet (first | (go_at_call 61; refine Calls.quiet_of_same (k47 _)))
  go_wp2
  refine bodyPost_ret (results_tmp4 rfl _ _ _) rfl ?_
  exact ⟨rfl, _, rfl⟩

theorem and_mant (x : Nat) (h : x < 18446744073709551616) : bits .and .u64 (x : Int) 4503599627370495 = ((x % 4503599627370496 : Nat) : Int) := by
  have e := u64_and_nat x 4503599627370495 h (by decide)
  rw [show ((4503599627370495 : Nat) : Int) = 4503599627370495 from rfl] at e
  rw [e]
  congr 1
  have := Nat.and_two_pow_sub_one_eq_mod x 52
  simpa using this
theorem or_mant (x : Nat) (h : x < 4503599627370496) : bits .or .u64 (x : Int) 4503599627370496 = ((4503599627370496 + x : Nat) : Int) := by
  have e := u64_or_nat x 4503599627370496 (by omega) (by decide)
  rw [show ((4503599627370496 : Nat) : Int) = 4503599627370496 from rfl] at e
  rw [e]
  congr 1
  have := Nat.two_pow_add_eq_or_of_lt (i := 52) h 1
  rw [Nat.or_comm, ← (show 2 ^ 52 * 1 = 4503599627370496 from rfl), ← this]

theorem mant_bound (a : Nat) : mant a < 9007199254740992 := by
  unfold mant
  split <;> omega
theorem mant_ne {a : Nat} (h : mag a ≠ 0) : mant a ≠ 0 := by
  unfold mant
  split <;> omega
theorem lp_bound (a : Nat) : -1074 ≤ lp a ∧ lp a ≤ 972 := by
  have := mag_lt a
  unfold lp
  omega

theorem c22 (a : Nat) (ha : a < 18446744073709551616) (w : World) (hT : Tab w) :
    Calls Tryz.prog 30 #[.float .f64 a] w fun e w' => e = .returned (.tuple #[.int .u64 (sM a), .int .i64 (sE a), .bool (sN a), .bool (sO a)]) ∧ ∃ n, w' = w.drewN n := by
  have k9 := c9 a ha
  have k32 := c32 a ha
  have k47 := c47 a ha
  by_cases h1 : 9218868437227405312 ≤ mag a
  · unfold sM sE sN sO
    rw [if_pos h1, if_pos h1, if_pos h1, if_pos h1]
    by_cases h2 : mag a = 9218868437227405312
    · rw [(cls2 h2).1] at k9
      exact (c22_12 a w _ _ 2 (.inr rfl) k9 k32).mono fun e w' h => ⟨h.1, 0, h.2⟩
    · rw [(cls1 (a := a) (by omega)).1] at k9
      exact (c22_12 a w _ _ 1 (.inl rfl) k9 k32).mono fun e w' h => ⟨h.1, 0, h.2⟩
  · unfold sM sE sN sO
    rw [if_neg h1, if_neg h1, if_neg h1, if_neg h1]
    by_cases h2 : mag a = 0
    · rw [if_pos h2, if_pos h2]
      rw [(cls3 h2).1, (cls3 h2).2] at k9
      exact (c22_3 a w _ _ k9 k32).mono fun e w' h => ⟨h.1, 0, h.2⟩
    · rw [if_neg h2, if_neg h2]
      have hm := mant_ne h2
      have hb := mant_bound a
      have hl := lp_bound a
      obtain ⟨_, hk⟩ := Lib.lowest_bit 64 (mant a) hm (by omega)
      have k51 := fun w hT => c51 (mant a) (by omega) hm w hT
      have ew : wrap64 (lp a + (Lib.ctz 64 (mant a) : Int)) = lp a + (Lib.ctz 64 (mant a) : Int) := by unfold wrap64; omega
      by_cases h3 : mag a < 4503599627370496
      · rw [(cls4 h2 h3).1, (cls4 h2 h3).2] at k9
        have e : mant a = mag a := if_pos h3
        have := c22_4 a w _ (mant a) (Lib.ctz 64 (mant a)) (lp a) (mag a) k9 k32 k47 k51 (by rw [and_mant _ (by omega), e]; omega) (by omega) (by omega) hT
        rw [ew, Int.toNat_natCast] at this
        exact this
      · rw [(cls5 (a := a) (by omega) (by omega)).1, (cls5 (a := a) (by omega) (by omega)).2] at k9
        have e : mant a = 4503599627370496 + mag a % 4503599627370496 := if_neg h3
        have := c22_5 a w _ (mant a) (Lib.ctz 64 (mant a)) (lp a) (mag a) _ k9 k32 k47 k51 (and_mant _ (by omega)) (by rw [or_mant _ (by omega), e]) (by omega) (by omega) hT
        rw [ew, Int.toNat_natCast] at this
        exact this

end Go.Proofs.YtceoeiojoffnnaaGreatDoor.Ie
