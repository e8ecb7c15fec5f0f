/- Own work: contracts of the program's functions, part 7: Tab3 F2 FL1 FL2 SA2 SA1 SA4 SA5 RB1 RB2 RB3 R7 RB4 RB5 RB6 R8 RB7 RB8 RB9 W33 RC1 RW1 SA3 RC2 RC3 V1 V2 E2 V3 E3 V4 RC4 W42. -/
import Derived.Test.YtlicjplmcepbnaaGreatDoorA6
import Derived.Test.YtlicjplmcepbnaaGreatDoorA4
import Derived.Laws.FloatArith
import Derived.Laws.NewFold
import Derived.Test.YtlicjplmcepbnaaGreatDoorA5
import Derived.Test.YtlicjplmcepbnaaGreatDoorA2
import Derived.Test.YtlicjplmcepbnaaGreatDoorA3
import Derived.Laws.AppendOwnNone

/- The two tables that layer 3's rows list, brought to the walks; and a world in which they hold their numbers. -/
namespace Go.Proofs.YtlicjplmcepbnaaGreatDoor
set_option linter.unusedVariables false
set_option linter.unusedSimpArgs false
open Go.RowKit Go.Fl64

/-- the two tables, out of the rows' list in its order: 32, 64 -/
theorem tabs2_of {W : World} (h : laidMet Tryz.prog [("math/bits.deBruijn32tab", Lib.tabData .u8 zs32), ("math/bits.deBruijn64tab", Lib.tabData .u8 zs64)] W) : Tab32 W ∧ Ie.Tab W :=
  ⟨tab32_of (Lib.tabIs_of_head g32 g32t Tryz.underlying120 Tryz.underlying5 cells5 cells130 h),
   tab64_of (Lib.tabIs_of_head g64 g64t Tryz.underlying103 Tryz.underlying5 cells5 cells114 (laid_tail h))⟩

/-- A world whose tables' blocks hold what their initialisers lay. -/
def laidOn2 (w : World) : World :=
  { w with heap := (w.heap.modify 1 fun
      | .cells _ t frozen => .cells #[.int .u8 0, .int .u8 1, .int .u8 56, .int .u8 2, .int .u8 57, .int .u8 49, .int .u8 28, .int .u8 3, .int .u8 61, .int .u8 58, .int .u8 42, .int .u8 50, .int .u8 38, .int .u8 29, .int .u8 17, .int .u8 4, .int .u8 62, .int .u8 47, .int .u8 59, .int .u8 36, .int .u8 45, .int .u8 43, .int .u8 51, .int .u8 22, .int .u8 53, .int .u8 39, .int .u8 33, .int .u8 30, .int .u8 24, .int .u8 18, .int .u8 12, .int .u8 5, .int .u8 63, .int .u8 55, .int .u8 48, .int .u8 27, .int .u8 60, .int .u8 41, .int .u8 37, .int .u8 16, .int .u8 46, .int .u8 35, .int .u8 44, .int .u8 21, .int .u8 52, .int .u8 32, .int .u8 23, .int .u8 11, .int .u8 54, .int .u8 26, .int .u8 40, .int .u8 15, .int .u8 34, .int .u8 20, .int .u8 31, .int .u8 10, .int .u8 25, .int .u8 14, .int .u8 19, .int .u8 9, .int .u8 13, .int .u8 8, .int .u8 7, .int .u8 6] t frozen
      | o => o).modify 2 fun
      | .cells _ t frozen => .cells #[.int .u8 0, .int .u8 1, .int .u8 28, .int .u8 2, .int .u8 29, .int .u8 14, .int .u8 24, .int .u8 3, .int .u8 30, .int .u8 22, .int .u8 20, .int .u8 15, .int .u8 25, .int .u8 17, .int .u8 4, .int .u8 8, .int .u8 31, .int .u8 27, .int .u8 13, .int .u8 23, .int .u8 21, .int .u8 19, .int .u8 16, .int .u8 7, .int .u8 26, .int .u8 12, .int .u8 18, .int .u8 6, .int .u8 11, .int .u8 5, .int .u8 10, .int .u8 9] t frozen
      | o => o }
end Go.Proofs.YtlicjplmcepbnaaGreatDoor
/- A finite float and nought, added: the float; of noughts +0. -/
namespace Go.Fl64
set_option linter.unusedVariables false
set_option linter.unusedSimpArgs false

theorem word_self (a : Nat) (h : a < 18446744073709551616) : Ieee.double.word (neg a) (mag a) = a := by
  have hs : Ieee.double.signWeight = 9223372036854775808 := by decide
  unfold Ieee.Format.word neg mag
  rw [hs]
  by_cases hn : 9223372036854775808 ≤ a
  · rw [decide_eq_true hn, if_pos rfl]; omega
  · rw [decide_eq_false hn, if_neg (by decide)]; omega

end Go.Fl64
/- Floats that are not finite, and what sums of them are; a float and itself, taken away. -/
namespace Go.Fl64
set_option linter.unusedVariables false
set_option linter.unusedSimpArgs false

/-- finite -/
def fin (a : Nat) : Bool := decide (mag a < 9218868437227405312)

/-- alike: the same bits, or both a NaN -/
def lk (F X : Nat) : Prop := F < 18446744073709551616 ∧ same F X = true
theorem lk.refl {F : Nat} (h : F < 18446744073709551616) : lk F F := ⟨h, same_self F⟩
theorem lk.nan {F X : Nat} (h : F < 18446744073709551616) (h1 : isNaN F = true) (h2 : isNaN X = true) : lk F X := ⟨h, by simp [same, h1, h2]⟩
theorem lk.eq {F X : Nat} (h : lk F X) (h2 : isNaN X = false) : F = X := by
  have := h.2
  simp only [same, h2, Bool.and_false, Bool.or_false, beq_iff_eq] at this
  omega

/-- the sign turned -/
def ngt (a : Nat) : Nat := if neg a then a - 9223372036854775808 else a + 9223372036854775808
theorem ngt_lt {a : Nat} (h : a < 18446744073709551616) : ngt a < 18446744073709551616 := by
  unfold ngt neg
  by_cases hn : 9223372036854775808 ≤ a
  · rw [decide_eq_true hn, if_pos rfl]; omega
  · rw [decide_eq_false hn, if_neg (by decide)]; omega
theorem ngt_mag {a : Nat} (h : a < 18446744073709551616) : mag (ngt a) = mag a := by
  unfold ngt neg mag
  by_cases hn : 9223372036854775808 ≤ a
  · rw [decide_eq_true hn, if_pos rfl]; omega
  · rw [decide_eq_false hn, if_neg (by decide)]; omega
theorem ngt_neg {a : Nat} (h : a < 18446744073709551616) : neg (ngt a) = !neg a := by
  unfold ngt neg
  by_cases hn : 9223372036854775808 ≤ a
  · rw [decide_eq_true hn, if_pos rfl]; simp; omega
  · rw [decide_eq_false hn, if_neg (by decide)]; simp

theorem xor_sign (a : Nat) (h : a < 18446744073709551616) : a ^^^ 9223372036854775808 = ngt a := by
  unfold ngt neg
  by_cases hn : 9223372036854775808 ≤ a
  · rw [decide_eq_true hn, if_pos rfl]
    have e1 := Nat.two_pow_add_eq_or_of_lt (i := 63) (show a - 9223372036854775808 < 2 ^ 63 by omega) 1
    apply Nat.eq_of_testBit_eq
    intro i
    have e2 : a = 2 ^ 63 * 1 + (a - 9223372036854775808) := by omega
    rw [Nat.testBit_xor, show (9223372036854775808 : Nat) = 2 ^ 63 from rfl, Nat.testBit_two_pow]
    rw [show (9223372036854775808 : Nat) = 2 ^ 63 from rfl] at e1 e2
    have e3 : a.testBit i = (2 ^ 63 ||| (a - 2 ^ 63)).testBit i := by
      rw [Nat.mul_one] at e1
      rw [← e1]
      congr 1
    rw [e3, Nat.testBit_or, Nat.testBit_two_pow]
    by_cases hi : 63 = i
    · subst hi
      have : (a - 2 ^ 63).testBit 63 = false := Nat.testBit_lt_two_pow (by omega)
      rw [this]
      simp
    · simp [hi]
  · rw [decide_eq_false hn, if_neg (by decide)]
    have e1 := Nat.two_pow_add_eq_or_of_lt (i := 63) (show a < 2 ^ 63 by omega) 1
    rw [Nat.mul_one] at e1
    rw [show (9223372036854775808 : Nat) = 2 ^ 63 from rfl, Nat.add_comm a, e1]
    apply Nat.eq_of_testBit_eq
    intro i
    rw [Nat.testBit_xor, Nat.testBit_or, Nat.testBit_two_pow]
    by_cases hi : 63 = i
    · subst hi
      have : a.testBit 63 = false := Nat.testBit_lt_two_pow (by omega)
      rw [this]
      simp
    · simp [hi]
theorem negF (a : Nat) (h : a < 18446744073709551616) : Op.negFloat .f64 a = ngt a := by
  rw [← xor_sign a h]
  rfl

theorem sum_nan_left (d : Ieee.Datum) (s : Bool) (f : Nat) : Ieee.Datum.sum (.nan s f) d = none := by cases d <;> rfl
theorem sum_nan_right (d : Ieee.Datum) (s : Bool) (f : Nat) : Ieee.Datum.sum d (.nan s f) = none := by cases d <;> rfl

theorem cases3 (a : Nat) : mag a < 9218868437227405312 ∨ mag a = 9218868437227405312 ∨ 9218868437227405312 < mag a := by omega

theorem sub_fin {a : Nat} (h : a < 18446744073709551616) (hf : mag a < 9218868437227405312) : FloatKind.f64.format.sub a a = some 0 := by
  rw [f64]
  obtain ⟨m, k, e1, e2⟩ := read_number a h hf
  unfold Ieee.Format.sub
  rw [e1]
  simp only [Ieee.Datum.opposite, Ieee.Datum.sum, Option.map_some]
  congr 1
  have : Ieee.signed (neg a) m (-1074 + (k : Int) - min (-1074 + (k : Int)) (-1074 + (k : Int))).toNat + Ieee.signed (!neg a) m (-1074 + (k : Int) - min (-1074 + (k : Int)) (-1074 + (k : Int))).toNat = 0 := by
    unfold Ieee.signed
    cases neg a <;> simp <;> omega
  rw [this]
  cases neg a <;> rfl
theorem sub_non {a : Nat} (h : a < 18446744073709551616) (hf : 9218868437227405312 ≤ mag a) : FloatKind.f64.format.sub a a = none := by
  rw [f64]
  unfold Ieee.Format.sub
  rcases cases3 a with h1 | h1 | h1
  · omega
  · rw [read_infinity a h h1]
    simp only [Ieee.Datum.opposite, Ieee.Datum.sum]
    cases neg a <;> rfl
  · obtain ⟨s, f, e⟩ := read_nan a h1
    rw [e, sum_nan_left]; rfl

/-- what the document answers of a sum where one is not finite -/
def addX (a b : Nat) : Nat :=
  if isNaN a || isNaN b then 9221120237041090560
  else if mag a = 9218868437227405312 then (if mag b = 9218868437227405312 then (if neg a = neg b then a else 9221120237041090560) else a)
  else b

theorem word_inf (a : Nat) (h : a < 18446744073709551616) (hf : mag a = 9218868437227405312) : Ieee.double.write (.infinity (neg a)) = a := by
  have := word_self a h
  rw [hf] at this
  exact this

theorem nan_x : isNaN 9221120237041090560 = true := by decide
theorem add_non {a b : Nat} (ha : a < 18446744073709551616) (hb : b < 18446744073709551616) (h : fin a = false ∨ fin b = false) :
    (FloatKind.f64.format.add a b = none ∧ isNaN (addX a b) = true) ∨ FloatKind.f64.format.add a b = some (addX a b) := by
  rw [f64]
  unfold Ieee.Format.add addX
  rcases cases3 a with h1 | h1 | h1
  · rcases cases3 b with g1 | g1 | g1
    · unfold fin at h; simp at h; omega
    · obtain ⟨m, k, e1, -⟩ := read_number a ha h1
      have n1 : isNaN a = false := by unfold isNaN; simp; omega
      have n2 : isNaN b = false := by unfold isNaN; simp; omega
      rw [e1, read_infinity b hb g1, n1, n2]
      refine .inr ?_
      rw [if_neg (by decide), if_neg (by omega)]
      simp only [Ieee.Datum.sum, Option.map_some, word_inf b hb g1]
    · obtain ⟨s, f, e⟩ := read_nan b g1
      have n2 : isNaN b = true := by unfold isNaN; simp; omega
      rw [e, n2, sum_nan_right]
      exact .inl ⟨rfl, by rw [Bool.or_true, if_pos rfl]; exact nan_x⟩
  · have n1 : isNaN a = false := by unfold isNaN; simp; omega
    rw [read_infinity a ha h1, n1, if_pos h1]
    rcases cases3 b with g1 | g1 | g1
    · obtain ⟨m, k, e1, -⟩ := read_number b hb g1
      have n2 : isNaN b = false := by unfold isNaN; simp; omega
      rw [e1, n2]
      refine .inr ?_
      rw [if_neg (by decide), if_neg (by omega)]
      simp only [Ieee.Datum.sum, Option.map_some, word_inf a ha h1]
    · have n2 : isNaN b = false := by unfold isNaN; simp; omega
      rw [read_infinity b hb g1, n2, if_neg (by decide), if_pos g1]
      simp only [Ieee.Datum.sum]
      by_cases hs : neg a = neg b
      · rw [if_pos hs, if_pos hs]
        refine .inr ?_
        simp only [Option.map_some, word_inf a ha h1]
      · rw [if_neg hs, if_neg hs]
        exact .inl ⟨rfl, nan_x⟩
    · obtain ⟨s, f, e⟩ := read_nan b g1
      have n2 : isNaN b = true := by unfold isNaN; simp; omega
      rw [e, n2, sum_nan_right]
      exact .inl ⟨rfl, by rw [Bool.or_true, if_pos rfl]; exact nan_x⟩
  · obtain ⟨s, f, e⟩ := read_nan a h1
    have n1 : isNaN a = true := by unfold isNaN; simp; omega
    rw [e, n1, sum_nan_left]
    exact .inl ⟨rfl, by rw [Bool.true_or, if_pos rfl]; exact nan_x⟩

/-- an operation with no answer gives a NaN, drawn -/
theorem run_nan {P : Program} (w : World) (op : BinOp) (t : TypeId) (x y : Nat) (hop : op = .add ∨ op = .sub ∨ op = .mul ∨ op = .quo) (h : floatBits op .f64 x y = none) :
    ∃ n, n < 18446744073709551616 ∧ isNaN n = true ∧ (binOp op t (.float .f64 x) (.float .f64 y)).run P w = .ok (.float .f64 n) w.drew := by
  refine ⟨(Question.nanBits .f64 x y).cut (w.tape w.drawn (.nanBits .f64 x y)), ?_, ?_, ?_⟩
  · simp only [Question.cut]; omega
  · unfold isNaN mag; apply decide_eq_true; simp only [Question.cut]; generalize w.tape w.drawn _ = u; have h2 := Nat.mod_lt (u / 2) (show 0 < 2 ^ 52 - 1 by decide); generalize u / 2 % (2 ^ 52 - 1) = v at *; rcases (show u % 2 = 0 ∨ u % 2 = 1 by omega) with h3 | h3 <;> rw [h3] <;> omega
  · rcases hop with rfl | rfl | rfl | rfl
    all_goals simp only [floatBits] at h
    all_goals simp [binOp, Op.floatArith, h, Question.forced]
end Go.Fl64
/- Products and quotients of floats of which one is nought or not finite. -/
namespace Go.Fl64
set_option linter.unusedVariables false
set_option linter.unusedSimpArgs false

/-- finite and not nought -/
def pln (a : Nat) : Bool := decide (mag a < 9218868437227405312) && decide (mag a ≠ 0)
theorem pln_false {a : Nat} : pln a = false ↔ (¬ mag a < 9218868437227405312 ∨ mag a = 0) := by
  unfold pln
  by_cases h1 : mag a < 9218868437227405312 <;> by_cases h2 : mag a = 0 <;> simp [h1, h2]
theorem pln_true {a : Nat} : pln a = true ↔ (mag a < 9218868437227405312 ∧ mag a ≠ 0) := by
  unfold pln
  by_cases h1 : mag a < 9218868437227405312 <;> by_cases h2 : mag a = 0 <;> simp [h1, h2]

theorem write_inf (s : Bool) : Ieee.double.write (.infinity s) = sig s 9218868437227405312 := by cases s <;> decide +kernel
theorem write_nought (s : Bool) (e : Int) : Ieee.double.write (.number s 0 e) = sig s 0 := by
  have : Ieee.double.write (.number s 0 e) = Ieee.double.word s 0 := by
    show Ieee.double.nearest s 0 e = _
    unfold Ieee.Format.nearest
    rw [if_pos rfl]
  rw [this]
  cases s <;> decide +kernel

theorem prod_nan_left (d : Ieee.Datum) (s : Bool) (f : Nat) : Ieee.Datum.product (.nan s f) d = none := by cases d <;> rfl
theorem prod_nan_right (d : Ieee.Datum) (s : Bool) (f : Nat) : Ieee.Datum.product d (.nan s f) = none := by cases d <;> rfl
theorem quot_nan_left (n : Nat) (d : Ieee.Datum) (s : Bool) (f : Nat) : Ieee.Datum.quotient n (.nan s f) d = none := by cases d <;> rfl
theorem quot_nan_right (n : Nat) (d : Ieee.Datum) (s : Bool) (f : Nat) : Ieee.Datum.quotient n d (.nan s f) = none := by cases d <;> rfl

/-- what the document answers of a product of which one is nought or not finite -/
def mulX (a b : Nat) : Nat :=
  if isNaN a || isNaN b then 9221120237041090560
  else if mag a = 9218868437227405312 ∨ mag b = 9218868437227405312 then (if mag a = 0 ∨ mag b = 0 then 9221120237041090560 else sig (neg a != neg b) 9218868437227405312)
  else sig (neg a != neg b) 0
/-- and of a quotient -/
def divX (a b : Nat) : Nat :=
  if isNaN a || isNaN b || (decide (mag a = 9218868437227405312) && decide (mag b = 9218868437227405312)) || (decide (mag a = 0) && decide (mag b = 0)) then 9221120237041090560
  else if mag a = 9218868437227405312 ∨ mag b = 0 then sig (neg a != neg b) 9218868437227405312
  else sig (neg a != neg b) 0

theorem xor_bne (s t : Bool) : (s ^^ t) = (s != t) := by cases s <;> cases t <;> rfl
theorem nan_of {a : Nat} (h : 9218868437227405312 < mag a) : isNaN a = true := by unfold isNaN; simp; omega
theorem nan_no {a : Nat} (h : mag a ≤ 9218868437227405312) : isNaN a = false := by unfold isNaN; simp; omega
theorem num_nought {a m k : Nat} (e : m * 2 ^ k = val (mag a)) : m = 0 ↔ mag a = 0 := by
  have hp := Nat.two_pow_pos k
  constructor
  · intro h
    rw [h, Nat.zero_mul] at e
    exact (val_eq_zero _).1 e.symm
  · intro h
    rw [h, val_zero] at e
    rcases Nat.mul_eq_zero.1 e with h | h
    · exact h
    · omega

theorem mul_non {a b : Nat} (ha : a < 18446744073709551616) (hb : b < 18446744073709551616) (h : pln a = false ∨ pln b = false) :
    (FloatKind.f64.format.mul a b = none ∧ isNaN (mulX a b) = true) ∨ FloatKind.f64.format.mul a b = some (mulX a b) := by
  rw [f64]
  unfold Ieee.Format.mul mulX
  rcases cases3 a with h1 | h1 | h1
  · obtain ⟨m, k, e1, e2⟩ := read_number a ha h1
    have n1 := nan_no (a := a) (by omega)
    rw [e1, n1]
    rcases cases3 b with g1 | g1 | g1
    · obtain ⟨n, j, e3, e4⟩ := read_number b hb g1
      have n2 := nan_no (a := b) (by omega)
      rw [e3, n2, if_neg (by decide), if_neg (by omega)]
      refine .inr ?_
      simp only [Ieee.Datum.product, Option.map_some]
      have hz : m * n = 0 := by
        rcases h with h | h
        · rcases pln_false.1 h with h | h
          · omega
          · rw [(num_nought e2).2 h, Nat.zero_mul]
        · rcases pln_false.1 h with h | h
          · omega
          · rw [(num_nought e4).2 h, Nat.mul_zero]
      rw [hz, write_nought, xor_bne]
    · have n2 := nan_no (a := b) (by omega)
      rw [read_infinity b hb g1, n2, if_neg (by decide), if_pos (.inr g1)]
      simp only [Ieee.Datum.product]
      by_cases hz : mag a = 0
      · rw [if_pos ((num_nought e2).2 hz), if_pos (.inl hz)]
        exact .inl ⟨rfl, nan_x⟩
      · rw [if_neg (fun h => hz ((num_nought e2).1 h)), if_neg (by omega)]
        refine .inr ?_
        simp only [Option.map_some, write_inf, xor_bne]
        cases neg a <;> cases neg b <;> rfl
    · obtain ⟨s, f, e⟩ := read_nan b g1
      rw [e, nan_of g1, prod_nan_right]
      exact .inl ⟨rfl, by rw [Bool.or_true, if_pos rfl]; exact nan_x⟩
  · have n1 := nan_no (a := a) (by omega)
    rw [read_infinity a ha h1, n1]
    rcases cases3 b with g1 | g1 | g1
    · obtain ⟨n, j, e3, e4⟩ := read_number b hb g1
      have n2 := nan_no (a := b) (by omega)
      rw [e3, n2, if_neg (by decide), if_pos (.inl h1)]
      simp only [Ieee.Datum.product]
      by_cases hz : mag b = 0
      · rw [if_pos ((num_nought e4).2 hz), if_pos (.inr hz)]
        exact .inl ⟨rfl, nan_x⟩
      · rw [if_neg (fun h => hz ((num_nought e4).1 h)), if_neg (by omega)]
        refine .inr ?_
        simp only [Option.map_some, write_inf, xor_bne]
    · have n2 := nan_no (a := b) (by omega)
      rw [read_infinity b hb g1, n2, if_neg (by decide), if_pos (.inl h1), if_neg (by omega)]
      refine .inr ?_
      simp only [Ieee.Datum.product, Option.map_some, write_inf, xor_bne]
    · obtain ⟨s, f, e⟩ := read_nan b g1
      rw [e, nan_of g1, prod_nan_right]
      exact .inl ⟨rfl, by rw [Bool.or_true, if_pos rfl]; exact nan_x⟩
  · obtain ⟨s, f, e⟩ := read_nan a h1
    rw [e, nan_of h1, prod_nan_left]
    exact .inl ⟨rfl, by rw [Bool.true_or, if_pos rfl]; exact nan_x⟩

theorem div_non {a b : Nat} (ha : a < 18446744073709551616) (hb : b < 18446744073709551616) (h : pln a = false ∨ pln b = false) :
    (FloatKind.f64.format.div a b = none ∧ isNaN (divX a b) = true) ∨ FloatKind.f64.format.div a b = some (divX a b) := by
  rw [f64]
  unfold Ieee.Format.div divX
  rcases cases3 a with h1 | h1 | h1
  · obtain ⟨m, k, e1, e2⟩ := read_number a ha h1
    have n1 := nan_no (a := a) (by omega)
    rw [e1, n1, decide_eq_false (show ¬ mag a = 9218868437227405312 by omega)]
    rcases cases3 b with g1 | g1 | g1
    · obtain ⟨n, j, e3, e4⟩ := read_number b hb g1
      have n2 := nan_no (a := b) (by omega)
      rw [e3, n2]
      simp only [Ieee.Datum.quotient]
      by_cases hb0 : mag b = 0
      · rw [if_pos ((num_nought e4).2 hb0)]
        by_cases ha0 : mag a = 0
        · rw [if_pos ((num_nought e2).2 ha0), decide_eq_true ha0, decide_eq_true hb0]
          exact .inl ⟨rfl, nan_x⟩
        · rw [if_neg (fun h => ha0 ((num_nought e2).1 h)), decide_eq_false ha0]
          refine .inr ?_
          simp only [Option.map_some, write_inf, xor_bne]
          rw [if_neg (by simp), if_pos (.inr hb0)]
      · rw [if_neg (fun h => hb0 ((num_nought e4).1 h)), decide_eq_false hb0]
        have ha0 : mag a = 0 := by
          rcases h with h | h
          · rcases pln_false.1 h with h | h
            · omega
            · exact h
          · rcases pln_false.1 h with h | h
            · omega
            · exact absurd h hb0
        have hm0 := (num_nought e2).2 ha0
        refine .inr ?_
        rw [hm0]
        simp only [Nat.zero_shiftLeft, Nat.zero_div, Nat.zero_mod, Option.map_some]
        rw [if_neg (by simp), if_neg (by omega)]
        simp only [bne_self_eq_false, Bool.toNat_false, Nat.mul_zero, Nat.add_zero, write_nought, xor_bne]
    · have n2 := nan_no (a := b) (by omega)
      rw [read_infinity b hb g1, n2, if_neg (by simp; omega), if_neg (by omega)]
      refine .inr ?_
      simp only [Ieee.Datum.quotient, Option.map_some, write_nought, xor_bne]
    · obtain ⟨s, f, e⟩ := read_nan b g1
      rw [e, nan_of g1, quot_nan_right]
      exact .inl ⟨rfl, by rw [if_pos (by simp)]; exact nan_x⟩
  · have n1 := nan_no (a := a) (by omega)
    rw [read_infinity a ha h1, n1, decide_eq_true h1, decide_eq_false (show ¬ mag a = 0 by omega)]
    rcases cases3 b with g1 | g1 | g1
    · obtain ⟨n, j, e3, e4⟩ := read_number b hb g1
      have n2 := nan_no (a := b) (by omega)
      rw [e3, n2, if_neg (by simp; omega), if_pos (.inl h1)]
      refine .inr ?_
      simp only [Ieee.Datum.quotient, Option.map_some, write_inf, xor_bne]
    · have n2 := nan_no (a := b) (by omega)
      rw [read_infinity b hb g1, n2, if_pos (by simp [g1])]
      exact .inl ⟨rfl, nan_x⟩
    · obtain ⟨s, f, e⟩ := read_nan b g1
      rw [e, nan_of g1, quot_nan_right]
      exact .inl ⟨rfl, by rw [if_pos (by simp)]; exact nan_x⟩
  · obtain ⟨s, f, e⟩ := read_nan a h1
    rw [e, nan_of h1, quot_nan_left]
    exact .inl ⟨rfl, by rw [if_pos (by simp)]; exact nan_x⟩
end Go.Fl64
/- The program's helpers over exact numbers: a float as one, sums, products, differences, rounded. -/
namespace Go.Proofs.YtlicjplmcepbnaaGreatDoor
set_option linter.unusedVariables false
set_option linter.unusedSimpArgs false
open Go.RowKit Go.Fl64

/-- a number, given back -/
def OutA (W : World) (t : Bool × Nat × Int) (r : Ending) (w' : World) : Prop := ∃ s ao n cap e, r = .returned (.agg #[.bool s, .slice ao n cap, .int .i64 e]) ∧ PN w' (.agg #[.bool s, .slice ao n cap, .int .i64 e]) t ∧ Below W.heap.size W w'

theorem at_boxP {w : World} {ao : Option Addr} {n z g : Nat} {p q r : Value} (h : At w ao n z) (hg : w.heap[g]? = some (.cells #[p, q, r] 65 (0, 0))) (hp : ∀ k, p ≠ .int .u32 k) (hq : ∀ k, q ≠ .int .u32 k) (hr : ∀ k, r ≠ .int .u32 k) (a b c : Value) : At (((w.setCell ⟨g, 0, none⟩ a).setCell ⟨g, 1, none⟩ b).setCell ⟨g, 2, none⟩ c) ao n z := by
  obtain ⟨bb, o, h1, h2⟩ := h
  refine ⟨bb, o, h1, fun i hi => ?_⟩
  by_cases hb : bb = g
  · subst hb
    have := h2 i hi
    simp only [World.cell?, hg] at this
    exfalso
    have hlt : o + i < 3 := by
      rcases Nat.lt_or_ge (o + i) 3 with h | h
      · exact h
      · rw [Array.getElem?_eq_none (by simpa using h)] at this; simp at this
    rcases (show o + i = 0 ∨ o + i = 1 ∨ o + i = 2 by omega) with h | h | h
    · rw [h] at this; simp at this; exact hp _ this
    · rw [h] at this; simp at this; exact hq _ this
    · rw [h] at this; simp at this; exact hr _ this
  · rw [World.cell?_setCell_other _ _ _ _ (by intro e; simp at e <;> omega), World.cell?_setCell_other _ _ _ _ (by intro e; simp at e <;> omega), World.cell?_setCell_other _ _ _ _ (by intro e; simp at e <;> omega)]
    exact h2 i hi
theorem pn_store {w : World} {A : Value} {t : Bool × Nat × Int} {g : Nat} (h : PN w A t) (hg : w.heap[g]? = some (.cells #[.bool false, .slice none 0 0, .int .i64 0] 65 (0, 0))) (a b c : Value) : PN (((w.setCell ⟨g, 0, none⟩ a).setCell ⟨g, 1, none⟩ b).setCell ⟨g, 2, none⟩ c) A t := by
  obtain ⟨ao, cap, h1, ao', cap', e', h2, h3, h4⟩ := h
  exact ⟨ao, cap, h1, ao', cap', e', h2, h3, at_boxP h4 hg (by simp) (by simp) (by simp) a b c⟩

set_option maxHeartbeats 4000000 in
set_option maxRecDepth 200000 in
theorem exact_1 (a : Nat) (t : Bool × Nat × Int) (w : World)
    (k : ∀ W, Below w.heap.size w W → Calls Tryz.prog 63 #[.float .f64 a] W fun r w' => ∃ s ao n cap e, r = .returned (.tuple #[.agg #[.bool s, .slice ao n cap, .int .i64 e], .int .i64 0]) ∧ PN w' (.agg #[.bool s, .slice ao n cap, .int .i64 e]) t ∧ Below W.heap.size W w') :
    Calls Tryz.prog 43 #[.float .f64 a] w fun r w' => OutA w t r w' := by
  obtain ⟨W, hW⟩ : ∃ W, W = w.alloc (.cells #[.bool false, .slice none 0 0, .int .i64 0] 65) := ⟨_, rfl⟩
  have HX : Hid (Below w.heap.size w W ∧ W.heap[w.heap.size]? = some (.cells #[.bool false, .slice none 0 0, .int .i64 0] 65 (0, 0))) := ⟨by rw [hW]; exact (Below.refl _ _).alloc (Nat.le_refl _) _, by rw [hW]; exact heap_alloc_new _ _⟩
  have k1 := k W HX.out.1
  clear k
  go_enter Tryz.func43, Tryz.ntmps43
  go_wp2_with fail
  rw [← hW]
  clear hW
  refine k1.mono ?_
  rintro r w1 ⟨s1, ao1, n1, cap1, ex1, rfl, hA, hb1⟩
  obtain ⟨W1, hW1⟩ : ∃ W1, W1 = w1.alloc (.cells #[.bool s1, .slice ao1 n1 cap1, .int .i64 ex1] 65) := ⟨_, rfl⟩
  have hb2 : Below W.heap.size W W1 := by rw [hW1]; exact hb1.alloc hb1.size _
  have HY : Hid (PN W1 (.agg #[.bool s1, .slice ao1 n1 cap1, .int .i64 ex1]) t ∧ Below w.heap.size w W1 ∧ W1.heap[w1.heap.size]? = some (.cells #[.bool s1, .slice ao1 n1 cap1, .int .i64 ex1] 65 (0, 0)) ∧ W1.heap[w.heap.size]? = some (.cells #[.bool false, .slice none 0 0, .int .i64 0] 65 (0, 0))) :=
    ⟨by rw [hW1]; exact hA.later ((Below.refl _ _).alloc (Nat.le_refl _) _), HX.out.1.trans (hb2.mono HX.out.1.size), by rw [hW1]; exact heap_alloc_new _ _, box_later HX.out.2 hb2 (lt_of_box HX.out.2)⟩
  clear k1 hA hb1 hb2
  go_upto_region 2 with fail
  rw [← hW1]
  clear hW1
  generalize w1.heap.size = g1 at *
  obtain ⟨⟨a0, a1, a2⟩, -⟩ := box_cells HY.out.2.2.1
  obtain ⟨⟨x1, x2, x3⟩, x4, x5, x6⟩ := box_cells HY.out.2.2.2
  go_wp2
  refine bodyPost_ret (results_cell_row rfl _ _ w.heap.size 65 #[.bool s1, .slice ao1 n1 cap1, .int .i64 ex1] (0, 0) _ rfl (store3 _ _ _ HY.out.2.2.2) Tryz.underlying65 rfl Tryz.info65) rfl ?_
  exact ⟨_, _, _, _, _, rfl, pn_store HY.out.1 HY.out.2.2.2 _ _ _, below_store3 HY.out.2.1 (Nat.le_refl _) _ _ _⟩
-- GEN: one call of two numbers each, the error let go
set_option maxHeartbeats 4000000 in
set_option maxRecDepth 200000 in
theorem added_1 (na nb : Bool) (ua va : Option Addr) (un uc vn vc : Nat) (ea eb : Int) (t : Bool × Nat × Int) (w : World)
    (k : ∀ W, Below w.heap.size w W → Calls Tryz.prog 82 #[.agg #[.bool na, .slice ua un uc, .int .i64 ea], .agg #[.bool nb, .slice va vn vc, .int .i64 eb]] W fun r w' => ∃ s ao n cap e, r = .returned (.tuple #[.agg #[.bool s, .slice ao n cap, .int .i64 e], .int .i64 0]) ∧ PN w' (.agg #[.bool s, .slice ao n cap, .int .i64 e]) t ∧ Below W.heap.size W w') :
    Calls Tryz.prog 59 #[.agg #[.bool na, .slice ua un uc, .int .i64 ea], .agg #[.bool nb, .slice va vn vc, .int .i64 eb]] w fun r w' => OutA w t r w' := by
  obtain ⟨W, hW⟩ : ∃ W, W = ((w.alloc (.cells #[.bool na, .slice ua un uc, .int .i64 ea] 65)).alloc (.cells #[.bool nb, .slice va vn vc, .int .i64 eb] 65)).alloc (.cells #[.bool false, .slice none 0 0, .int .i64 0] 65) := ⟨_, rfl⟩
  obtain ⟨hA, hB, hC, hsz, hBW⟩ := boxes3 _ _ _ hW
  obtain ⟨⟨a0, a1, a2⟩, -⟩ := box_cells hA
  obtain ⟨⟨b0, b1, b2⟩, -⟩ := box_cells hB
  have HX : Hid (Below w.heap.size w W ∧ W.heap[w.heap.size + 1 + 1]? = some (.cells #[.bool false, .slice none 0 0, .int .i64 0] 65 (0, 0))) := ⟨hBW, hC⟩
  have k1 := k W HX.out.1
  clear k hA hB hC hBW hsz
  rw [hW] at a0 a1 a2 b0 b1 b2
  go_enter Tryz.func59, Tryz.ntmps59
  go_wp2_with fail
  rw [← hW]
  clear hW a0 a1 a2 b0 b1 b2
  refine k1.mono ?_
  rintro r w1 ⟨s1, ao1, n1, cap1, ex1, rfl, hA, hb1⟩
  obtain ⟨W1, hW1⟩ : ∃ W1, W1 = w1.alloc (.cells #[.bool s1, .slice ao1 n1 cap1, .int .i64 ex1] 65) := ⟨_, rfl⟩
  have hb2 : Below W.heap.size W W1 := by rw [hW1]; exact hb1.alloc hb1.size _
  have HY : Hid (PN W1 (.agg #[.bool s1, .slice ao1 n1 cap1, .int .i64 ex1]) t ∧ Below w.heap.size w W1 ∧ W1.heap[w1.heap.size]? = some (.cells #[.bool s1, .slice ao1 n1 cap1, .int .i64 ex1] 65 (0, 0)) ∧ W1.heap[w.heap.size + 1 + 1]? = some (.cells #[.bool false, .slice none 0 0, .int .i64 0] 65 (0, 0))) :=
    ⟨by rw [hW1]; exact hA.later ((Below.refl _ _).alloc (Nat.le_refl _) _), HX.out.1.trans (hb2.mono HX.out.1.size), by rw [hW1]; exact heap_alloc_new _ _, box_later HX.out.2 hb2 (lt_of_box HX.out.2)⟩
  clear k1 hA hb1 hb2
  go_upto_region 2 with fail
  rw [← hW1]
  clear hW1
  generalize w1.heap.size = g1 at *
  obtain ⟨⟨c0, c1, c2⟩, -⟩ := box_cells HY.out.2.2.1
  obtain ⟨⟨x1, x2, x3⟩, x4, x5, x6⟩ := box_cells HY.out.2.2.2
  go_wp2
  refine bodyPost_ret (results_cell_row rfl _ _ (w.heap.size + 1 + 1) 65 #[.bool s1, .slice ao1 n1 cap1, .int .i64 ex1] (0, 0) _ rfl (store3 _ _ _ HY.out.2.2.2) Tryz.underlying65 rfl Tryz.info65) rfl ?_
  exact ⟨_, _, _, _, _, rfl, pn_store HY.out.1 HY.out.2.2.2 _ _ _, below_store3 HY.out.2.1 (by omega) _ _ _⟩
set_option maxHeartbeats 4000000 in
set_option maxRecDepth 200000 in
theorem multiplied_1 (na nb : Bool) (ua va : Option Addr) (un uc vn vc : Nat) (ea eb : Int) (t : Bool × Nat × Int) (w : World)
    (k : ∀ W, Below w.heap.size w W → Calls Tryz.prog 62 #[.agg #[.bool na, .slice ua un uc, .int .i64 ea], .agg #[.bool nb, .slice va vn vc, .int .i64 eb]] W fun r w' => ∃ s ao n cap e, r = .returned (.tuple #[.agg #[.bool s, .slice ao n cap, .int .i64 e], .int .i64 0]) ∧ PN w' (.agg #[.bool s, .slice ao n cap, .int .i64 e]) t ∧ Below W.heap.size W w') :
    Calls Tryz.prog 42 #[.agg #[.bool na, .slice ua un uc, .int .i64 ea], .agg #[.bool nb, .slice va vn vc, .int .i64 eb]] w fun r w' => OutA w t r w' := by
  obtain ⟨W, hW⟩ : ∃ W, W = ((w.alloc (.cells #[.bool na, .slice ua un uc, .int .i64 ea] 65)).alloc (.cells #[.bool nb, .slice va vn vc, .int .i64 eb] 65)).alloc (.cells #[.bool false, .slice none 0 0, .int .i64 0] 65) := ⟨_, rfl⟩
  obtain ⟨hA, hB, hC, hsz, hBW⟩ := boxes3 _ _ _ hW
  obtain ⟨⟨a0, a1, a2⟩, -⟩ := box_cells hA
  obtain ⟨⟨b0, b1, b2⟩, -⟩ := box_cells hB
  have HX : Hid (Below w.heap.size w W ∧ W.heap[w.heap.size + 1 + 1]? = some (.cells #[.bool false, .slice none 0 0, .int .i64 0] 65 (0, 0))) := ⟨hBW, hC⟩
  have k1 := k W HX.out.1
  clear k hA hB hC hBW hsz
  rw [hW] at a0 a1 a2 b0 b1 b2
  go_enter Tryz.func42, Tryz.ntmps42
  go_wp2_with fail
  rw [← hW]
  clear hW a0 a1 a2 b0 b1 b2
  refine k1.mono ?_
  rintro r w1 ⟨s1, ao1, n1, cap1, ex1, rfl, hA, hb1⟩
  obtain ⟨W1, hW1⟩ : ∃ W1, W1 = w1.alloc (.cells #[.bool s1, .slice ao1 n1 cap1, .int .i64 ex1] 65) := ⟨_, rfl⟩
  have hb2 : Below W.heap.size W W1 := by rw [hW1]; exact hb1.alloc hb1.size _
  have HY : Hid (PN W1 (.agg #[.bool s1, .slice ao1 n1 cap1, .int .i64 ex1]) t ∧ Below w.heap.size w W1 ∧ W1.heap[w1.heap.size]? = some (.cells #[.bool s1, .slice ao1 n1 cap1, .int .i64 ex1] 65 (0, 0)) ∧ W1.heap[w.heap.size + 1 + 1]? = some (.cells #[.bool false, .slice none 0 0, .int .i64 0] 65 (0, 0))) :=
    ⟨by rw [hW1]; exact hA.later ((Below.refl _ _).alloc (Nat.le_refl _) _), HX.out.1.trans (hb2.mono HX.out.1.size), by rw [hW1]; exact heap_alloc_new _ _, box_later HX.out.2 hb2 (lt_of_box HX.out.2)⟩
  clear k1 hA hb1 hb2
  go_upto_region 2 with fail
  rw [← hW1]
  clear hW1
  generalize w1.heap.size = g1 at *
  obtain ⟨⟨c0, c1, c2⟩, -⟩ := box_cells HY.out.2.2.1
  obtain ⟨⟨x1, x2, x3⟩, x4, x5, x6⟩ := box_cells HY.out.2.2.2
  go_wp2
  refine bodyPost_ret (results_cell_row rfl _ _ (w.heap.size + 1 + 1) 65 #[.bool s1, .slice ao1 n1 cap1, .int .i64 ex1] (0, 0) _ rfl (store3 _ _ _ HY.out.2.2.2) Tryz.underlying65 rfl Tryz.info65) rfl ?_
  exact ⟨_, _, _, _, _, rfl, pn_store HY.out.1 HY.out.2.2.2 _ _ _, below_store3 HY.out.2.1 (by omega) _ _ _⟩
set_option maxHeartbeats 4000000 in
set_option maxRecDepth 200000 in
theorem prounded_1 (na : Bool) (ua : Option Addr) (un uc F : Nat) (ea m : Int) (w : World)
    (k : ∀ W, Below w.heap.size w W → Calls Tryz.prog 51 #[.agg #[.bool na, .slice ua un uc, .int .i64 ea], .int .i64 m] W fun r w' => r = .returned (.tuple #[.float .f64 F, .int .i64 0]) ∧ Below W.heap.size W w') :
    Calls Tryz.prog 41 #[.agg #[.bool na, .slice ua un uc, .int .i64 ea], .int .i64 m] w fun r w' => r = .returned (.float .f64 F) ∧ Below w.heap.size w w' := by
  obtain ⟨W, hW⟩ : ∃ W, W = w.alloc (.cells #[.bool na, .slice ua un uc, .int .i64 ea] 65) := ⟨_, rfl⟩
  have HX : Hid (Below w.heap.size w W) := (by rw [hW]; exact (Below.refl _ _).alloc (Nat.le_refl _) _ : Below w.heap.size w W)
  have hA : W.heap[w.heap.size]? = some (.cells #[.bool na, .slice ua un uc, .int .i64 ea] 65 (0, 0)) := by rw [hW]; exact heap_alloc_new _ _
  obtain ⟨⟨a0, a1, a2⟩, -⟩ := box_cells hA
  have k1 := k W HX.out
  clear k hA
  rw [hW] at a0 a1 a2
  go_enter Tryz.func41, Tryz.ntmps41
  go_wp2_with fail
  rw [← hW]
  clear hW a0 a1 a2
  refine k1.mono ?_
  rintro r w1 ⟨rfl, hb1⟩
  have HY : Hid (Below w.heap.size w w1) := HX.out.trans (hb1.mono HX.out.size)
  clear k1 hb1
  go_wp2
  go_ret
  exact ⟨rfl, HY.out⟩
/-- the program's Round, at a number that may be -/
theorem pround {t : Bool × Nat × Int} {A : Value} {m : Int} {w : World} (hT : Tab32 w) (ok : Ok t) (h : PN w A t) (hm : 1 ≤ m ∧ m ≤ 3) :
    Calls Tryz.prog 51 #[A, .int .i64 m] w fun r w' => r = .returned (.tuple #[.float .f64 (tfF t.1 true t.2.1 t.2.2 m), .int .i64 0]) ∧ Below w.heap.size w w' := by
  obtain ⟨pa, pc, rfl, i1⟩ := h
  obtain ⟨f1, f2, f3, -, -⟩ := ok.facts
  refine c24_1 t.1 pa _ pc _ t.2.2 m w (fun W' g hW' hg => ?_) (fun W' => c48 m (by omega) W') (fun W' hW' => ?_)
  · have := maybe1 hg (i1.later hW') (by omega)
    rw [show okN t.1 (dlen t.2.1) t.2.1 t.2.2 = true from ok] at this
    exact this
  · exact c106 (neg := t.1) (e := t.2.2) (mode := m) (hT.later hW') (i1.later hW') (by omega) (by omega) (by omega)
theorem prounded {t : Bool × Nat × Int} {A : Value} {m : Int} {w : World} (hT : Tab32 w) (ok : Ok t) (h : PN w A t) (hm : 1 ≤ m ∧ m ≤ 3) :
    Calls Tryz.prog 41 #[A, .int .i64 m] w fun r w' => r = .returned (.float .f64 (tfF t.1 true t.2.1 t.2.2 m)) ∧ Below w.heap.size w w' := by
  obtain ⟨s, ao, n, cap, e, rfl⟩ := h.shape
  exact prounded_1 s ao n cap _ e m w fun W hW => pround (hT.later hW) ok (h.later hW) hm
/-- the three helpers of two numbers, by the contract of what they call -/
theorem added_op {t1 t2 t3 : Bool × Nat × Int} (h : Op2 82 t1 t2 t3) {X Y : Value} {w : World} (hT : Tab32 w) (h1 : PN w X t1) (h2 : PN w Y t2) : Calls Tryz.prog 59 #[X, Y] w fun r w' => OutA w t3 r w' := by
  obtain ⟨s, ao, n, cap, e, rfl⟩ := h1.shape
  obtain ⟨s', ao', n', cap', e', rfl⟩ := h2.shape
  exact added_1 s s' ao ao' n cap n' cap' e e' t3 w fun W hW => h W _ _ (hT.later hW) (h1.later hW) (h2.later hW)
theorem multiplied_op {t1 t2 t3 : Bool × Nat × Int} (h : Op2 62 t1 t2 t3) {X Y : Value} {w : World} (hT : Tab32 w) (h1 : PN w X t1) (h2 : PN w Y t2) : Calls Tryz.prog 42 #[X, Y] w fun r w' => OutA w t3 r w' := by
  obtain ⟨s, ao, n, cap, e, rfl⟩ := h1.shape
  obtain ⟨s', ao', n', cap', e', rfl⟩ := h2.shape
  exact multiplied_1 s s' ao ao' n cap n' cap' e e' t3 w fun W hW => h W _ _ (hT.later hW) (h1.later hW) (h2.later hW)
end Go.Proofs.YtlicjplmcepbnaaGreatDoor
/- The document's small functions on floats, call by call. -/
namespace Go.Proofs.YtlicjplmcepbnaaGreatDoor.Ie
set_option linter.unusedVariables false
set_option linter.unusedSimpArgs false
open Go.RowKit Go.Fl64

end Go.Proofs.YtlicjplmcepbnaaGreatDoor.Ie
/- The program's Add and Sub of floats. -/
namespace Go.Proofs.YtlicjplmcepbnaaGreatDoor
set_option linter.unusedVariables false
set_option linter.unusedSimpArgs false
open Go.RowKit Go.Fl64

/-- a mode -/
def isM (m : Int) : Bool := (m == 1) || (m == 2) || (m == 3)
theorem isM_iff {m : Int} : isM m = true ↔ (1 ≤ m ∧ m ≤ 3) := by
  unfold isM; simp only [Bool.or_eq_true, beq_iff_eq]; omega
theorem pvalid (m : Int) (w : World) : Calls Tryz.prog 38 #[.int .i64 m] w fun r w' => r = .returned (.int .i64 (if isM m then 0 else 1)) ∧ w' = w := by
  unfold isM
  by_cases h1 : m = 1
  · subst h1
    go_enter Tryz.func38, Tryz.ntmps38
    go_wp2
    go_ret
    exact ⟨rfl, rfl⟩
  · have e1 : (m == 1) = false := by simpa using h1
    by_cases h2 : m = 2
    · subst h2
      go_enter Tryz.func38, Tryz.ntmps38
      go_wp2
      go_ret
      exact ⟨rfl, rfl⟩
    · have e2 : (m == 2) = false := by simpa using h2
      by_cases h3 : m = 3
      · subst h3
        go_enter Tryz.func38, Tryz.ntmps38
        go_wp2
        go_ret
        exact ⟨rfl, rfl⟩
      · have e3 : (m == 3) = false := by simpa using h3
        rw [show ((m == 1) || (m == 2) || (m == 3)) = false by rw [e1, e2, e3]; rfl]
        go_enter Tryz.func38, Tryz.ntmps38
        go_wp2
        go_ret
        exact ⟨rfl, rfl⟩
theorem eq_nought0 : (FloatKind.f64.format.order 0 0 == some Ordering.eq) = true := by decide +kernel
theorem pfin_y (a : Nat) (ha : a < 18446744073709551616) (hf : mag a < 9218868437227405312) (w : World) : Calls Tryz.prog 58 #[.float .f64 a] w fun r w' => r = .returned (.bool true) ∧ w' = w := by
  have hs : ∀ w, (binOp .sub 22 (.float .f64 a) (.float .f64 a)).run Tryz.prog w = .ok (.float .f64 0) w := fun w => run_float_arith w .sub 22 .f64 a a _ (sub_fin ha hf)
  have he := eq_nought0
  go_enter Tryz.func58, Tryz.ntmps58
  go_wp2
  go_ret
  exact ⟨rfl, rfl⟩
theorem pfin_n (a : Nat) (ha : a < 18446744073709551616) (hf : ¬ mag a < 9218868437227405312) (w : World) : Calls Tryz.prog 58 #[.float .f64 a] w fun r w' => r = .returned (.bool false) ∧ w' = w.drew := by
  obtain ⟨n, n1, n2, hs⟩ := run_nan (P := Tryz.prog) w .sub 22 a a (by simp) (sub_non ha (by omega))
  have he := ord_eq n 0 n1 (by decide)
  have hq : eq n 0 = false := by unfold Fl64.eq; rw [n2]; rfl
  rw [hq] at he
  go_enter Tryz.func58, Tryz.ntmps58
  go_wp2
  go_ret
  exact ⟨rfl, rfl⟩

/-- the nought of a sum -/
def z0 (na nb : Bool) (m : Int) : Bool := if na = nb then na else (m == 1)
theorem mk_nought {s : Bool} {m : Int} (hm : 1 ≤ m ∧ m ≤ 3) : Ie.mk s 0 0 m 9221120237041090561 = sig s 0 := by
  unfold Ie.mk
  rw [if_pos (by omega), if_pos rfl]
theorem pnought (na nb : Bool) (m : Int) (hm : 1 ≤ m ∧ m ≤ 3) (w : World) : Calls Tryz.prog 61 #[.bool na, .bool nb, .int .i64 m] w fun r w' => r = .returned (.float .f64 (sig (z0 na nb m) 0)) ∧ w' = w := by
  have k : ∀ s W, Calls Tryz.prog 84 #[.bool s, .int .u64 0, .int .i64 0, .int .i64 m] W fun r w' => r = .returned (.float .f64 (sig s 0)) ∧ w' = W := fun s W => by
    have := Ie.c24 s 0 0 m (by omega) W
    rw [mk_nought hm] at this
    exact this
  cases na <;> cases nb
  all_goals
    go_enter Tryz.func61, Tryz.ntmps61
    go_wp2_with (go_at_call 84; refine (k _ _).mono ?_; rintro e w' ⟨rfl, rfl⟩)
    go_ret
    exact ⟨rfl, rfl⟩
end Go.Proofs.YtlicjplmcepbnaaGreatDoor
/- The program's Add and Sub of floats: the walks. -/
namespace Go.Proofs.YtlicjplmcepbnaaGreatDoor
set_option linter.unusedVariables false
set_option linter.unusedSimpArgs false
open Go.RowKit Go.Fl64

set_option maxHeartbeats 4000000 in
set_option maxRecDepth 200000 in
theorem padd_a (a b F : Nat) (m : Int) (w : World) (hm : isM m = true) (hfa : ∀ W, Calls Tryz.prog 58 #[.float .f64 a] W fun r w' => r = .returned (.bool false) ∧ w' = W.drew)
    (h : (∀ W, (binOp .add 22 (.float .f64 a) (.float .f64 b)).run Tryz.prog W = .ok (.float .f64 F) W) ∨ ∀ W, ∃ n, lk n F ∧ (binOp .add 22 (.float .f64 a) (.float .f64 b)).run Tryz.prog W = .ok (.float .f64 n) W.drew) (hF : F < 18446744073709551616) :
    Calls Tryz.prog 36 #[.float .f64 a, .float .f64 b, .int .i64 m] w fun r w' => ∃ n, r = .returned (.float .f64 n) ∧ lk n F ∧ Below w.heap.size w w' := by
  have kV := pvalid m w
  rw [hm] at kV
  have HB : Hid (Below w.heap.size w w.drew) := (Below.refl _ _).drew
  have HB2 : Hid (Below w.heap.size w w.drew.drew) := (Below.refl _ _).drew.drew
  have HF : Hid (F < 18446744073709551616) := hF
  clear hF
  rcases h with h | h
  · go_enter Tryz.func36, Tryz.ntmps36
    go_wp2_with fail
    refine kV.mono ?_
    rintro r w' ⟨rfl, hw⟩
    rw [hw]
    clear hw kV
    have kN := hfa w
    go_wp2_with fail
    refine kN.mono ?_
    rintro r w' ⟨rfl, hw⟩
    rw [hw]
    clear hw kN hfa
    go_wp2_with fail
    go_ret
    exact ⟨_, rfl, lk.refl HF.out, HB.out⟩
  · obtain ⟨n, hn, hr⟩ := h w.drew
    have HN : Hid (lk n F) := hn
    clear hn h
    go_enter Tryz.func36, Tryz.ntmps36
    go_wp2_with fail
    refine kV.mono ?_
    rintro r w' ⟨rfl, hw⟩
    rw [hw]
    clear hw kV
    have kN := hfa w
    go_wp2_with fail
    refine kN.mono ?_
    rintro r w' ⟨rfl, hw⟩
    rw [hw]
    clear hw kN hfa
    go_wp2_with fail
    go_ret
    exact ⟨_, rfl, HN.out, HB2.out⟩
set_option maxHeartbeats 4000000 in
set_option maxRecDepth 200000 in
theorem padd_b (a b F : Nat) (m : Int) (w : World) (hm : isM m = true) (hfa : ∀ W, Calls Tryz.prog 58 #[.float .f64 a] W fun r w' => r = .returned (.bool true) ∧ w' = W) (hfb : ∀ W, Calls Tryz.prog 58 #[.float .f64 b] W fun r w' => r = .returned (.bool false) ∧ w' = W.drew)
    (h : (∀ W, (binOp .add 22 (.float .f64 a) (.float .f64 b)).run Tryz.prog W = .ok (.float .f64 F) W) ∨ ∀ W, ∃ n, lk n F ∧ (binOp .add 22 (.float .f64 a) (.float .f64 b)).run Tryz.prog W = .ok (.float .f64 n) W.drew) (hF : F < 18446744073709551616) :
    Calls Tryz.prog 36 #[.float .f64 a, .float .f64 b, .int .i64 m] w fun r w' => ∃ n, r = .returned (.float .f64 n) ∧ lk n F ∧ Below w.heap.size w w' := by
  have kV := pvalid m w
  rw [hm] at kV
  have HB : Hid (Below w.heap.size w w.drew) := (Below.refl _ _).drew
  have HB2 : Hid (Below w.heap.size w w.drew.drew) := (Below.refl _ _).drew.drew
  have HF : Hid (F < 18446744073709551616) := hF
  clear hF
  rcases h with h | h
  · go_enter Tryz.func36, Tryz.ntmps36
    go_wp2_with fail
    refine kV.mono ?_
    rintro r w' ⟨rfl, hw⟩
    rw [hw]
    clear hw kV
    have kN := hfa w
    go_wp2_with fail
    refine kN.mono ?_
    rintro r w' ⟨rfl, hw⟩
    rw [hw]
    clear hw kN hfa
    have kN := hfb w
    go_wp2_with fail
    refine kN.mono ?_
    rintro r w' ⟨rfl, hw⟩
    rw [hw]
    clear hw kN hfb
    go_wp2_with fail
    go_ret
    exact ⟨_, rfl, lk.refl HF.out, HB.out⟩
  · obtain ⟨n, hn, hr⟩ := h w.drew
    have HN : Hid (lk n F) := hn
    clear hn h
    go_enter Tryz.func36, Tryz.ntmps36
    go_wp2_with fail
    refine kV.mono ?_
    rintro r w' ⟨rfl, hw⟩
    rw [hw]
    clear hw kV
    have kN := hfa w
    go_wp2_with fail
    refine kN.mono ?_
    rintro r w' ⟨rfl, hw⟩
    rw [hw]
    clear hw kN hfa
    have kN := hfb w
    go_wp2_with fail
    refine kN.mono ?_
    rintro r w' ⟨rfl, hw⟩
    rw [hw]
    clear hw kN hfb
    go_wp2_with fail
    go_ret
    exact ⟨_, rfl, HN.out, HB2.out⟩

set_option maxHeartbeats 4000000 in
set_option maxRecDepth 200000 in
theorem padd_z (a b F : Nat) (m sg : Int) (ta tb t3 : Bool × Nat × Int) (w : World) (hm : isM m = true) (ha : a < 18446744073709551616) (hb : b < 18446744073709551616)
    (hfa : ∀ W, Calls Tryz.prog 58 #[.float .f64 a] W fun r w' => r = .returned (.bool true) ∧ w' = W)
    (hfb : ∀ W, Calls Tryz.prog 58 #[.float .f64 b] W fun r w' => r = .returned (.bool true) ∧ w' = W)
    (kA : Calls Tryz.prog 43 #[.float .f64 a] w fun r w' => OutA w ta r w')
    (kB : ∀ W, Below w.heap.size w W → Calls Tryz.prog 43 #[.float .f64 b] W fun r w' => OutA W tb r w')
    (kC : ∀ W X Y, Below w.heap.size w W → PN W X ta → PN W Y tb → Calls Tryz.prog 59 #[X, Y] W fun r w' => OutA W t3 r w')
    (kS : ∀ W X, PN W X t3 → Calls Tryz.prog 60 #[X] W fun r w' => r = .returned (.int .i64 sg) ∧ Below W.heap.size W w')
    (hs : (sg == 0) = true) (kZ : ∀ W, Calls Tryz.prog 61 #[.bool (neg a), .bool (neg b), .int .i64 m] W fun r w' => r = .returned (.float .f64 F) ∧ w' = W) :
    Calls Tryz.prog 36 #[.float .f64 a, .float .f64 b, .int .i64 m] w fun r w' => r = .returned (.float .f64 F) ∧ Below w.heap.size w w' := by
  have kV := pvalid m w
  rw [hm] at kV
  have HAB : Hid (a < 18446744073709551616 ∧ b < 18446744073709551616) := ⟨ha, hb⟩
  have HKB : Hid (∀ W, Below w.heap.size w W → Calls Tryz.prog 43 #[.float .f64 b] W fun r w' => OutA W tb r w') := kB
  have HKC : Hid (∀ W X Y, Below w.heap.size w W → PN W X ta → PN W Y tb → Calls Tryz.prog 59 #[X, Y] W fun r w' => OutA W t3 r w') := kC
  have HKS : Hid (∀ W X, PN W X t3 → Calls Tryz.prog 60 #[X] W fun r w' => r = .returned (.int .i64 sg) ∧ Below W.heap.size W w') := kS
  clear ha hb kB kC kS
  go_enter Tryz.func36, Tryz.ntmps36
  go_wp2_with fail
  refine kV.mono ?_
  rintro r w' ⟨rfl, hw⟩
  rw [hw]
  clear hw kV
  have kN := hfa w
  go_wp2_with fail
  refine kN.mono ?_
  rintro r w' ⟨rfl, hw⟩
  rw [hw]
  clear hw kN hfa
  have kN := hfb w
  go_wp2_with fail
  refine kN.mono ?_
  rintro r w' ⟨rfl, hw⟩
  rw [hw]
  clear hw kN hfb
  go_wp2_with fail
  refine kA.mono ?_
  rintro r w1 ⟨s1, ao1, n1, cap1, ex1, rfl, hP1, hb1⟩
  have k2 := HKB.out w1 hb1
  clear kA
  go_wp2_with fail
  refine k2.mono ?_
  rintro r w2 ⟨s2, ao2, n2, cap2, ex2, rfl, hP2, hb2⟩
  have HB2 : Hid (Below w.heap.size w w2) := hb1.trans (hb2.mono hb1.size)
  have k3 := HKC.out w2 _ _ HB2.out (hP1.later hb2) hP2
  clear k2 hP1 hP2 hb1 hb2
  go_wp2_with fail
  refine k3.mono ?_
  rintro r w3 ⟨s3, ao3, n3, cap3, ex3, rfl, hP3, hb3⟩
  clear k3
  obtain ⟨W3, hW3⟩ : ∃ W3, W3 = w3.alloc (.cells #[.bool s3, .slice ao3 n3 cap3, .int .i64 ex3] 65) := ⟨_, rfl⟩
  have HX : Hid (PN W3 (.agg #[.bool s3, .slice ao3 n3 cap3, .int .i64 ex3]) t3 ∧ Below w.heap.size w W3 ∧ W3.heap[w3.heap.size]? = some (.cells #[.bool s3, .slice ao3 n3 cap3, .int .i64 ex3] 65 (0, 0))) :=
    ⟨by rw [hW3]; exact hP3.later ((Below.refl _ _).alloc (Nat.le_refl _) _), by rw [hW3]; exact HB2.out.trans ((hb3.alloc hb3.size _).mono HB2.out.size), by rw [hW3]; exact heap_alloc_new _ _⟩
  clear hP3 hb3
  go_upto_region 6 with fail
  rw [← hW3]
  clear hW3
  generalize w3.heap.size = g3 at *
  obtain ⟨⟨a0, a1, a2⟩, -⟩ := box_cells HX.out.2.2
  have k4 := HKS.out W3 _ HX.out.1
  go_wp2_with fail
  refine k4.mono ?_
  rintro r w5 ⟨rfl, hb5⟩
  have HB5 : Hid (Below w.heap.size w w5) := HX.out.2.1.trans (hb5.mono HX.out.2.1.size)
  have HP5 : Hid (PN w5 (.agg #[.bool s3, .slice ao3 n3 cap3, .int .i64 ex3]) t3) := HX.out.1.later hb5
  obtain ⟨⟨a0, a1, a2⟩, -⟩ := box_cells (box_later HX.out.2.2 hb5 (lt_of_box HX.out.2.2))
  clear k4 hb5
  have kz := kZ w5
  have sa := Ie.c33 a HAB.out.1 w5
  have sb := Ie.c33 b HAB.out.2 w5
  clear kZ a0 a1 a2
  go_wp2_with fail
  refine sa.mono ?_
  rintro r w6 ⟨rfl, hw⟩
  rw [hw]
  clear hw sa
  go_wp2_with fail
  refine sb.mono ?_
  rintro r w6 ⟨rfl, hw⟩
  rw [hw]
  clear hw sb
  go_wp2_with fail
  refine kz.mono ?_
  rintro r w6 ⟨rfl, hw⟩
  rw [hw]
  clear hw kz
  go_wp2_with fail
  go_ret
  exact ⟨rfl, HB5.out⟩

set_option maxHeartbeats 4000000 in
set_option maxRecDepth 200000 in
theorem padd_r (a b F : Nat) (m sg : Int) (ta tb t3 : Bool × Nat × Int) (w : World) (hm : isM m = true) (ha : a < 18446744073709551616) (hb : b < 18446744073709551616)
    (hfa : ∀ W, Calls Tryz.prog 58 #[.float .f64 a] W fun r w' => r = .returned (.bool true) ∧ w' = W)
    (hfb : ∀ W, Calls Tryz.prog 58 #[.float .f64 b] W fun r w' => r = .returned (.bool true) ∧ w' = W)
    (kA : Calls Tryz.prog 43 #[.float .f64 a] w fun r w' => OutA w ta r w')
    (kB : ∀ W, Below w.heap.size w W → Calls Tryz.prog 43 #[.float .f64 b] W fun r w' => OutA W tb r w')
    (kC : ∀ W X Y, Below w.heap.size w W → PN W X ta → PN W Y tb → Calls Tryz.prog 59 #[X, Y] W fun r w' => OutA W t3 r w')
    (kS : ∀ W X, PN W X t3 → Calls Tryz.prog 60 #[X] W fun r w' => r = .returned (.int .i64 sg) ∧ Below W.heap.size W w')
    (hs : (sg == 0) = false) (kR : ∀ W X, Below w.heap.size w W → PN W X t3 → Calls Tryz.prog 41 #[X, .int .i64 m] W fun r w' => r = .returned (.float .f64 F) ∧ Below W.heap.size W w') :
    Calls Tryz.prog 36 #[.float .f64 a, .float .f64 b, .int .i64 m] w fun r w' => r = .returned (.float .f64 F) ∧ Below w.heap.size w w' := by
  have kV := pvalid m w
  rw [hm] at kV
  have HAB : Hid (a < 18446744073709551616 ∧ b < 18446744073709551616) := ⟨ha, hb⟩
  have HKB : Hid (∀ W, Below w.heap.size w W → Calls Tryz.prog 43 #[.float .f64 b] W fun r w' => OutA W tb r w') := kB
  have HKC : Hid (∀ W X Y, Below w.heap.size w W → PN W X ta → PN W Y tb → Calls Tryz.prog 59 #[X, Y] W fun r w' => OutA W t3 r w') := kC
  have HKS : Hid (∀ W X, PN W X t3 → Calls Tryz.prog 60 #[X] W fun r w' => r = .returned (.int .i64 sg) ∧ Below W.heap.size W w') := kS
  clear ha hb kB kC kS
  have HR : Hid (∀ W X, Below w.heap.size w W → PN W X t3 → Calls Tryz.prog 41 #[X, .int .i64 m] W fun r w' => r = .returned (.float .f64 F) ∧ Below W.heap.size W w') := kR
  clear kR
  go_enter Tryz.func36, Tryz.ntmps36
  go_wp2_with fail
  refine kV.mono ?_
  rintro r w' ⟨rfl, hw⟩
  rw [hw]
  clear hw kV
  have kN := hfa w
  go_wp2_with fail
  refine kN.mono ?_
  rintro r w' ⟨rfl, hw⟩
  rw [hw]
  clear hw kN hfa
  have kN := hfb w
  go_wp2_with fail
  refine kN.mono ?_
  rintro r w' ⟨rfl, hw⟩
  rw [hw]
  clear hw kN hfb
  go_wp2_with fail
  refine kA.mono ?_
  rintro r w1 ⟨s1, ao1, n1, cap1, ex1, rfl, hP1, hb1⟩
  have k2 := HKB.out w1 hb1
  clear kA
  go_wp2_with fail
  refine k2.mono ?_
  rintro r w2 ⟨s2, ao2, n2, cap2, ex2, rfl, hP2, hb2⟩
  have HB2 : Hid (Below w.heap.size w w2) := hb1.trans (hb2.mono hb1.size)
  have k3 := HKC.out w2 _ _ HB2.out (hP1.later hb2) hP2
  clear k2 hP1 hP2 hb1 hb2
  go_wp2_with fail
  refine k3.mono ?_
  rintro r w3 ⟨s3, ao3, n3, cap3, ex3, rfl, hP3, hb3⟩
  clear k3
  obtain ⟨W3, hW3⟩ : ∃ W3, W3 = w3.alloc (.cells #[.bool s3, .slice ao3 n3 cap3, .int .i64 ex3] 65) := ⟨_, rfl⟩
  have HX : Hid (PN W3 (.agg #[.bool s3, .slice ao3 n3 cap3, .int .i64 ex3]) t3 ∧ Below w.heap.size w W3 ∧ W3.heap[w3.heap.size]? = some (.cells #[.bool s3, .slice ao3 n3 cap3, .int .i64 ex3] 65 (0, 0))) :=
    ⟨by rw [hW3]; exact hP3.later ((Below.refl _ _).alloc (Nat.le_refl _) _), by rw [hW3]; exact HB2.out.trans ((hb3.alloc hb3.size _).mono HB2.out.size), by rw [hW3]; exact heap_alloc_new _ _⟩
  clear hP3 hb3
  go_upto_region 6 with fail
  rw [← hW3]
  clear hW3
  generalize w3.heap.size = g3 at *
  obtain ⟨⟨a0, a1, a2⟩, -⟩ := box_cells HX.out.2.2
  have k4 := HKS.out W3 _ HX.out.1
  go_wp2_with fail
  refine k4.mono ?_
  rintro r w5 ⟨rfl, hb5⟩
  have HB5 : Hid (Below w.heap.size w w5) := HX.out.2.1.trans (hb5.mono HX.out.2.1.size)
  have HP5 : Hid (PN w5 (.agg #[.bool s3, .slice ao3 n3 cap3, .int .i64 ex3]) t3) := HX.out.1.later hb5
  obtain ⟨⟨a0, a1, a2⟩, -⟩ := box_cells (box_later HX.out.2.2 hb5 (lt_of_box HX.out.2.2))
  clear k4 hb5
  have kr := HR.out w5 _ HB5.out HP5.out
  go_wp2_with fail
  refine kr.mono ?_
  rintro r w6 ⟨rfl, hb6⟩
  have HB6 : Hid (Below w.heap.size w w6) := HB5.out.trans (hb6.mono HB5.out.size)
  clear kr hb6 a0 a1 a2
  go_wp2_with fail
  go_ret
  exact ⟨rfl, HB6.out⟩
end Go.Proofs.YtlicjplmcepbnaaGreatDoor
/- The document's product and order. -/
namespace Go.Proofs.YtlicjplmcepbnaaGreatDoor
set_option linter.unusedVariables false
set_option linter.unusedSimpArgs false
open Go.RowKit

/-- v is a slice that holds the digits of x (whatever its room) -/
def Ir (w : World) (v : Value) (x : Nat) : Prop := ∃ ao cap, v = .slice ao (dlen x) cap ∧ dlen x ≤ cap ∧ At w ao (dlen x) x
theorem Ir.later {w w' : World} {v : Value} {x : Nat} (h : Ir w v x) (hb : Below w.heap.size w w') : Ir w' v x := by
  obtain ⟨ao, cap, h1, h2, h3⟩ := h
  exact ⟨ao, cap, h1, h2, h3.later hb⟩
theorem Ir.nil (w : World) (ao : Option Addr) (cap : Nat) : Ir w (.slice ao 0 cap) 0 := ⟨ao, cap, by rw [dlen_zero], by rw [dlen_zero]; omega, 0, 0, fun h => by rw [dlen_zero] at h; omega, fun i hi => by rw [dlen_zero] at hi; omega⟩

theorem Mk.drewN {w wr : World} {n : Nat} {f : Nat → Nat} (h : Mk w wr n f) (d : Nat) : Mk w (wr.drewN d) n f :=
  ⟨⟨h.below.os, h.below.tape, h.below.output, h.below.size, h.below.block⟩, h.size, h.row⟩

end Go.Proofs.YtlicjplmcepbnaaGreatDoor
/- The document's sum and less. -/
namespace Go.Proofs.YtlicjplmcepbnaaGreatDoor
set_option linter.unusedVariables false
set_option linter.unusedSimpArgs false
open Go.RowKit

end Go.Proofs.YtlicjplmcepbnaaGreatDoor
/- The document's less and up. -/
namespace Go.Proofs.YtlicjplmcepbnaaGreatDoor
set_option linter.unusedVariables false
set_option linter.unusedSimpArgs false
open Go.RowKit

end Go.Proofs.YtlicjplmcepbnaaGreatDoor
/- The document's kept and Make. -/
namespace Go.Proofs.YtlicjplmcepbnaaGreatDoor
set_option linter.unusedVariables false
set_option linter.unusedSimpArgs false
open Go.RowKit Go.Fl64

end Go.Proofs.YtlicjplmcepbnaaGreatDoor
/- The document's known, Minus, twin, Scaled, Times. -/
namespace Go.Proofs.YtlicjplmcepbnaaGreatDoor
set_option linter.unusedVariables false
set_option linter.unusedSimpArgs false
open Go.RowKit

end Go.Proofs.YtlicjplmcepbnaaGreatDoor
/- The document's Times, kept, Mul. -/
namespace Go.Proofs.YtlicjplmcepbnaaGreatDoor
set_option linter.unusedVariables false
set_option linter.unusedSimpArgs false
open Go.RowKit

end Go.Proofs.YtlicjplmcepbnaaGreatDoor
/- The document's twin. -/
namespace Go.Proofs.YtlicjplmcepbnaaGreatDoor
set_option linter.unusedVariables false
set_option linter.unusedSimpArgs false
open Go.RowKit

theorem Dn.store {w : World} {base n z : Nat} {v : Value} (h : Dn w base v n z) {g : Nat} (hg : g < base) (i : Nat) (u : Value) : Dn (w.setCell ⟨g, i, none⟩ u) base v n z := by
  rcases h with h | ⟨g2, cap2, c, rfl, h1, h2, h3, h4⟩
  · exact .inl h
  · exact .inr ⟨g2, cap2, c, rfl, h1, h2, by rw [setCell_block _ _ (by omega)]; exact h3, h4⟩

/-- a number of the document, of the value t -/
def RN (w : World) (base : Nat) (A : Value) (t : Bool × Nat × Int) : Prop := ∃ ao cap, A = .agg #[.bool t.1, .slice ao (dlen t.2.1) cap, .int .i64 t.2.2] ∧ (∀ ad : Addr, ao = some ad → 0 < dlen t.2.1 → base ≤ ad.block) ∧ At w ao (dlen t.2.1) t.2.1
theorem RN.later {w w' : World} {base : Nat} {A : Value} {t : Bool × Nat × Int} (h : RN w base A t) (hb : Below w.heap.size w w') : RN w' base A t := by
  obtain ⟨ao, cap, h1, h2, h3⟩ := h
  exact ⟨ao, cap, h1, h2, h3.later hb⟩
theorem RN.mono {w : World} {base base' : Nat} {A : Value} {t : Bool × Nat × Int} (h : RN w base A t) (hb : base' ≤ base) : RN w base' A t := by
  obtain ⟨ao, cap, h1, h2, h3⟩ := h
  exact ⟨ao, cap, h1, fun ad e hl => Nat.le_trans hb (h2 ad e hl), h3⟩
theorem Dn.at_ {w : World} {base n z cap : Nat} {ao : Option Addr} (h : Dn w base (.slice ao n cap) n z) : At w ao n z := by
  rcases h with ⟨h1, rfl⟩ | ⟨g, cap', c, h1, h2, h3, h4, h5, h6⟩
  · exact ⟨0, 0, fun h => by omega, fun i hi => by omega⟩
  · simp only [Value.slice.injEq] at h1
    obtain ⟨rfl, -, rfl⟩ := h1
    exact ⟨g, 0, fun _ => rfl, fun i hi => by simp [World.cell?, h4, h6 i hi]⟩
end Go.Proofs.YtlicjplmcepbnaaGreatDoor
/- The document's norm: its answer has room for its digits. -/
namespace Go.Proofs.YtlicjplmcepbnaaGreatDoor
set_option linter.unusedVariables false
set_option linter.unusedSimpArgs false
open Go.RowKit

/-- a number of the document, that can be handed on -/
def NC (w' : World) (base : Nat) (a : Value) (neg : Bool) (x : Nat) (e : Int) : Prop := ∃ ao cap, a = .agg #[.bool (cn neg x e).1, .slice ao (dlen (cn neg x e).2.1) cap, .int .i64 (cn neg x e).2.2] ∧ Arg w' ao (dlen (cn neg x e).2.1) cap (cn neg x e).2.1 ∧ (∀ ad : Addr, ao = some ad → 0 < dlen (cn neg x e).2.1 → base ≤ ad.block)
theorem NC.later {w w' : World} {base : Nat} {a : Value} {neg : Bool} {x : Nat} {e : Int} (h : NC w base a neg x e) (hb : Below w.heap.size w w') : NC w' base a neg x e := by
  obtain ⟨ao, cap, h1, h2, h3⟩ := h
  exact ⟨ao, cap, h1, h2.later hb, h3⟩
theorem NC.mono {w : World} {base base' : Nat} {a : Value} {neg : Bool} {x : Nat} {e : Int} (h : NC w base a neg x e) (hb : base' ≤ base) : NC w base' a neg x e := by
  obtain ⟨ao, cap, h1, h2, h3⟩ := h
  exact ⟨ao, cap, h1, h2, fun ad e hl => Nat.le_trans hb (h3 ad e hl)⟩
end Go.Proofs.YtlicjplmcepbnaaGreatDoor
/- The document's Shift. -/
namespace Go.Proofs.YtlicjplmcepbnaaGreatDoor
set_option linter.unusedVariables false
set_option linter.unusedSimpArgs false
open Go.RowKit

end Go.Proofs.YtlicjplmcepbnaaGreatDoor
/- The document's High, far. -/
namespace Go.Proofs.YtlicjplmcepbnaaGreatDoor
set_option linter.unusedVariables false
set_option linter.unusedSimpArgs false
open Go.RowKit

end Go.Proofs.YtlicjplmcepbnaaGreatDoor
/- The document's Plus. -/
namespace Go.Proofs.YtlicjplmcepbnaaGreatDoor
set_option linter.unusedVariables false
set_option linter.unusedSimpArgs false
open Go.RowKit

end Go.Proofs.YtlicjplmcepbnaaGreatDoor
/- Add and Up, refused. -/
namespace Go.Proofs.YtlicjplmcepbnaaGreatDoor
set_option linter.unusedVariables false
set_option linter.unusedSimpArgs false
open Go.RowKit

end Go.Proofs.YtlicjplmcepbnaaGreatDoor
/- The document's Plus joined, Add. -/
namespace Go.Proofs.YtlicjplmcepbnaaGreatDoor
set_option linter.unusedVariables false
set_option linter.unusedSimpArgs false
open Go.RowKit

theorem RN.shape {w : World} {base : Nat} {A : Value} {t : Bool × Nat × Int} (h : RN w base A t) : ∃ s ao n cap e, A = .agg #[.bool s, .slice ao n cap, .int .i64 e] := by
  obtain ⟨ao, cap, h1, -⟩ := h
  exact ⟨_, _, _, _, _, h1⟩

/-- the answer and its error: the value t where it may be -/
def Ans (V : Bool) (t : Bool × Nat × Int) : Bool × Nat × Int := if V then t else (false, 0, 0)

theorem okR_cn (s : Bool) (z : Nat) (e : Int) : okR s z e = okN (cn s z e).1 (dlen (cn s z e).2.1) (cn s z e).2.1 (cn s z e).2.2 := by
  unfold okR cn
  by_cases h0 : z = 0
  · rw [if_pos h0, if_pos h0, dlen_zero]; rfl
  · rw [if_neg h0, if_neg h0]

end Go.Proofs.YtlicjplmcepbnaaGreatDoor
/- Plus of the document, of numbers of any length: its answer can be handed on. -/
namespace Go.Proofs.YtlicjplmcepbnaaGreatDoor
set_option linter.unusedVariables false
set_option linter.unusedSimpArgs false
open Go.RowKit

theorem NC.shape {w : World} {base : Nat} {a : Value} {s : Bool} {z : Nat} {e : Int} (h : NC w base a s z e) : ∃ s ao n cap ex, a = .agg #[.bool s, .slice ao n cap, .int .i64 ex] := by
  obtain ⟨ao, cap, h1, -⟩ := h
  exact ⟨_, _, _, _, _, h1⟩
theorem NC.store {w : World} {base g : Nat} {A : Value} {s : Bool} {z : Nat} {e : Int} (h : NC w base A s z e) (hg : g < base) (a b c : Value) : NC (((w.setCell ⟨g, 0, none⟩ a).setCell ⟨g, 1, none⟩ b).setCell ⟨g, 2, none⟩ c) base A s z e := by
  obtain ⟨ao, cap, h1, h2, h3⟩ := h
  refine ⟨ao, cap, h1, ⟨h2.nil, ?_, h2.le, h2.small⟩, h3⟩
  obtain ⟨bb, oo, hb, hc⟩ := h2.at_
  refine ⟨bb, oo, hb, fun i hi => ?_⟩
  have hbb : base ≤ bb := h3 _ (hb (by omega)) (by omega)
  rw [World.cell?_setCell_other _ _ _ _ (by intro e; simp at e <;> omega), World.cell?_setCell_other _ _ _ _ (by intro e; simp at e <;> omega), World.cell?_setCell_other _ _ _ _ (by intro e; simp at e <;> omega)]
  exact hc i hi
theorem Dn.nc {w : World} {base : Nat} {ao : Option Addr} {cap z : Nat} {s : Bool} {e : Int} (h : Dn w base (.slice ao (dlen z) cap) (dlen z) z) (hc : cn s z e = (s, z, e)) (hz : dlen z ≤ 35184372088832) : NC w base (.agg #[.bool s, .slice ao (dlen z) cap, .int .i64 e]) s z e := by
  refine ⟨ao, cap, by rw [hc], ?_, ?_⟩
  · rw [hc]
    rcases h with ⟨h1, h2⟩ | ⟨g, cap', c, h1, h2, h3, h4, h5, h6⟩
    · simp only [Value.slice.injEq] at h1
      obtain ⟨rfl, -, rfl⟩ := h1
      exact ⟨fun _ => .inr ⟨rfl, rfl⟩, ⟨0, 0, fun h => by simp only at h; omega, fun i hi => by simp only at hi; omega⟩, by simp only; omega, hz⟩
    · simp only [Value.slice.injEq] at h1
      obtain ⟨rfl, -, rfl⟩ := h1
      refine ⟨fun _ => .inl ⟨_, rfl⟩, ⟨g, 0, fun _ => rfl, fun i hi => ?_⟩, h3.1, hz⟩
      rw [Nat.zero_add]
      simp [World.cell?, h4, h6 i hi]
  · rw [hc]
    rcases h with ⟨h1, h2⟩ | ⟨g, cap', c, h1, h2, h3, h4, h5, h6⟩
    · intro ad e hl; simp only at hl; omega
    · simp only [Value.slice.injEq] at h1
      obtain ⟨rfl, -, rfl⟩ := h1
      intro ad e _
      injection e with e; rw [← e]; exact h2
end Go.Proofs.YtlicjplmcepbnaaGreatDoor
/- The document's Float, as a number that can be handed on. -/
namespace Go.Proofs.YtlicjplmcepbnaaGreatDoor
set_option linter.unusedVariables false
set_option linter.unusedSimpArgs false
open Go.RowKit Go.Fl64

/-- the number that a float is -/
def tF (a : Nat) : Bool × Nat × Int := cn (neg a) (Ie.mant a) (Ie.lp a)
/-- a number of the document, in memory -/
def DN (w : World) (A : Value) (t : Bool × Nat × Int) : Prop := ∃ ao cap, A = .agg #[.bool t.1, .slice ao (dlen t.2.1) cap, .int .i64 t.2.2] ∧ Arg w ao (dlen t.2.1) cap t.2.1
theorem DN.later {w w' : World} {A : Value} {t : Bool × Nat × Int} (h : DN w A t) (hb : Below w.heap.size w w') : DN w' A t := by
  obtain ⟨ao, cap, h1, h2⟩ := h
  exact ⟨ao, cap, h1, h2.later hb⟩
theorem DN.shape {w : World} {A : Value} {t : Bool × Nat × Int} (h : DN w A t) : ∃ s ao n cap e, A = .agg #[.bool s, .slice ao n cap, .int .i64 e] := by
  obtain ⟨ao, cap, h1, -⟩ := h
  exact ⟨_, _, _, _, _, h1⟩
end Go.Proofs.YtlicjplmcepbnaaGreatDoor
/- The document's Add; Add, Sub, Mul refused. -/
namespace Go.Proofs.YtlicjplmcepbnaaGreatDoor
set_option linter.unusedVariables false
set_option linter.unusedSimpArgs false
open Go.RowKit

end Go.Proofs.YtlicjplmcepbnaaGreatDoor
/- The document's Sub; far numbers; all of Add, Sub, Mul, Shift. -/
namespace Go.Proofs.YtlicjplmcepbnaaGreatDoor
set_option linter.unusedVariables false
set_option linter.unusedSimpArgs false
open Go.RowKit

end Go.Proofs.YtlicjplmcepbnaaGreatDoor
/- normal over a slice of any capacity. -/
namespace Go.Proofs.YtlicjplmcepbnaaGreatDoor
set_option linter.unusedVariables false
set_option linter.unusedSimpArgs false
open Go.RowKit

theorem c120_v (b o cap m whole part x k : Nat) (w : World) (hm0 : 0 < m) (hm : m ≤ 35184372088832) (hk : k ≤ 1099511627776) (hcap : whole + m ≤ cap) (hcap2 : cap ≤ 9223372036854775807) (hwh : k / 32 = whole) (hpa : k % 32 = part)
    (hn : dlen x = whole + m) (hcell : ∀ i, i < whole + m → w.cell? ⟨b, o + i, none⟩ = some (.int .u32 (dg x i : Nat))) :
    Calls Tryz.prog 89 #[.slice (some ⟨b, o, none⟩) (whole + m : Nat) cap, .int .i64 k] w fun e w' => ∃ v, e = .returned v ∧ Own w' w.heap.size v (x / 2 ^ k) ∧ Below w.heap.size w w' := by
  have hq : (k : Int).tdiv 32 = ((k / 32 : Nat) : Int) := by rw [Int.tdiv_eq_ediv_of_nonneg (by omega)]; rfl
  have hr : (k : Int).tmod 32 = ((k % 32 : Nat) : Int) := by rw [Int.tmod_eq_emod_of_nonneg (by omega)]; rfl
  have hwb : whole ≤ 1099511627776 := by omega
  have hpb : part < 32 := by omega
  rw [hwh] at hq
  rw [hpa] at hr
  have hmk := run_make_row' (P := Tryz.prog) 63 72 (.int .u32 0) 4 Tryz.underlying63 Tryz.info72 rfl .i64 .i64 m (by omega) (by omega)
  have HN : Hid (dlen x = whole + m) := hn
  have HW : Hid (k / 32 = whole) := hwh
  have HP : Hid (k % 32 = part) := hpa
  clear hn hwh hpa
  have hmi : (whole : Int) < ((whole + m : Nat) : Int) := by omega
  have hmi2 : ¬ whole = cap := by omega
  go_enter Tryz.func89, Tryz.ntmps89
  go_wp2
  clear hmk
  go_loopw [27] (fun i wr => ∃ j : Nat, j ≤ m ∧ i = .int .i64 j ∧ Mk w wr m (fun t => if t < j then dg (x / 2 ^ k) t else 0)) (fun i _ => m - (intOf i).toNat)
  case atStart => exact ⟨0, Nat.zero_le _, rfl, (Mk.start w _).congr fun i hi => by rw [if_neg (by omega)]⟩
  case round =>
    obtain ⟨j, hj, rfl, hM⟩ := hrel
    by_cases hjn : j + 1 < m
    · have g1 := hM.old (hcell (whole + j) (by omega))
      have g4 := hM.old (hcell (whole + (j + 1)) (by omega))
      rw [← Nat.add_assoc] at g1 g4
      have g2 := hM.cell (i := j) (by omega)
      have g3 := hM.frozen j
      rw [if_neg (by omega)] at g2
      have hji : (j : Int) + 1 < (m : Int) := by omega
      have HM : Hid (Mk w wr m (fun t => if t < j then dg (x / 2 ^ k) t else 0)) := hM
      generalize hd : dg x (whole + j) = d at *
      generalize hd1 : dg x (whole + (j + 1)) = d1 at *
      have HD : Hid (dg x (whole + j) = d) := hd
      have HD1 : Hid (dg x (whole + (j + 1)) = d1) := hd1
      have HL : Hid (d < B ∧ d1 < B) := ⟨hd ▸ dg_lt _ _, hd1 ▸ dg_lt _ _⟩
      clear hd hd1 hM hcell
      go_wp2
      exact shr_round HM.out (by rw [shr_word2 HL.out.1 HL.out.2, shr_digit HW.out HP.out, HD.out, HD1.out]) (by omega)
    · by_cases hjm : j < m
      · have g1 := hM.old (hcell (whole + j) (by omega))
        rw [← Nat.add_assoc] at g1
        have g2 := hM.cell (i := j) (by omega)
        have g3 := hM.frozen j
        rw [if_neg (by omega)] at g2
        have hji : ¬ (j : Int) + 1 < (m : Int) := by omega
        have hji2 : (j : Int) < (m : Int) := by omega
        have HM : Hid (Mk w wr m (fun t => if t < j then dg (x / 2 ^ k) t else 0)) := hM
        generalize hd : dg x (whole + j) = d at *
        have HD : Hid (dg x (whole + j) = d) := hd
        have HL : Hid (d < B) := hd ▸ dg_lt _ _
        have HZ : Hid (dg x (whole + (j + 1)) = 0) := dg_past (by rw [HN.out]; omega)
        clear hd hM hcell
        go_wp2
        exact shr_round HM.out (by rw [shr_word1 HL.out, shr_digit HW.out HP.out, HD.out, HZ.out, Nat.zero_mul, Nat.add_zero]) (by omega)
      · obtain rfl : j = m := by omega
        have hE : Mk w wr j (dg (x / 2 ^ k)) := hM.congr fun i hi => if_pos hi
        have hA := hE.at
        have hL := shr_len (k := k) (m := j) (by rw [HW.out]; exact HN.out)
        have HC : Hid (Mk w wr j (dg (x / 2 ^ k))) := hE
        clear hM hcell hE
        go_wp2_with (first | (go_at_call 68; refine (c62 _ _ _ (x / 2 ^ k) _ hL (Nat.le_refl _) (by omega) hA).mono ?_; rintro e w' ⟨rfl, rfl⟩))
        go_ret
        exact ⟨_, rfl, HC.out.own hL (by omega), HC.out.below⟩

theorem tz_in' {x : Nat} (hx0 : x ≠ 0) : tz x / 32 < dlen x := by
  have h1 := (tz_spec _ x (Nat.le_refl _) hx0)
  have h2 : 2 ^ tz x ≤ x := by
    have h3 : 1 ≤ x / 2 ^ tz x := Nat.pos_of_ne_zero fun e0 => by have := h1.2; rw [e0] at this; simp at this
    have := Nat.mul_le_mul_left (2 ^ tz x) h3
    omega
  have h4 := lt_bl x
  have h5 : tz x < bl x := Nat.lt_of_not_le fun h6 => by
    have := Nat.pow_le_pow_right (n := 2) (by omega) h6
    omega
  have hd0 : dlen x ≠ 0 := fun e => hx0 (dlen_eq_zero.1 e)
  have := bl_top hx0
  have := bl_le32 (dg_lt x (dlen x - 1))
  omega

set_option maxRecDepth 200000 in
theorem c56_v (neg : Bool) (b o n cap x : Nat) (e : Int) (w : World) (hcell : ∀ i, i < n → w.cell? ⟨b, o + i, none⟩ = some (.int .u32 (dg x i : Nat))) (hc1 : n ≤ cap) (hc2 : cap ≤ 9223372036854775807) (hn : dlen x = n) (hx : dlen x ≤ 1000000000) (hx0 : x ≠ 0) (hT : Tab32 w) (he : -4611686018427387904 ≤ e ∧ e ≤ 4611686018427387904) :
    Calls Tryz.prog 70 #[.bool neg, .slice (some ⟨b, o, none⟩) n cap, .int .i64 e] w fun r w' => ∃ v, r = .returned (.agg #[.bool neg, v, .int .i64 (e + tz x)]) ∧ Own w' w.heap.size v (x / 2 ^ tz x) ∧ Below w.heap.size w w' := by
  obtain ⟨w0, hw0⟩ : ∃ w0, w0 = w.alloc (.cells #[.bool false, .slice none 0 0, .int .i64 0] 65) := ⟨_, rfl⟩
  have hB0 : Below w.heap.size w w0 := by rw [hw0]; exact (Below.refl _ _).alloc (Nat.le_refl _) _
  have hcell0 : ∀ i, i < n → w0.cell? ⟨b, o + i, none⟩ = some (.int .u32 (dg x i : Nat)) := fun i hi => (hB0.cell (World.block_lt_of_cell? _ _ (hcell i hi))).trans (hcell i hi)
  have hT0 := hT.later hB0
  have k62 := c62 (some ⟨b, o, none⟩) n cap x w0 (by omega) hc1 (by omega) ⟨b, o, fun _ => rfl, hcell0⟩
  rw [hn] at k62
  have k119 := c119_1 b o n cap x w0 (by omega) hn hx0 hT0 hcell0
  have htz := tz_in' hx0
  have htb : tz x ≤ 40000000000 := by omega
  have k120 : Calls Tryz.prog 89 #[.slice (some ⟨b, o, none⟩) n cap, .int .i64 (tz x : Nat)] w0 fun e w' => ∃ v, e = .returned v ∧ Own w' w0.heap.size v (x / 2 ^ tz x) ∧ Below w0.heap.size w0 w' := by
    obtain ⟨m, hm⟩ : ∃ m, dlen x = tz x / 32 + m := ⟨dlen x - tz x / 32, by omega⟩
    rw [← hn, hm]
    exact c120_v b o cap m _ _ x (tz x) w0 (by omega) (by omega) (by omega) (by omega) hc2 rfl rfl hm (fun i hi => hcell0 i (by omega))
  have hn0 : ((n : Int) == 0) = false := by
    have : dlen x ≠ 0 := fun e => hx0 (dlen_eq_zero.1 e)
    simp; omega
  have HH : Hid (w0.heap[w.heap.size]? = some (.cells #[.bool false, .slice none 0 0, .int .i64 0] 65 (0, 0))) := (by rw [hw0]; exact heap_alloc_new _ _ : w0.heap[w.heap.size]? = some (.cells #[.bool false, .slice none 0 0, .int .i64 0] 65 (0, 0)))
  have HB0 : Hid (Below w.heap.size w w0) := hB0
  have HX : Hid (w0.heap.size = w.heap.size + 1) := (by rw [hw0]; simp : w0.heap.size = w.heap.size + 1)
  generalize htzx : tz x = t at *
  have HTZ : Hid (tz x = t) := htzx
  obtain ⟨he1, he2⟩ := he
  clear hcell hcell0 hT hT0 hn hx0 hx hB0 htzx htz
  go_enter Tryz.func70, Tryz.ntmps70
  go_wp2_with fail
  rw [← hw0]
  clear hw0
  refine k62.mono ?_
  rintro e w1 ⟨rfl, rfl⟩
  clear k62
  go_wp2_with fail
  refine k119.mono ?_
  rintro e w2 ⟨rfl, rfl⟩
  clear k119
  go_wp2_with fail
  refine k120.mono ?_
  rintro e w3 ⟨v, rfl, hO, hB⟩
  obtain ⟨va, vc, rfl, -, -, -⟩ := hO.is
  generalize dlen (x / 2 ^ t) = vl at *
  have HH3 : Hid (w3.heap[w.heap.size]? = some (.cells #[.bool false, .slice none 0 0, .int .i64 0] 65 (0, 0))) := box_later HH.out hB (by have := HX.out; omega)
  obtain ⟨⟨a1, a2, a3⟩, a4, a5, a6⟩ := box_cells HH3.out
  have HO : Hid (Own w3 w2.heap.size (.slice va vl vc) (x / 2 ^ t)) := hO
  have HB : Hid (Below w2.heap.size w2 w3) := hB
  clear k120 hO hB
  go_wp2
  refine bodyPost_ret (results_cell_row rfl _ _ w.heap.size 65 #[.bool neg, .slice va vl vc, .int .i64 (e + t)] (0, 0) _ rfl (store3 _ _ _ HH3.out) Tryz.underlying65 rfl Tryz.info65) rfl ?_
  have hx := HX.out
  exact ⟨_, rfl, (own_store3 HO.out (by omega) _ _ _).mono (by omega), below_store3 (HB0.out.trans (HB.out.mono (by omega))) (Nat.le_refl _) _ _ _⟩

end Go.Proofs.YtlicjplmcepbnaaGreatDoor
/- Make. -/
namespace Go.Proofs.YtlicjplmcepbnaaGreatDoor
set_option linter.unusedVariables false
set_option linter.unusedSimpArgs false
open Go.RowKit

/-- what Make answers -/
def Mk25 (w w' : World) (neg : Bool) (x : Nat) (e : Int) (r : Ending) : Prop :=
  (okR neg x e = true ∧ ∃ A, r = .returned (.tuple #[A, .int .i64 0]) ∧ Nrm w' w.heap.size A neg x e) ∨ (okR neg x e = false ∧ r = .returned (.tuple #[.agg #[.bool false, .slice none 0 0, .int .i64 0], .int .i64 2]))

set_option maxRecDepth 200000 in
theorem c15_0 (neg : Bool) (ao : Option Addr) (n cap : Nat) (e : Int) (w : World) (h : At w ao n 0) (hn : n ≤ cap) (hc : n ≤ 70368744177664) :
    Calls Tryz.prog 48 #[.bool neg, .slice ao n cap, .int .i64 e] w fun r w' => Mk25 w w' neg 0 e r ∧ Below w.heap.size w w' := by
  have HB : Hid (Below w.heap.size w (w.alloc (.cells #[.bool false, .slice none 0 0, .int .i64 0] 65))) := (Below.refl _ _).alloc (Nat.le_refl _) _
  have k := c62 ao n cap 0 (w.alloc (.cells #[.bool false, .slice none 0 0, .int .i64 0] 65)) (by rw [dlen_zero]; omega) hn hc (h.later HB.out)
  rw [dlen_zero] at k
  clear h
  go_enter Tryz.func48, Tryz.ntmps48
  go_wp2_with fail
  refine k.mono ?_
  rintro r w1 ⟨rfl, rfl⟩
  go_wp2
  refine bodyPost_ret (results_cell_tmp_row rfl _ _ w.heap.size 65 #[.bool false, .slice none 0 0, .int .i64 0] (0, 0) _ rfl (heap_alloc_new _ _) Tryz.underlying65 rfl Tryz.info65) rfl ?_
  refine ⟨?_, HB.out⟩
  unfold Mk25
  exact .inl ⟨by unfold okR; rw [if_pos rfl], _, rfl, .inl ⟨rfl, rfl⟩⟩

theorem okR_bad {neg : Bool} {x : Nat} {e : Int} (hx : x ≠ 0) (h : e > 65536 ∨ e < -65536 - 32 * (dlen x : Int)) : okR neg x e = false := by
  have ht := tz_in' hx
  unfold okR okN
  rw [if_neg hx]
  have hy : dlen (x / 2 ^ tz x) ≠ 0 := by
    intro e0
    have := (tz_spec _ x (Nat.le_refl _) hx).2
    rw [dlen_eq_zero.1 e0] at this
    simp at this
  rw [if_neg hy]
  simp only [Bool.and_eq_false_iff, decide_eq_false_iff_not]
  rcases h with h | h
  · exact .inr (by omega)
  · exact .inl (.inr (by omega))

set_option maxHeartbeats 2000000 in
set_option maxRecDepth 200000 in
theorem c15_1 (neg : Bool) (b o n cap x : Nat) (e : Int) (w : World) (hcell : ∀ i, i < n → w.cell? ⟨b, o + i, none⟩ = some (.int .u32 (dg x i : Nat))) (hxn : dlen x ≤ n) (hn : n ≤ cap) (hc2 : cap ≤ 9223372036854775807) (hc : n ≤ 1000000000) (hx0 : x ≠ 0) (he : -9223372036854775808 ≤ e ∧ e ≤ 9223372036854775807) (hT : Tab32 w) :
    Calls Tryz.prog 48 #[.bool neg, .slice (some ⟨b, o, none⟩) n cap, .int .i64 e] w fun r w' => Mk25 w w' neg x e r ∧ Below w.heap.size w w' := by
  obtain ⟨W, hW⟩ : ∃ W, W = w.alloc (.cells #[.bool false, .slice none 0 0, .int .i64 0] 65) := ⟨_, rfl⟩
  have hBW : Below w.heap.size w W := by rw [hW]; exact (Below.refl _ _).alloc (Nat.le_refl _) _
  have hcW : ∀ i, i < n → W.cell? ⟨b, o + i, none⟩ = some (.int .u32 (dg x i : Nat)) := fun i hi => (hBW.cell (World.block_lt_of_cell? _ _ (hcell i hi))).trans (hcell i hi)
  have k38 := c62 (some ⟨b, o, none⟩) n cap x W hxn hn (by omega) ⟨b, o, fun _ => rfl, hcW⟩
  have HX : Hid (Below w.heap.size w W ∧ W.heap.size = w.heap.size + 1 ∧ W.heap[w.heap.size]? = some (.cells #[.bool false, .slice none 0 0, .int .i64 0] 65 (0, 0))) := ⟨hBW, by rw [hW]; simp, by rw [hW]; exact heap_alloc_new _ _⟩
  obtain ⟨he1, he2⟩ := he
  have hl0 : dlen x ≠ 0 := fun e => hx0 (dlen_eq_zero.1 e)
  have hlb : dlen x ≤ 1000000000 := by omega
  have hn0 : ((dlen x : Int) == 0) = false := by simp; omega
  by_cases hbad : e > 65536 ∨ e < -65536 - 32 * (dlen x : Int)
  · have HO : Hid (okR neg x e = false) := okR_bad hx0 hbad
    clear hcell hcW hBW hT hx0
    generalize dlen x = L at *
    obtain ⟨⟨a0, a1, a2⟩, a3, a4, a5⟩ := box_cells HX.out.2.2
    rcases hbad with hbad | hbad
    · go_enter Tryz.func48, Tryz.ntmps48
      go_wp2_with fail
      rw [← hW]
      clear hW
      refine k38.mono ?_
      rintro r w1 ⟨rfl, hw1⟩
      replace hw1 := hw1.symm
      subst hw1
      clear k38
      go_wp2_with fail
      refine bodyPost_ret (results_cell_tmp_row rfl _ _ w.heap.size 65 #[.bool false, .slice none 0 0, .int .i64 0] (0, 0) _ rfl (store3 _ _ _ HX.out.2.2) Tryz.underlying65 rfl Tryz.info65) rfl ?_
      refine ⟨?_, below_store3 HX.out.1 (Nat.le_refl _) _ _ _⟩
      unfold Mk25
      exact .inr ⟨HO.out, rfl⟩
    · have hnb : ¬ e > 65536 := by omega
      go_enter Tryz.func48, Tryz.ntmps48
      go_wp2_with fail
      rw [← hW]
      clear hW
      refine k38.mono ?_
      rintro r w1 ⟨rfl, hw1⟩
      replace hw1 := hw1.symm
      subst hw1
      clear k38
      go_wp2_with fail
      refine bodyPost_ret (results_cell_tmp_row rfl _ _ w.heap.size 65 #[.bool false, .slice none 0 0, .int .i64 0] (0, 0) _ rfl (store3 _ _ _ HX.out.2.2) Tryz.underlying65 rfl Tryz.info65) rfl ?_
      refine ⟨?_, below_store3 HX.out.1 (Nat.le_refl _) _ _ _⟩
      unfold Mk25
      exact .inr ⟨HO.out, rfl⟩
  · have h1 : ¬ e > 65536 := fun h => hbad (.inl h)
    have h2 : ¬ e < -65536 - 32 * (dlen x : Int) := fun h => hbad (.inr h)
    have k31 := c56_v neg b o (dlen x) cap x e W (fun i hi => hcW i (by omega)) (by omega) hc2 rfl (by omega) hx0 (hT.later hBW) (by omega)
    have HN0 : Hid (x ≠ 0 ∧ dlen x ≤ 35184372088832) := ⟨hx0, by omega⟩
    clear hcell hcW hBW hT hx0 hbad
    generalize hLx : dlen x = L at *
    have HLx : Hid (dlen x = L) := hLx
    clear hLx
    go_enter Tryz.func48, Tryz.ntmps48
    go_wp2_with fail
    rw [← hW]
    clear hW
    refine k38.mono ?_
    rintro r w1 ⟨rfl, hw1⟩
    replace hw1 := hw1.symm
    subst hw1
    clear k38
    go_wp2_with fail
    refine k31.mono ?_
    rintro r w2 ⟨v, rfl, ho, hb2⟩
    obtain ⟨va, vk, rfl, -, -, -⟩ := ho.is
    have HN : Hid (Nrm w2 W.heap.size (.agg #[.bool neg, .slice va (dlen (x / 2 ^ tz x)) vk, .int .i64 (e + tz x)]) neg x e) := (.inr ⟨HN0.out.1, _, rfl, ho⟩ : Nrm w2 W.heap.size (.agg #[.bool neg, .slice va (dlen (x / 2 ^ tz x)) vk, .int .i64 (e + tz x)]) neg x e)
    have HB2 : Hid (Below W.heap.size W w2) := hb2
    have k39 := c63n HN.out (by rw [HLx.out]; exact HN0.out.2)
    clear k31 ho hb2
    go_wp2_with fail
    refine k39.mono ?_
    rintro r w3 ⟨rfl, hb3⟩
    have HB3 : Hid (Below W.heap.size W w3) := HB2.out.trans (hb3.mono HB2.out.size)
    have HN3 : Hid (Nrm w3 W.heap.size (.agg #[.bool neg, .slice va (dlen (x / 2 ^ tz x)) vk, .int .i64 (e + tz x)]) neg x e) := HN.out.later hb3
    have HC3 : Hid (w3.heap[w.heap.size]? = some (.cells #[.bool false, .slice none 0 0, .int .i64 0] 65 (0, 0))) := box_later HX.out.2.2 HB3.out (by have := HX.out.2.1; omega)
    obtain ⟨⟨x1, x2, x3⟩, x4, x5, x6⟩ := box_cells HC3.out
    clear k39 hb3
    cases hok : okR neg x e
    · have HOK : Hid (okR neg x e = false) := hok
      have hNil : Nil = .agg #[.bool false, .slice none 0 0, .int .i64 0] := rfl
      go_wp2
      refine bodyPost_ret (results_cell_tmp_row rfl _ _ w.heap.size 65 #[.bool false, .slice none 0 0, .int .i64 0] (0, 0) _ rfl (store3 _ _ _ HC3.out) Tryz.underlying65 rfl Tryz.info65) rfl ?_
      refine ⟨?_, below_store3 (HX.out.1.trans (HB3.out.mono HX.out.1.size)) (Nat.le_refl _) _ _ _⟩
      unfold Mk25
      exact .inr ⟨HOK.out, rfl⟩
    · have HOK : Hid (okR neg x e = true) := hok
      go_wp2
      refine bodyPost_ret (results_cell_tmp_row rfl _ _ w.heap.size 65 #[.bool neg, .slice va (dlen (x / 2 ^ tz x)) vk, .int .i64 (e + tz x)] (0, 0) _ rfl (store3 _ _ _ HC3.out) Tryz.underlying65 rfl Tryz.info65) rfl ?_
      refine ⟨?_, below_store3 (HX.out.1.trans (HB3.out.mono HX.out.1.size)) (Nat.le_refl _) _ _ _⟩
      unfold Mk25
      have hn3 := HN3.out
      exact .inl ⟨HOK.out, _, rfl, (hn3.store (by have := HX.out.2.1; omega) _ _ _).mono (by have := HX.out.2.1; omega)⟩
end Go.Proofs.YtlicjplmcepbnaaGreatDoor
/- DyadOf: the law's walk, and what it answers. -/
namespace Go.Proofs.YtlicjplmcepbnaaGreatDoor
set_option linter.unusedVariables false
set_option linter.unusedSimpArgs false
open Go.RowKit Go.Fl64

end Go.Proofs.YtlicjplmcepbnaaGreatDoor
/- DyadMakes: the law's walk, where there are digits. -/
namespace Go.Proofs.YtlicjplmcepbnaaGreatDoor
set_option linter.unusedVariables false
set_option linter.unusedSimpArgs false
open Go.RowKit Go.Fl64

end Go.Proofs.YtlicjplmcepbnaaGreatDoor
/- DyadOf answers true, whatever the float and the whole number are. -/
namespace Go.Proofs.YtlicjplmcepbnaaGreatDoor
set_option linter.unusedVariables false
set_option linter.unusedSimpArgs false
open Go.RowKit Go.Fl64

theorem short {m : Nat} (h : m < 18446744073709551616) : dlen (m / 2 ^ tz m) ≤ 35184372088832 := by
  have h1 : dlen m ≤ 2 := (dlen_le 2 m).2 (by unfold B; omega)
  have h2 : dlen (m / 2 ^ tz m) ≤ dlen m := dlen_mono (Nat.div_le_self ..)
  omega

/-- the float's odd digits and exponent are those of the document's number -/
theorem of_parts (a m : Nat) (ha : a < 18446744073709551616) (hf : mag a < 9218868437227405312) (hm : Ie.sM a = (m : Int)) :
    (m = 0 ∧ Ie.mant a = 0) ∨ (m ≠ 0 ∧ Ie.mant a ≠ 0 ∧ neg a = neg a ∧ m / 2 ^ tz m = Ie.mant a / 2 ^ tz (Ie.mant a) ∧ Ie.sE a + (tz m : Int) = Ie.lp a + (tz (Ie.mant a) : Int)) := by
  unfold Ie.sM at hm
  unfold Ie.sE
  rw [if_neg (by omega)] at hm ⊢
  by_cases h0 : mag a = 0
  · rw [if_pos h0] at hm
    exact .inl ⟨by omega, by unfold Ie.mant; rw [if_pos (by omega)]; exact h0⟩
  · rw [if_neg h0] at hm ⊢
    have hb := Ie.mant_bound a
    have hne := Ie.mant_ne h0
    have hct : Lib.ctz 64 (Ie.mant a) = tz (Ie.mant a) := tz_ctz hne (by omega)
    rw [hct] at hm ⊢
    have e1 : m = Ie.mant a / 2 ^ tz (Ie.mant a) := by
      have : ((Ie.mant a / 2 ^ tz (Ie.mant a) : Nat) : Int) = (m : Int) := by rw [← hm]; simp
      omega
    obtain ⟨h1, h2⟩ := tz_spec _ (Ie.mant a) (Nat.le_refl _) hne
    rw [← e1] at h2
    have e2 : tz m = 0 := tz_odd h2
    refine .inr ⟨by intro e; rw [e] at h2; simp at h2, hne, rfl, ?_, ?_⟩
    · rw [e2, ← e1]; simp
    · rw [e2]; simp

end Go.Proofs.YtlicjplmcepbnaaGreatDoor
/- DyadMakes answers true: digits, and none. -/
namespace Go.Proofs.YtlicjplmcepbnaaGreatDoor
set_option linter.unusedVariables false
set_option linter.unusedSimpArgs false
open Go.RowKit Go.Fl64

end Go.Proofs.YtlicjplmcepbnaaGreatDoor
/- The document's Add, Sub, Mul, Shift of numbers that may be, and of others. -/
namespace Go.Proofs.YtlicjplmcepbnaaGreatDoor
set_option linter.unusedVariables false
set_option linter.unusedSimpArgs false
open Go.RowKit

end Go.Proofs.YtlicjplmcepbnaaGreatDoor
/- Abs, Neg: of numbers that may be, and refused. -/
namespace Go.Proofs.YtlicjplmcepbnaaGreatDoor
set_option linter.unusedVariables false
set_option linter.unusedSimpArgs false
open Go.RowKit

end Go.Proofs.YtlicjplmcepbnaaGreatDoor
