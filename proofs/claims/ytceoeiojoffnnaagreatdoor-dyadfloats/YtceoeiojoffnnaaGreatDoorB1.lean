/- Own work: contracts of the program's functions, part B1. -/
import Derived.Test.YtceoeiojoffnnaaGreatDoorA8
import Derived.Test.YtceoeiojoffnnaaGreatDoorA7
import Derived.Laws.FloatArith

/- A float is made anew of its odd part and its exponent, whatever the way of rounding. -/
namespace Go.Proofs.YtceoeiojoffnnaaGreatDoor.Ie
set_option linter.unusedVariables false
set_option linter.unusedSimpArgs false
open Go.RowKit Go.Fl64

/-- A number with an odd part has one only. -/
theorem odd_one {x j M : Nat} (hx : x % 2 = 1) (h : x * 2 ^ j = M) (hM : M < 2 ^ 64) : j = Lib.ctz 64 M ∧ (x : Int) = (M : Int) / 2 ^ Lib.ctz 64 M := by
  have hp : 0 < 2 ^ j := Nat.two_pow_pos j
  have h0 : M ≠ 0 := by
    rw [← h]
    exact Nat.ne_of_gt (Nat.mul_pos (by omega) hp)
  obtain ⟨m, hm, hk⟩ := Lib.ctzFrom_spec 64 M (by omega) hM
  have e : Lib.ctz 64 M = Lib.ctzFrom 64 M := by simp [Lib.ctz, h0]
  rw [e]
  generalize Lib.ctzFrom 64 M = c at *
  have hjc : j = c := by
    rcases Nat.lt_trichotomy j c with hlt | heq | hgt
    · exfalso
      obtain ⟨d, rfl⟩ : ∃ d, c = j + (d + 1) := ⟨c - j - 1, by omega⟩
      rw [← h, Nat.pow_add, Nat.mul_comm x, Nat.mul_assoc] at hm
      have := Nat.eq_of_mul_eq_mul_left hp hm
      rw [Nat.pow_succ, Nat.mul_comm (2 ^ d) 2, Nat.mul_assoc] at this
      omega
    · exact heq
    · exfalso
      obtain ⟨d, rfl⟩ : ∃ d, j = c + (d + 1) := ⟨j - c - 1, by omega⟩
      rw [← h, Nat.pow_add, Nat.mul_comm x, Nat.mul_assoc] at hm
      have := Nat.eq_of_mul_eq_mul_left (Nat.two_pow_pos c) hm
      rw [Nat.pow_succ, Nat.mul_comm (2 ^ d) 2, Nat.mul_assoc] at this
      omega
  subst hjc
  refine ⟨rfl, ?_⟩
  have e2 : M / 2 ^ j = x := by rw [← h]; exact Nat.mul_div_cancel _ hp
  rw [← e2]
  simp


/-- What is whole stays, whatever the way. -/
theorem rnd_whole (X d : Nat) (way : Int) : rnd (X * 2 ^ d) d way = X := by
  have hp : 0 < 2 ^ d := Nat.two_pow_pos d
  have e1 : X * 2 ^ d % 2 ^ d = 0 := Nat.mul_mod_left X (2 ^ d)
  have e2 : X * 2 ^ d / 2 ^ d = X := Nat.mul_div_cancel X hp
  unfold rnd rup
  rw [e1, e2]
  have h : ¬ (2 ^ d < 2 * 0) := by omega
  have h' : ¬ (2 * 0 = 2 ^ d) := by omega
  simp only [h, h', decide_false, Bool.false_or, Bool.false_and, ne_eq, not_true_eq_false, ite_self, if_false, Bool.false_eq_true]

theorem bitLen_of {x k : Nat} (h1 : 2 ^ k ≤ x) (h2 : x < 2 ^ (k + 1)) : bitLen x = k + 1 := by
  have h0 : x ≠ 0 := by have := Nat.two_pow_pos k; omega
  unfold bitLen
  rw [if_neg h0, (Nat.log2_eq_iff h0).2 ⟨h1, h2⟩]

/-- The float is made of its odd part, in every way. -/
theorem bod_split {a : Nat} (h0 : mag a ≠ 0) (h1 : mag a < 9218868437227405312) (x c : Nat) (hx : x * 2 ^ c = mant a) (way : Int) :
    bod x (lp a + (c : Int)) way = (mag a : Int) := by
  have hm := mant_ne h0
  have hb := mant_bound a
  have hp : 0 < 2 ^ c := Nat.two_pow_pos c
  have e1 : mant a / 2 ^ c = x := by rw [← hx]; exact Nat.mul_div_cancel _ hp
  have hx0 : x ≠ 0 := by
    intro e
    rw [e, Nat.zero_mul] at hx
    exact hm hx.symm
  have e2 := bitLen_shift (mant a) c (by rw [e1]; exact hx0)
  rw [e1] at e2
  have hx64 : x < 18446744073709551616 := by
    have : x ≤ x * 2 ^ c := Nat.le_mul_of_pos_right x hp
    omega
  obtain ⟨s1, s2⟩ := bitLen_spec x
  have s2 := s2 hx0
  have s3 := bitLen_le64 x hx64
  have s4 : bitLen x ≠ 0 := by unfold bitLen; rw [if_neg hx0]; omega
  have k53 : bitLen (mant a) ≤ 53 := by
    unfold bitLen
    rw [if_neg hm]
    have := (Nat.log2_lt hm).2 (show mant a < 2 ^ 53 from hb)
    omega
  have key : ∀ d : Nat, (nz x : Int) - (c : Int) = (d : Int) → tp x = mant a * 2 ^ d := by
    intro d hd
    unfold tp
    rw [← hx, Nat.mul_assoc, ← Nat.pow_add, show nz x = c + d by omega]
  have hz : (nz x : Int) - (c : Int) = 64 - (bitLen (mant a) : Int) := by unfold nz; omega
  have fin : ∀ d : Nat, (d : Int) = 64 - (bitLen (mant a) : Int) → ∀ P : Int, pl x (lp a + (c : Int)) = P → (P - (lp a + (c : Int) - (nz x : Int))).toNat = d → (P + 1074) * 4503599627370496 + (mant a : Int) = (mag a : Int) → bod x (lp a + (c : Int)) way = (mag a : Int) := by
    intro d hd P hP hD hM
    have er : raw x (lp a + (c : Int)) way = (mag a : Int) := by
      unfold raw
      rw [hP, hD, key d (by omega), rnd_whole]
      exact hM
    unfold bod
    rw [er, if_pos (by omega)]
  by_cases h3 : mag a < 4503599627370496
  · have em : mant a = mag a := if_pos h3
    have el : lp a = -1074 := by unfold lp; omega
    have k52 : bitLen (mant a) ≤ 52 := by
      unfold bitLen
      rw [if_neg hm]
      have := (Nat.log2_lt hm).2 (show mant a < 2 ^ 52 by rw [em]; exact h3)
      omega
    refine fin (64 - bitLen (mant a)) (by omega) (-1074) ?_ (by omega) (by omega)
    unfold pl
    rw [if_pos (by omega)]
  · have em : mant a = 4503599627370496 + mag a % 4503599627370496 := if_neg h3
    have kk : bitLen (mant a) = 53 := bitLen_of (k := 52) (show 2 ^ 52 ≤ mant a by rw [em]; omega) (show mant a < 2 ^ 53 from hb)
    have el : lp a = -1075 + ((mag a / 4503599627370496 : Nat) : Int) := by unfold lp; omega
    refine fin 11 (by omega) (lp a) ?_ (by omega) (by omega)
    unfold pl
    rw [if_neg (by omega)]
    omega

theorem sig_self (a : Nat) (h : a < 18446744073709551616) : sig (neg a) (mag a) = a := by
  unfold sig neg mag
  by_cases hn : 9223372036854775808 ≤ a
  · rw [decide_eq_true hn, if_pos rfl]; omega
  · rw [decide_eq_false hn, if_neg (by decide)]; omega

theorem mk_split (a : Nat) (h : a < 18446744073709551616) (h1 : mag a < 9218868437227405312) (k : Nat) (hk1 : 1 ≤ k) (hk3 : k ≤ 3) (nan : Nat) :
    mk (sN a) (sM a).toNat (sE a) k nan = a := by
  have h1' : ¬ 9218868437227405312 ≤ mag a := by omega
  unfold mk sN sM sE
  rw [if_pos (by omega), if_neg h1', if_neg h1', if_neg h1']
  by_cases h0 : mag a = 0
  · rw [if_pos h0, if_pos h0, if_pos (show (0 : Int).toNat = 0 from rfl)]
    have := sig_self a h
    rw [h0] at this
    exact this
  · rw [if_neg h0, if_neg h0]
    have hm := mant_ne h0
    have hb := mant_bound a
    obtain ⟨m, hmm, hk⟩ := Lib.ctzFrom_spec 64 (mant a) (by omega) (show mant a < 2 ^ 64 by omega)
    have e : Lib.ctz 64 (mant a) = Lib.ctzFrom 64 (mant a) := by simp [Lib.ctz, hm]
    have hx : (2 * m + 1) * 2 ^ Lib.ctz 64 (mant a) = mant a := by rw [e, Nat.mul_comm]; exact hmm.symm
    obtain ⟨_, ex⟩ := odd_one (x := 2 * m + 1) (by omega) hx (show mant a < 2 ^ 64 by omega)
    rw [← ex, Int.toNat_natCast, if_neg (by omega), bod_split h0 h1 _ _ hx, Int.toNat_natCast, sig_self a h]
end Go.Proofs.YtceoeiojoffnnaaGreatDoor.Ie

/- A finite float and nought, added: the float; of noughts +0. -/
namespace Go.Fl64
set_option linter.unusedVariables false
set_option linter.unusedSimpArgs false

theorem cut_whole (s : Bool) (M q : Nat) (L : Nat) : Ieee.Toward.even.cut s (M * 2 ^ q) q = M ∨ ¬ q ≤ (M * 2 ^ q).log2 + 2 := by
  by_cases h : q ≤ (M * 2 ^ q).log2 + 2
  · refine .inl ?_
    have hp := Nat.two_pow_pos q
    unfold Ieee.Toward.cut
    simp only [Nat.min_eq_left h, Nat.one_shiftLeft]
    rw [Nat.mul_div_cancel _ hp, Nat.mul_mod_left]
    have e1 : ¬ 2 ^ q < 2 * 0 := by omega
    have e2 : (2 ^ q == 2 * 0) = false := by simp
    simp [e1, e2]
  · exact .inr h

theorem near_val (s : Bool) (r : Nat) (h0 : r ≠ 0) (h1 : r < 9218868437227405312) : Ieee.double.nearest s (val r) (-1074) = Ieee.double.word s r := by
  have hb : Ieee.double.binade = 4503599627370496 := by decide
  have hi : Ieee.double.infRung = 9218868437227405312 := by decide
  have hl : Ieee.double.leastPlace = -1074 := by decide
  have hf : Ieee.double.fractionBits = 52 := by decide
  have hv : val r ≠ 0 := fun e => h0 ((val_eq_zero r).1 e)
  unfold Ieee.Format.nearest
  rw [if_neg hv]
  simp only [hb, hi, hl, hf]
  by_cases h2 : r < 4503599627370496
  · have ev : val r = r := by unfold val; rw [if_pos h2]
    rw [ev]
    have hlog : r.log2 < 52 := (Nat.log2_lt h0).2 (by omega)
    have el : max (-1074 + (r.log2 : Int) - ((52 : Nat) : Int)) (-1074) = -1074 := by omega
    rw [el]
    have ec := cut_whole s r 0 0
    simp only [Nat.pow_zero, Nat.mul_one] at ec
    rw [show ((-1074 : Int) - -1074).toNat = 0 by decide, Nat.shiftLeft_zero, ec.resolve_right (by omega), Nat.zero_mul, Nat.zero_add, Nat.min_eq_left (by omega)]
  · have ev : val r = (4503599627370496 + r % 4503599627370496) * 2 ^ (r / 4503599627370496 - 1) := by unfold val; rw [if_neg h2]
    have hM1 : 2 ^ 52 ≤ 4503599627370496 + r % 4503599627370496 := by omega
    have hM2 : 4503599627370496 + r % 4503599627370496 < 2 ^ 53 := by omega
    have hr : (r / 4503599627370496 - 1) * 4503599627370496 + (4503599627370496 + r % 4503599627370496) = r := by omega
    rw [ev] at hv ⊢
    generalize 4503599627370496 + r % 4503599627370496 = M at *
    generalize r / 4503599627370496 - 1 = q at *
    have hp := Nat.two_pow_pos q
    have hlog : (M * 2 ^ q).log2 = 52 + q := by
      rw [Nat.log2_eq_iff hv]
      refine ⟨?_, ?_⟩
      · rw [Nat.pow_add]; exact Nat.mul_le_mul_right _ hM1
      · rw [show 52 + q + 1 = 53 + q by omega, Nat.pow_add]; exact Nat.mul_lt_mul_of_pos_right hM2 hp
    rw [hlog]
    have el : max (-1074 + ((52 + q : Nat) : Int) - ((52 : Nat) : Int)) (-1074) = -1074 + (q : Int) := by omega
    rw [el, show ((-1074 : Int) - (-1074 + (q : Int))).toNat = 0 by omega, show (-1074 + (q : Int) - -1074).toNat = q by omega, Nat.shiftLeft_zero]
    have ec := cut_whole s M q 0
    rw [hlog] at ec
    rw [ec.resolve_right (by omega), hr, Nat.min_eq_left (by omega)]

theorem word_self (a : Nat) (h : a < 18446744073709551616) : Ieee.double.word (neg a) (mag a) = a := by
  have hs : Ieee.double.signWeight = 9223372036854775808 := by decide
  unfold Ieee.Format.word neg mag
  rw [hs]
  by_cases hn : 9223372036854775808 ≤ a
  · rw [decide_eq_true hn, if_pos rfl]; omega
  · rw [decide_eq_false hn, if_neg (by decide)]; omega

theorem sgn_neg (s : Bool) (n : Nat) (h : n ≠ 0) : decide (sgn s n < 0) = s ∧ (sgn s n).natAbs = n ∧ sgn s n ≠ 0 := by
  unfold sgn
  cases s <;> simp <;> omega

theorem add_nought (a : Nat) (h : a < 18446744073709551616) (hf : mag a < 9218868437227405312) : FloatKind.f64.format.add a 0 = some (if mag a = 0 then 0 else a) := by
  rw [f64]
  obtain ⟨m, k, e1, e2⟩ := read_number a h hf
  have e0 : Ieee.double.read 0 = .number false 0 (-1074) := by decide
  unfold Ieee.Format.add
  rw [e1, e0]
  have eb : min (-1074 + (k : Int)) (-1074) = -1074 := by omega
  simp only [Ieee.Datum.sum, eb, signed_sgn, Option.map_some]
  rw [show (-1074 + (k : Int) - -1074).toNat = k by omega, e2, Nat.zero_mul, show sgn false 0 = 0 by decide, Int.add_zero]
  congr 1
  by_cases h0 : mag a = 0
  · rw [h0, if_pos rfl, val_zero]
    have : sgn (neg a) 0 = 0 := by unfold sgn; cases neg a <;> rfl
    rw [this]
    simp
    decide
  · rw [if_neg h0]
    have hv : val (mag a) ≠ 0 := fun e => h0 ((val_eq_zero _).1 e)
    obtain ⟨g1, g2, g3⟩ := sgn_neg (neg a) (val (mag a)) hv
    rw [if_neg g3, g1, g2]
    show Ieee.double.nearest (neg a) (val (mag a)) (-1074) = a
    rw [near_val (neg a) (mag a) h0 hf, word_self a h]

theorem run_add_nought {P : Program} (w : World) (t : TypeId) (a : Nat) (h : a < 18446744073709551616) (hf : mag a < 9218868437227405312) :
    (binOp .add t (.float .f64 a) (.float .f64 0)).run P w = .ok (.float .f64 (if mag a = 0 then 0 else a)) w :=
  run_float_arith w .add t .f64 a 0 _ (add_nought a h hf)
end Go.Fl64
