/- Own work: contracts of the program's functions, part A8. -/
import Derived.Test.YtceoeiojoffnnaaGreatDoorA7

/- What the program's rounding answers: a mantissa shifted and rounded, and the bits of m times 2 to the e, rounded. -/
namespace Go.Proofs.YtceoeiojoffnnaaGreatDoor.Ie
set_option linter.unusedVariables false
set_option linter.unusedSimpArgs false
open Go.RowKit Go.Fl64

theorem c58_0 (m d K L F K1 : Int) (o : Bool) (w : World) (h1 : 1 ≤ d) (h2 : d ≤ 64) (hm : 0 ≤ m) (hK : m / 2 ^ d.toNat = K) (hL : IntKind.u64.wrap (m - IntKind.u64.wrap (K * 2 ^ d.toNat)) = L) (hF : IntKind.u64.wrap (2 ^ (d.toNat - 1)) = F) (ho : (bits BinOp.and IntKind.u64 K 1 == 1) = o) (hK1 : IntKind.u64.wrap (K + 1) = K1) :
    Calls Tryz.prog 130 #[.int .u64 m, .int .i64 d, .int .i64 0] w fun e w' => e = .returned (.int .u64 K) ∧ w' = w := by
  go_enter Tryz.func130, Tryz.ntmps130
  go_wp2
  go_ret
  exact ⟨rfl, rfl⟩

theorem c58_1 (m d K L F K1 : Int) (o : Bool) (w : World) (h1 : 1 ≤ d) (h2 : d ≤ 64) (hm : 0 ≤ m) (hK : m / 2 ^ d.toNat = K) (hL : IntKind.u64.wrap (m - IntKind.u64.wrap (K * 2 ^ d.toNat)) = L) (hF : IntKind.u64.wrap (2 ^ (d.toNat - 1)) = F) (ho : (bits BinOp.and IntKind.u64 K 1 == 1) = o) (hK1 : IntKind.u64.wrap (K + 1) = K1) :
    Calls Tryz.prog 130 #[.int .u64 m, .int .i64 d, .int .i64 1] w fun e w' => e = .returned (.int .u64 (if decide (F < L) || ((L == F) && o) then K1 else K)) ∧ w' = w := by
  by_cases h3 : F < L
  · rw [decide_eq_true h3]
    simp only [Bool.true_or, if_true]
    go_enter Tryz.func130, Tryz.ntmps130
    go_wp2
    go_ret
    exact ⟨rfl, rfl⟩
  · rw [decide_eq_false h3]
    cases h4 : (L == F) with
    | true =>
      cases o with
      | true =>
        simp only [Bool.false_or, Bool.true_and, if_true]
        go_enter Tryz.func130, Tryz.ntmps130
        go_wp2
        go_ret
        exact ⟨rfl, rfl⟩
      | false =>
        simp only [Bool.false_or, Bool.true_and, if_false, Bool.false_eq_true]
        go_enter Tryz.func130, Tryz.ntmps130
        go_wp2
        go_ret
        exact ⟨rfl, rfl⟩
    | false =>
      simp only [Bool.false_or, Bool.false_and, if_false, Bool.false_eq_true]
      go_enter Tryz.func130, Tryz.ntmps130
      go_wp2
      go_ret
      exact ⟨rfl, rfl⟩

theorem c58_2 (m d K L F K1 : Int) (o : Bool) (w : World) (h1 : 1 ≤ d) (h2 : d ≤ 64) (hm : 0 ≤ m) (hK : m / 2 ^ d.toNat = K) (hL : IntKind.u64.wrap (m - IntKind.u64.wrap (K * 2 ^ d.toNat)) = L) (hF : IntKind.u64.wrap (2 ^ (d.toNat - 1)) = F) (ho : (bits BinOp.and IntKind.u64 K 1 == 1) = o) (hK1 : IntKind.u64.wrap (K + 1) = K1) :
    Calls Tryz.prog 130 #[.int .u64 m, .int .i64 d, .int .i64 2] w fun e w' => e = .returned (.int .u64 (if (L != 0) then K1 else K)) ∧ w' = w := by
  cases h3 : (L != 0) with
  | true =>
    simp only [if_true]
    go_enter Tryz.func130, Tryz.ntmps130
    go_wp2
    go_ret
    exact ⟨rfl, rfl⟩
  | false =>
    simp only [if_false, Bool.false_eq_true]
    go_enter Tryz.func130, Tryz.ntmps130
    go_wp2
    go_ret
    exact ⟨rfl, rfl⟩

theorem c58_0b (m d : Int) (w : World) (h2 : 64 < d) :
    Calls Tryz.prog 130 #[.int .u64 m, .int .i64 d, .int .i64 0] w fun e w' => e = .returned (.int .u64 0) ∧ w' = w := by
  go_enter Tryz.func130, Tryz.ntmps130
  go_wp2
  go_ret
  exact ⟨rfl, rfl⟩
theorem c58_1b (m d : Int) (w : World) (h2 : 64 < d) :
    Calls Tryz.prog 130 #[.int .u64 m, .int .i64 d, .int .i64 1] w fun e w' => e = .returned (.int .u64 0) ∧ w' = w := by
  go_enter Tryz.func130, Tryz.ntmps130
  go_wp2
  go_ret
  exact ⟨rfl, rfl⟩
theorem c58_2b (m d : Int) (w : World) (h2 : 64 < d) :
    Calls Tryz.prog 130 #[.int .u64 m, .int .i64 d, .int .i64 2] w fun e w' => e = .returned (.int .u64 1) ∧ w' = w := by
  go_enter Tryz.func130, Tryz.ntmps130
  go_wp2
  go_ret
  exact ⟨rfl, rfl⟩

/-- Is M / 2^d rounded up? The ways: 0 inward, 1 to the nearest, 2 outward. -/
def rup (M d : Nat) (way : Int) : Bool :=
  if way = 1 then decide (2 ^ d < 2 * (M % 2 ^ d)) || (decide (2 * (M % 2 ^ d) = 2 ^ d) && decide (M / 2 ^ d % 2 = 1)) else if way = 2 then decide (M % 2 ^ d ≠ 0) else false
/-- M / 2^d, rounded. -/
def rnd (M d : Nat) (way : Int) : Nat := if rup M d way then M / 2 ^ d + 1 else M / 2 ^ d

theorem rnd_big (M d : Nat) (way : Int) (hM : M < 18446744073709551616) (hM0 : M ≠ 0) (hd : 64 < d) : rnd M d way = if way = 2 then 1 else 0 := by
  have hp : 2 ^ 65 ≤ 2 ^ d := Nat.pow_le_pow_right (by decide) hd
  have hp' : 36893488147419103232 ≤ 2 ^ d := hp
  have e1 : M % 2 ^ d = M := Nat.mod_eq_of_lt (by omega)
  have e2 : M / 2 ^ d = 0 := Nat.div_eq_of_lt (by omega)
  unfold rnd rup
  rw [e1, e2]
  by_cases h1 : way = 1
  · subst h1
    simp
    omega
  · rw [if_neg h1]
    by_cases h2 : way = 2
    · subst h2
      simp [hM0]
    · rw [if_neg h2, if_neg h2]
      rfl

theorem c58 (M d : Nat) (way : Int) (hM : M < 18446744073709551616) (hM0 : M ≠ 0) (hd : 1 ≤ d) (hw : way = 0 ∨ way = 1 ∨ way = 2) (w : World) :
    Calls Tryz.prog 130 #[.int .u64 M, .int .i64 d, .int .i64 way] w fun e w' => e = .returned (.int .u64 (rnd M d way)) ∧ w' = w := by
  by_cases hb : 64 < d
  · rw [rnd_big M d way hM hM0 hb]
    rcases hw with rfl | rfl | rfl
    · exact c58_0b M d w (by omega)
    · exact c58_1b M d w (by omega)
    · exact c58_2b M d w (by omega)
  · have hp : 0 < 2 ^ d := Nat.two_pow_pos d
    have hdm : 2 ^ d * (M / 2 ^ d) + M % 2 ^ d = M := Nat.div_add_mod M (2 ^ d)
    have hml : M % 2 ^ d < 2 ^ d := Nat.mod_lt _ hp
    have e1 : 2 ^ d = 2 * 2 ^ (d - 1) := by rw [← Nat.pow_succ', show (d - 1).succ = d by omega]
    have hpb : 2 ^ (d - 1) ≤ 9223372036854775808 := (show 2 ^ (d - 1) ≤ 2 ^ 63 from Nat.pow_le_pow_right (by decide) (by omega))
    have cK : (M : Int) / 2 ^ (d : Int).toNat = ((M / 2 ^ d : Nat) : Int) := by rw [Int.toNat_natCast]; simp
    have cL : IntKind.u64.wrap ((M : Int) - IntKind.u64.wrap (((M / 2 ^ d : Nat) : Int) * 2 ^ (d : Int).toNat)) = ((M % 2 ^ d : Nat) : Int) := by
      have e2 : ((M / 2 ^ d : Nat) : Int) * 2 ^ (d : Int).toNat = ((2 ^ d * (M / 2 ^ d) : Nat) : Int) := by
        rw [Int.toNat_natCast, Int.natCast_mul, Int.mul_comm]
        simp
      rw [e2, IntKind.wrap_u64, IntKind.wrap_u64]
      omega
    have cF : IntKind.u64.wrap (2 ^ ((d : Int).toNat - 1)) = ((2 ^ (d - 1) : Nat) : Int) := by
      have e2 : (2 : Int) ^ ((d : Int).toNat - 1) = ((2 ^ (d - 1) : Nat) : Int) := by rw [Int.toNat_natCast]; simp
      rw [e2, IntKind.wrap_u64]
      omega
    have hkb : M / 2 ^ d ≤ 9223372036854775808 := by
      have : M / 2 ^ d ≤ M / 2 := Nat.div_le_div_left (by omega) (by decide)
      omega
    have co : (bits BinOp.and IntKind.u64 ((M / 2 ^ d : Nat) : Int) 1 == 1) = decide (M / 2 ^ d % 2 = 1) := by
      have e := u64_and_nat (M / 2 ^ d) 1 (by omega) (by decide)
      rw [show ((1 : Nat) : Int) = 1 from rfl] at e
      rw [e, Nat.and_one_is_mod, Bool.beq_eq_decide_eq]
      congr 1
      apply propext
      omega
    have cK1 : IntKind.u64.wrap (((M / 2 ^ d : Nat) : Int) + 1) = ((M / 2 ^ d + 1 : Nat) : Int) := by
      clear cL cF cK co hdm hml
      generalize M / 2 ^ d = q at hkb ⊢
      rw [IntKind.wrap_u64]
      omega
    rcases hw with rfl | rfl | rfl
    · have := c58_0 M d _ _ _ _ _ w (by omega) (by omega) (by omega) cK cL cF co cK1
      exact this
    · have := c58_1 M d _ _ _ _ _ w (by omega) (by omega) (by omega) cK cL cF co cK1
      have e3 : (if decide (((2 ^ (d - 1) : Nat) : Int) < ((M % 2 ^ d : Nat) : Int)) || ((((M % 2 ^ d : Nat) : Int) == ((2 ^ (d - 1) : Nat) : Int)) && decide (M / 2 ^ d % 2 = 1)) then ((M / 2 ^ d + 1 : Nat) : Int) else ((M / 2 ^ d : Nat) : Int)) = (rnd M d 1 : Int) := by
        unfold rnd rup
        rw [if_pos rfl]
        have e4 : decide (((2 ^ (d - 1) : Nat) : Int) < ((M % 2 ^ d : Nat) : Int)) = decide (2 ^ d < 2 * (M % 2 ^ d)) := by
          congr 1; apply propext; omega
        have e5 : (((M % 2 ^ d : Nat) : Int) == ((2 ^ (d - 1) : Nat) : Int)) = decide (2 * (M % 2 ^ d) = 2 ^ d) := by
          rw [Bool.beq_eq_decide_eq]; congr 1; apply propext; omega
        rw [e4, e5]
        split <;> rfl
      rw [e3] at this
      exact this
    · have := c58_2 M d _ _ _ _ _ w (by omega) (by omega) (by omega) cK cL cF co cK1
      have e3 : (if ((((M % 2 ^ d : Nat) : Int)) != 0) then ((M / 2 ^ d + 1 : Nat) : Int) else ((M / 2 ^ d : Nat) : Int)) = (rnd M d 2 : Int) := by
        unfold rnd rup
        rw [if_neg (show ¬ (2 : Int) = 1 by decide), if_pos (show (2 : Int) = 2 from rfl)]
        have e4 : ((((M % 2 ^ d : Nat) : Int)) != 0) = decide (M % 2 ^ d ≠ 0) := by
          rw [bne, Bool.beq_eq_decide_eq, ← decide_not]; congr 1; apply propext; omega
        rw [e4]
        split <;> rfl
      rw [e3] at this
      exact this

end Go.Proofs.YtceoeiojoffnnaaGreatDoor.Ie

/- What the program's roundBody answers: the bits of m times 2 to the e, rounded inward, to the nearest or outward. -/
namespace Go.Proofs.YtceoeiojoffnnaaGreatDoor.Ie
set_option linter.unusedVariables false
set_option linter.unusedSimpArgs false
open Go.RowKit Go.Fl64

/-- How many noughts lead m, a number of 64 bits; m moved up by them; the place of the last bit that is kept; the rung, as it comes; and as it is held in bounds. -/
def nz (m : Nat) : Nat := 64 - bitLen m
def tp (m : Nat) : Nat := m * 2 ^ nz m
def pl (m : Nat) (e : Int) : Int := if e - (nz m : Int) + 63 - 52 < -1074 then -1074 else e - (nz m : Int) + 63 - 52
def raw (m : Nat) (e way : Int) : Int := (pl m e + 1074) * 4503599627370496 + (rnd (tp m) (pl m e - (e - (nz m : Int))).toNat way : Int)
def bod (m : Nat) (e way : Int) : Int := if raw m e way < 9218868437227405312 then raw m e way else if way == 0 then 9218868437227405311 else 9218868437227405312

theorem nz_facts (m : Nat) (hm : m < 18446744073709551616) (h0 : m ≠ 0) : nz m ≤ 63 ∧ 9223372036854775808 ≤ tp m ∧ tp m < 18446744073709551616 := by
  obtain ⟨h1, h2⟩ := bitLen_spec m
  have h2 := h2 h0
  have h3 := bitLen_le64 m hm
  have h4 : bitLen m ≠ 0 := by unfold bitLen; rw [if_neg h0]; omega
  have hp : 0 < 2 ^ nz m := Nat.two_pow_pos _
  have e1 : 2 ^ bitLen m * 2 ^ nz m = 18446744073709551616 := by
    rw [← Nat.pow_add, show bitLen m + nz m = 64 by unfold nz; omega]
  have e2 : 2 ^ (bitLen m - 1) * 2 ^ nz m = 9223372036854775808 := by
    rw [← Nat.pow_add, show bitLen m - 1 + nz m = 63 by unfold nz; omega]
  refine ⟨by unfold nz; omega, ?_, ?_⟩
  · rw [← e2]; exact Nat.mul_le_mul_right _ h2
  · rw [← e1]; exact (Nat.mul_lt_mul_right hp).2 h1

theorem rnd_le (M d : Nat) (way : Int) (hM : M < 18446744073709551616) (hd : 11 ≤ d) : rnd M d way ≤ 9007199254740992 := by
  have hp : 2 ^ 11 ≤ 2 ^ d := Nat.pow_le_pow_right (by decide) hd
  have h1 : M / 2 ^ d ≤ M / 2 ^ 11 := Nat.div_le_div_left hp (by decide)
  have h2 : M / 2 ^ 11 < 9007199254740992 := by omega
  unfold rnd
  split <;> omega

theorem drop_ge (m : Nat) (e : Int) : 11 ≤ (pl m e - (e - (nz m : Int))).toNat := by
  unfold pl
  split <;> omega

theorem raw_bounds (m : Nat) (e way : Int) (hm : m < 18446744073709551616) (h0 : m ≠ 0) : (pl m e + 1074) * 4503599627370496 ≤ raw m e way ∧ raw m e way ≤ (pl m e + 1076) * 4503599627370496 ∧ -1074 ≤ pl m e := by
  have h1 := rnd_le (tp m) (pl m e - (e - (nz m : Int))).toNat way (nz_facts m hm h0).2.2 (drop_ge m e)
  unfold raw
  refine ⟨by omega, by omega, ?_⟩
  unfold pl
  split <;> omega

theorem bod_bounds (m : Nat) (e way : Int) (hm : m < 18446744073709551616) (h0 : m ≠ 0) : 0 ≤ bod m e way ∧ bod m e way ≤ 9218868437227405312 := by
  have h1 := raw_bounds m e way hm h0
  unfold bod
  split
  · omega
  · split <;> omega

/-- Beyond the bounds nothing changes. -/
theorem bod_clamp (m : Nat) (e way : Int) (hm : m < 18446744073709551616) (h0 : m ≠ 0) :
    bod m (if 1100 < (if e < -1200 then -1200 else e) then 1100 else (if e < -1200 then -1200 else e)) way = bod m e way := by
  obtain ⟨hz, ht0, ht1⟩ := nz_facts m hm h0
  by_cases h1 : e < -1200
  · rw [if_pos h1, if_neg (by omega)]
    have p1 : pl m (-1200) = -1074 := by unfold pl; rw [if_pos (by omega)]
    have p2 : pl m e = -1074 := by unfold pl; rw [if_pos (by omega)]
    unfold bod raw
    rw [p1, p2, rnd_big _ _ way ht1 (by omega) (by omega), rnd_big _ _ way ht1 (by omega) (by omega)]
  · rw [if_neg h1]
    by_cases h2 : 1100 < e
    · rw [if_pos h2]
      have q1 := (raw_bounds m 1100 way hm h0).1
      have q2 := (raw_bounds m e way hm h0).1
      have p1 : pl m 1100 = 1100 - (nz m : Int) + 63 - 52 := by unfold pl; rw [if_neg (by omega)]
      have p2 : pl m e = e - (nz m : Int) + 63 - 52 := by unfold pl; rw [if_neg (by omega)]
      unfold bod
      rw [if_neg (show ¬ raw m 1100 way < 9218868437227405312 by omega), if_neg (show ¬ raw m e way < 9218868437227405312 by omega)]
    · rw [if_neg h2]

set_option maxHeartbeats 1000000 in
theorem c53x (m e way S Mn e0 E P B : Int) (R : Int → Int) (w : World) (hS0 : 0 ≤ S) (hS1 : S ≤ 63) (hM : IntKind.u64.wrap (m * 2 ^ S.toNat) = Mn)
    (hc1 : (if e < -1200 then -1200 else e) = e0) (hc2 : (if 1100 < e0 then 1100 else e0) = E) (hp : (if E - S + 63 - 52 < -1074 then -1074 else E - S + 63 - 52) = P)
    (hE0 : -1200 ≤ E) (hE1 : E ≤ 1100) (hp0 : -1074 ≤ P) (hp1 : P ≤ 1111)
    (hB : IntKind.u64.wrap ((P + 1074) * 4503599627370496 + R (P - (E - S))) = B)
    (k57 : ∀ w, Calls Tryz.prog 129 #[.int .u64 m] w fun e w' => e = .returned (.int .i64 S) ∧ w' = w)
    (k58 : ∀ w, Calls Tryz.prog 130 #[.int .u64 Mn, .int .i64 (P - (E - S)), .int .i64 way] w fun e w' => e = .returned (.int .u64 (R (P - (E - S)))) ∧ w' = w) :
    Calls Tryz.prog 121 #[.int .u64 m, .int .i64 e, .int .i64 way] w fun e w' => e = .returned (.int .u64 (if B < 9218868437227405312 then B else if way == 0 then 9218868437227405311 else 9218868437227405312)) ∧ w' = w := by
  have kb := run_bits
  by_cases h1 : B < 9218868437227405312
  · rw [if_pos h1]
    go_enter Tryz.func121, Tryz.ntmps121
    go_wp2_with (first | (go_at_call 129; refine (k57 _).mono ?_; rintro e w' ⟨rfl, rfl⟩) | (go_at_call 130; refine (k58 _).mono ?_; rintro e w' ⟨rfl, rfl⟩))
    go_ret
    exact ⟨rfl, rfl⟩
  · rw [if_neg h1]
    cases h2 : (way == 0) with
    | true =>
      simp only [if_true]
      go_enter Tryz.func121, Tryz.ntmps121
      go_wp2_with (first | (go_at_call 129; refine (k57 _).mono ?_; rintro e w' ⟨rfl, rfl⟩) | (go_at_call 130; refine (k58 _).mono ?_; rintro e w' ⟨rfl, rfl⟩))
      go_ret
      exact ⟨rfl, rfl⟩
    | false =>
      simp only [if_false, Bool.false_eq_true]
      go_enter Tryz.func121, Tryz.ntmps121
      go_wp2_with (first | (go_at_call 129; refine (k57 _).mono ?_; rintro e w' ⟨rfl, rfl⟩) | (go_at_call 130; refine (k58 _).mono ?_; rintro e w' ⟨rfl, rfl⟩))
      go_ret
      exact ⟨rfl, rfl⟩

theorem c53 (m : Nat) (e way : Int) (hm : m < 18446744073709551616) (h0 : m ≠ 0) (hw : way = 0 ∨ way = 1 ∨ way = 2) (w : World) :
    Calls Tryz.prog 121 #[.int .u64 m, .int .i64 e, .int .i64 way] w fun r w' => r = .returned (.int .u64 (bod m e way)) ∧ w' = w := by
  rw [← bod_clamp m e way hm h0]
  generalize hE : (if 1100 < (if e < -1200 then -1200 else e) then 1100 else (if e < -1200 then -1200 else e)) = E
  have hE0 : -1200 ≤ E ∧ E ≤ 1100 := by
    rw [← hE]
    by_cases h1 : e < -1200
    · rw [if_pos h1, if_neg (by omega)]; omega
    · rw [if_neg h1]
      by_cases h2 : 1100 < e
      · rw [if_pos h2]; omega
      · rw [if_neg h2]; omega
  obtain ⟨hz, ht0, ht1⟩ := nz_facts m hm h0
  have hb := raw_bounds m E way hm h0
  have hd := drop_ge m E
  have hl := bitLen_le64 m hm
  have k57 := c57 m hm
  have ez : (64 : Int) - (bitLen m : Int) = (nz m : Int) := by unfold nz; omega
  rw [ez] at k57
  have k58 := fun w => c58 (tp m) (pl m E - (E - (nz m : Int))).toNat way ht1 (by omega) (by omega) hw w
  have ed : (((pl m E - (E - (nz m : Int))).toNat : Nat) : Int) = pl m E - (E - (nz m : Int)) := by omega
  rw [ed] at k58
  have hM : IntKind.u64.wrap ((m : Int) * 2 ^ (nz m : Int).toNat) = ((tp m : Nat) : Int) := by
    have e1 : (m : Int) * 2 ^ (nz m : Int).toNat = ((tp m : Nat) : Int) := by
      rw [Int.toNat_natCast]
      unfold tp
      simp
    rw [e1, IntKind.wrap_u64]
    omega
  have hP1 : pl m E ≤ 1111 := by unfold pl; split <;> omega
  have hB : IntKind.u64.wrap ((pl m E + 1074) * 4503599627370496 + (fun D : Int => (rnd (tp m) D.toNat way : Int)) (pl m E - (E - (nz m : Int)))) = raw m E way := by
    show IntKind.u64.wrap (raw m E way) = raw m E way
    rw [IntKind.wrap_u64]
    omega
  exact c53x m e way (nz m) (tp m) _ E (pl m E) (raw m E way) (fun D => (rnd (tp m) D.toNat way : Int)) w (by omega) (by omega) hM rfl hE rfl hE0.1 hE0.2 hb.2.2 hP1 hB k57 k58

end Go.Proofs.YtceoeiojoffnnaaGreatDoor.Ie

/- What the program's Make answers: the float of m times 2 to the e, rounded by the mode. -/
namespace Go.Proofs.YtceoeiojoffnnaaGreatDoor.Ie
set_option linter.unusedVariables false
set_option linter.unusedSimpArgs false
open Go.RowKit Go.Fl64

/-- The way of a mode, once the sign is known; the float that is made ('nan': of a mode that is none). -/
def wy (neg : Bool) (mode : Int) : Int := if mode = 2 then 1 else if (neg == (mode == 1)) then 2 else 0
def mk (neg : Bool) (m : Nat) (e mode : Int) (nan : Nat) : Nat := if mode = 1 ∨ mode = 2 ∨ mode = 3 then sig neg (if m = 0 then 0 else (bod m e (wy neg mode)).toNat) else nan

theorem c52 (w : World) : Calls Tryz.prog 120 #[] w fun e w' => e = .returned (.float .f64 9221120237041090561) ∧ w' = w := by
  have kf := run_frombits
  go_enter Tryz.func120, Tryz.ntmps120
  go_wp2
  go_ret
  exact ⟨rfl, rfl⟩

theorem c24_2true (m e B C : Int) (w : World) (hm : (m != 0) = true)
    (k53 : ∀ w, Calls Tryz.prog 121 #[.int .u64 m, .int .i64 e, .int .i64 1] w fun r w' => r = .returned (.int .u64 B) ∧ w' = w) (hor : bits .or .u64 B 9223372036854775808 = C) :
    Calls Tryz.prog 102 #[.bool true, .int .u64 m, .int .i64 e, .int .i64 2] w fun r w' => r = .returned (.float .f64 C.toNat) ∧ w' = w := by
  have kf := run_frombits
  go_enter Tryz.func102, Tryz.ntmps102
  go_wp2_with (first | (go_at_call 121; refine (k53 _).mono ?_; rintro e w' ⟨rfl, rfl⟩))
  go_ret
  exact ⟨rfl, rfl⟩
theorem c24_2truez (e C : Int) (w : World) (hor : bits .or .u64 0 9223372036854775808 = C) :
    Calls Tryz.prog 102 #[.bool true, .int .u64 0, .int .i64 e, .int .i64 2] w fun r w' => r = .returned (.float .f64 C.toNat) ∧ w' = w := by
  have kf := run_frombits
  go_enter Tryz.func102, Tryz.ntmps102
  go_wp2
  go_ret
  exact ⟨rfl, rfl⟩

theorem c24_2false (m e B C : Int) (w : World) (hm : (m != 0) = true)
    (k53 : ∀ w, Calls Tryz.prog 121 #[.int .u64 m, .int .i64 e, .int .i64 1] w fun r w' => r = .returned (.int .u64 B) ∧ w' = w) (hor : bits .or .u64 B 9223372036854775808 = C) :
    Calls Tryz.prog 102 #[.bool false, .int .u64 m, .int .i64 e, .int .i64 2] w fun r w' => r = .returned (.float .f64 B.toNat) ∧ w' = w := by
  have kf := run_frombits
  go_enter Tryz.func102, Tryz.ntmps102
  go_wp2_with (first | (go_at_call 121; refine (k53 _).mono ?_; rintro e w' ⟨rfl, rfl⟩))
  go_ret
  exact ⟨rfl, rfl⟩
theorem c24_2falsez (e C : Int) (w : World) (hor : bits .or .u64 0 9223372036854775808 = C) :
    Calls Tryz.prog 102 #[.bool false, .int .u64 0, .int .i64 e, .int .i64 2] w fun r w' => r = .returned (.float .f64 0) ∧ w' = w := by
  have kf := run_frombits
  go_enter Tryz.func102, Tryz.ntmps102
  go_wp2
  go_ret
  exact ⟨rfl, rfl⟩

theorem c24_1true (m e B C : Int) (w : World) (hm : (m != 0) = true)
    (k53 : ∀ w, Calls Tryz.prog 121 #[.int .u64 m, .int .i64 e, .int .i64 2] w fun r w' => r = .returned (.int .u64 B) ∧ w' = w) (hor : bits .or .u64 B 9223372036854775808 = C) :
    Calls Tryz.prog 102 #[.bool true, .int .u64 m, .int .i64 e, .int .i64 1] w fun r w' => r = .returned (.float .f64 C.toNat) ∧ w' = w := by
  have kf := run_frombits
  go_enter Tryz.func102, Tryz.ntmps102
  go_wp2_with (first | (go_at_call 121; refine (k53 _).mono ?_; rintro e w' ⟨rfl, rfl⟩))
  go_ret
  exact ⟨rfl, rfl⟩
theorem c24_1truez (e C : Int) (w : World) (hor : bits .or .u64 0 9223372036854775808 = C) :
    Calls Tryz.prog 102 #[.bool true, .int .u64 0, .int .i64 e, .int .i64 1] w fun r w' => r = .returned (.float .f64 C.toNat) ∧ w' = w := by
  have kf := run_frombits
  go_enter Tryz.func102, Tryz.ntmps102
  go_wp2
  go_ret
  exact ⟨rfl, rfl⟩

theorem c24_3false (m e B C : Int) (w : World) (hm : (m != 0) = true)
    (k53 : ∀ w, Calls Tryz.prog 121 #[.int .u64 m, .int .i64 e, .int .i64 2] w fun r w' => r = .returned (.int .u64 B) ∧ w' = w) (hor : bits .or .u64 B 9223372036854775808 = C) :
    Calls Tryz.prog 102 #[.bool false, .int .u64 m, .int .i64 e, .int .i64 3] w fun r w' => r = .returned (.float .f64 B.toNat) ∧ w' = w := by
  have kf := run_frombits
  go_enter Tryz.func102, Tryz.ntmps102
  go_wp2_with (first | (go_at_call 121; refine (k53 _).mono ?_; rintro e w' ⟨rfl, rfl⟩))
  go_ret
  exact ⟨rfl, rfl⟩
theorem c24_3falsez (e C : Int) (w : World) (hor : bits .or .u64 0 9223372036854775808 = C) :
    Calls Tryz.prog 102 #[.bool false, .int .u64 0, .int .i64 e, .int .i64 3] w fun r w' => r = .returned (.float .f64 0) ∧ w' = w := by
  have kf := run_frombits
  go_enter Tryz.func102, Tryz.ntmps102
  go_wp2
  go_ret
  exact ⟨rfl, rfl⟩

theorem c24_1false (m e B C : Int) (w : World) (hm : (m != 0) = true)
    (k53 : ∀ w, Calls Tryz.prog 121 #[.int .u64 m, .int .i64 e, .int .i64 0] w fun r w' => r = .returned (.int .u64 B) ∧ w' = w) (hor : bits .or .u64 B 9223372036854775808 = C) :
    Calls Tryz.prog 102 #[.bool false, .int .u64 m, .int .i64 e, .int .i64 1] w fun r w' => r = .returned (.float .f64 B.toNat) ∧ w' = w := by
  have kf := run_frombits
  go_enter Tryz.func102, Tryz.ntmps102
  go_wp2_with (first | (go_at_call 121; refine (k53 _).mono ?_; rintro e w' ⟨rfl, rfl⟩))
  go_ret
  exact ⟨rfl, rfl⟩
theorem c24_1falsez (e C : Int) (w : World) (hor : bits .or .u64 0 9223372036854775808 = C) :
    Calls Tryz.prog 102 #[.bool false, .int .u64 0, .int .i64 e, .int .i64 1] w fun r w' => r = .returned (.float .f64 0) ∧ w' = w := by
  have kf := run_frombits
  go_enter Tryz.func102, Tryz.ntmps102
  go_wp2
  go_ret
  exact ⟨rfl, rfl⟩

theorem c24_3true (m e B C : Int) (w : World) (hm : (m != 0) = true)
    (k53 : ∀ w, Calls Tryz.prog 121 #[.int .u64 m, .int .i64 e, .int .i64 0] w fun r w' => r = .returned (.int .u64 B) ∧ w' = w) (hor : bits .or .u64 B 9223372036854775808 = C) :
    Calls Tryz.prog 102 #[.bool true, .int .u64 m, .int .i64 e, .int .i64 3] w fun r w' => r = .returned (.float .f64 C.toNat) ∧ w' = w := by
  have kf := run_frombits
  go_enter Tryz.func102, Tryz.ntmps102
  go_wp2_with (first | (go_at_call 121; refine (k53 _).mono ?_; rintro e w' ⟨rfl, rfl⟩))
  go_ret
  exact ⟨rfl, rfl⟩
theorem c24_3truez (e C : Int) (w : World) (hor : bits .or .u64 0 9223372036854775808 = C) :
    Calls Tryz.prog 102 #[.bool true, .int .u64 0, .int .i64 e, .int .i64 3] w fun r w' => r = .returned (.float .f64 C.toNat) ∧ w' = w := by
  have kf := run_frombits
  go_enter Tryz.func102, Tryz.ntmps102
  go_wp2
  go_ret
  exact ⟨rfl, rfl⟩

theorem c24_none (neg : Bool) (m e mode : Int) (w : World) (h1 : (mode == 1) = false) (h2 : (mode == 2) = false) (h3 : (mode == 3) = false) :
    Calls Tryz.prog 102 #[.bool neg, .int .u64 m, .int .i64 e, .int .i64 mode] w fun r w' => r = .returned (.float .f64 9221120237041090561) ∧ w' = w := by
  go_enter Tryz.func102, Tryz.ntmps102
  go_wp2_with (first | (go_at_call 120; refine (c52 _).mono ?_; rintro e w' ⟨rfl, rfl⟩))
  go_ret
  exact ⟨rfl, rfl⟩

theorem c24 (neg : Bool) (m : Nat) (e mode : Int) (hm : m < 18446744073709551616) (w : World) :
    Calls Tryz.prog 102 #[.bool neg, .int .u64 m, .int .i64 e, .int .i64 mode] w fun r w' => r = .returned (.float .f64 (mk neg m e mode 9221120237041090561)) ∧ w' = w := by
  have hz : bits .or .u64 0 9223372036854775808 = 9223372036854775808 := by decide +kernel
  by_cases hmode : mode = 1 ∨ mode = 2 ∨ mode = 3
  · unfold mk
    rw [if_pos hmode]
    by_cases h0 : m = 0
    · subst h0
      rw [if_pos rfl]
      rcases hmode with rfl | rfl | rfl <;> cases neg
      · exact c24_1falsez e _ w hz
      · exact c24_1truez e _ w hz
      · exact c24_2falsez e _ w hz
      · exact c24_2truez e _ w hz
      · exact c24_3falsez e _ w hz
      · exact c24_3truez e _ w hz
    · rw [if_neg h0]
      have hb : ((m : Int) != 0) = true := by simp; omega
      have hor : ∀ way, bits .or .u64 (bod m e way) 9223372036854775808 = (((bod m e way).toNat + 9223372036854775808 : Nat) : Int) := by
        intro way
        have h1 := bod_bounds m e way hm h0
        have h2 := or_sign (bod m e way).toNat (by omega)
        rw [show (((bod m e way).toNat : Nat) : Int) = bod m e way by omega] at h2
        exact h2
      rcases hmode with rfl | rfl | rfl <;> cases neg
      · exact c24_1false m e _ _ w hb (fun w => c53 m e 0 hm h0 (by simp) w) (hor 0)
      · exact c24_1true m e _ _ w hb (fun w => c53 m e 2 hm h0 (by simp) w) (hor 2)
      · exact c24_2false m e _ _ w hb (fun w => c53 m e 1 hm h0 (by simp) w) (hor 1)
      · exact c24_2true m e _ _ w hb (fun w => c53 m e 1 hm h0 (by simp) w) (hor 1)
      · exact c24_3false m e _ _ w hb (fun w => c53 m e 2 hm h0 (by simp) w) (hor 2)
      · exact c24_3true m e _ _ w hb (fun w => c53 m e 0 hm h0 (by simp) w) (hor 0)
  · unfold mk
    rw [if_neg hmode]
    exact c24_none neg m e mode w (by simp; omega) (by simp; omega) (by simp; omega)

end Go.Proofs.YtceoeiojoffnnaaGreatDoor.Ie
