/- What the program's roundBody answers: the bits of m times 2 to the e, rounded inward, to the nearest or outward. -/
import Derived.Test.YtacaidobfildoaaDoorW5
namespace Go.Proofs.YtacaidobfildoaaDoor
set_option linter.unusedVariables false
set_option linter.unusedSimpArgs false
open Go.RowKit Go.Fl64

/-- How many noughts lead m, a number of 64 bits; m moved up by them; the place of the last bit that is kept; the rung, as it comes; and as it is held in bounds. -/
def nz (m : Nat) : Nat := 64 - bitLen m
def tp (m : Nat) : Nat := m * 2 ^ nz m
def pl (m : Nat) (e : Int) : Int := if e - (nz m : Int) + 63 - 52 < -1074 then -1074 else e - (nz m : Int) + 63 - 52
def raw (m : Nat) (e way : Int) : Int := (pl m e + 1074) * 4503599627370496 + (rnd (tp m) (pl m e - (e - (nz m : Int))).toNat way : Int)
def bod (m : Nat) (e way : Int) : Int := if raw m e way < 9218868437227405312 then raw m e way else if way == 0 then 9218868437227405311 else 9218868437227405312

theorem nz_facts (m : Nat) (hm : m < 18446744073709551616) (h0 : m ≠ 0) : nz m ≤ 63 ∧ 9223372036854775808 ≤ tp m ∧ tp m < 18446744073709551616 := by
  obtain ⟨h1, h2⟩ := bitLen_spec m
  have h2 := h2 h0
  have h3 := bitLen_le64 m hm
  have h4 : bitLen m ≠ 0 := by unfold bitLen; rw [if_neg h0]; omega
  have hp : 0 < 2 ^ nz m := Nat.two_pow_pos _
  have e1 : 2 ^ bitLen m * 2 ^ nz m = 18446744073709551616 := by
    rw [← Nat.pow_add, show bitLen m + nz m = 64 by unfold nz; omega]
  have e2 : 2 ^ (bitLen m - 1) * 2 ^ nz m = 9223372036854775808 := by
    rw [← Nat.pow_add, show bitLen m - 1 + nz m = 63 by unfold nz; omega]
  refine ⟨by unfold nz; omega, ?_, ?_⟩
  · rw [← e2]; exact Nat.mul_le_mul_right _ h2
  · rw [← e1]; exact (Nat.mul_lt_mul_right hp).2 h1

theorem rnd_le (M d : Nat) (way : Int) (hM : M < 18446744073709551616) (hd : 11 ≤ d) : rnd M d way ≤ 9007199254740992 := by
  have hp : 2 ^ 11 ≤ 2 ^ d := Nat.pow_le_pow_right (by decide) hd
  have h1 : M / 2 ^ d ≤ M / 2 ^ 11 := Nat.div_le_div_left hp (by decide)
  have h2 : M / 2 ^ 11 < 9007199254740992 := by omega
  unfold rnd
  split <;> omega

theorem drop_ge (m : Nat) (e : Int) : 11 ≤ (pl m e - (e - (nz m : Int))).toNat := by
  unfold pl
  split <;> omega

theorem raw_bounds (m : Nat) (e way : Int) (hm : m < 18446744073709551616) (h0 : m ≠ 0) : (pl m e + 1074) * 4503599627370496 ≤ raw m e way ∧ raw m e way ≤ (pl m e + 1076) * 4503599627370496 ∧ -1074 ≤ pl m e := by
  have h1 := rnd_le (tp m) (pl m e - (e - (nz m : Int))).toNat way (nz_facts m hm h0).2.2 (drop_ge m e)
  unfold raw
  refine ⟨by omega, by omega, ?_⟩
  unfold pl
  split <;> omega

theorem bod_bounds (m : Nat) (e way : Int) (hm : m < 18446744073709551616) (h0 : m ≠ 0) : 0 ≤ bod m e way ∧ bod m e way ≤ 9218868437227405312 := by
  have h1 := raw_bounds m e way hm h0
  unfold bod
  split
  · omega
  · split <;> omega

/-- Beyond the bounds nothing changes. -/
theorem bod_clamp (m : Nat) (e way : Int) (hm : m < 18446744073709551616) (h0 : m ≠ 0) :
    bod m (if 1100 < (if e < -1200 then -1200 else e) then 1100 else (if e < -1200 then -1200 else e)) way = bod m e way := by
  obtain ⟨hz, ht0, ht1⟩ := nz_facts m hm h0
  by_cases h1 : e < -1200
  · rw [if_pos h1, if_neg (by omega)]
    have p1 : pl m (-1200) = -1074 := by unfold pl; rw [if_pos (by omega)]
    have p2 : pl m e = -1074 := by unfold pl; rw [if_pos (by omega)]
    unfold bod raw
    rw [p1, p2, rnd_big _ _ way ht1 (by omega) (by omega), rnd_big _ _ way ht1 (by omega) (by omega)]
  · rw [if_neg h1]
    by_cases h2 : 1100 < e
    · rw [if_pos h2]
      have q1 := (raw_bounds m 1100 way hm h0).1
      have q2 := (raw_bounds m e way hm h0).1
      have p1 : pl m 1100 = 1100 - (nz m : Int) + 63 - 52 := by unfold pl; rw [if_neg (by omega)]
      have p2 : pl m e = e - (nz m : Int) + 63 - 52 := by unfold pl; rw [if_neg (by omega)]
      unfold bod
      rw [if_neg (show ¬ raw m 1100 way < 9218868437227405312 by omega), if_neg (show ¬ raw m e way < 9218868437227405312 by omega)]
    · rw [if_neg h2]

set_option maxHeartbeats 1000000 in
theorem c53x (m e way S Mn e0 E P B : Int) (R : Int → Int) (w : World) (hS0 : 0 ≤ S) (hS1 : S ≤ 63) (hM : IntKind.u64.wrap (m * 2 ^ S.toNat) = Mn)
    (hc1 : (if e < -1200 then -1200 else e) = e0) (hc2 : (if 1100 < e0 then 1100 else e0) = E) (hp : (if E - S + 63 - 52 < -1074 then -1074 else E - S + 63 - 52) = P)
    (hE0 : -1200 ≤ E) (hE1 : E ≤ 1100) (hp0 : -1074 ≤ P) (hp1 : P ≤ 1111)
    (hB : IntKind.u64.wrap ((P + 1074) * 4503599627370496 + R (P - (E - S))) = B)
    (k57 : ∀ w, Calls Tryd.prog 57 #[.int .u64 m] w fun e w' => e = .returned (.int .i64 S) ∧ w' = w)
    (k58 : ∀ w, Calls Tryd.prog 58 #[.int .u64 Mn, .int .i64 (P - (E - S)), .int .i64 way] w fun e w' => e = .returned (.int .u64 (R (P - (E - S)))) ∧ w' = w) :
    Calls Tryd.prog 53 #[.int .u64 m, .int .i64 e, .int .i64 way] w fun e w' => e = .returned (.int .u64 (if B < 9218868437227405312 then B else if way == 0 then 9218868437227405311 else 9218868437227405312)) ∧ w' = w := by
  have kb := run_bits
  by_cases h1 : B < 9218868437227405312
  · rw [if_pos h1]
    go_enter Tryd.func53, Tryd.ntmps53
    go_wp2_with (first | (go_at_call 57; refine (k57 _).mono ?_; rintro e w' ⟨rfl, rfl⟩) | (go_at_call 58; refine (k58 _).mono ?_; rintro e w' ⟨rfl, rfl⟩))
    go_ret
    exact ⟨rfl, rfl⟩
  · rw [if_neg h1]
    cases h2 : (way == 0) with
    | true =>
      simp only [if_true]
      go_enter Tryd.func53, Tryd.ntmps53
      go_wp2_with (first | (go_at_call 57; refine (k57 _).mono ?_; rintro e w' ⟨rfl, rfl⟩) | (go_at_call 58; refine (k58 _).mono ?_; rintro e w' ⟨rfl, rfl⟩))
      go_ret
      exact ⟨rfl, rfl⟩
    | false =>
      simp only [if_false, Bool.false_eq_true]
      go_enter Tryd.func53, Tryd.ntmps53
      go_wp2_with (first | (go_at_call 57; refine (k57 _).mono ?_; rintro e w' ⟨rfl, rfl⟩) | (go_at_call 58; refine (k58 _).mono ?_; rintro e w' ⟨rfl, rfl⟩))
      go_ret
      exact ⟨rfl, rfl⟩

theorem c53 (m : Nat) (e way : Int) (hm : m < 18446744073709551616) (h0 : m ≠ 0) (hw : way = 0 ∨ way = 1 ∨ way = 2) (w : World) :
    Calls Tryd.prog 53 #[.int .u64 m, .int .i64 e, .int .i64 way] w fun r w' => r = .returned (.int .u64 (bod m e way)) ∧ w' = w := by
  rw [← bod_clamp m e way hm h0]
  generalize hE : (if 1100 < (if e < -1200 then -1200 else e) then 1100 else (if e < -1200 then -1200 else e)) = E
  have hE0 : -1200 ≤ E ∧ E ≤ 1100 := by
    rw [← hE]
    by_cases h1 : e < -1200
    · rw [if_pos h1, if_neg (by omega)]; omega
    · rw [if_neg h1]
      by_cases h2 : 1100 < e
      · rw [if_pos h2]; omega
      · rw [if_neg h2]; omega
  obtain ⟨hz, ht0, ht1⟩ := nz_facts m hm h0
  have hb := raw_bounds m E way hm h0
  have hd := drop_ge m E
  have hl := bitLen_le64 m hm
  have k57 := c57 m hm
  have ez : (64 : Int) - (bitLen m : Int) = (nz m : Int) := by unfold nz; omega
  rw [ez] at k57
  have k58 := fun w => c58 (tp m) (pl m E - (E - (nz m : Int))).toNat way ht1 (by omega) (by omega) hw w
  have ed : (((pl m E - (E - (nz m : Int))).toNat : Nat) : Int) = pl m E - (E - (nz m : Int)) := by omega
  rw [ed] at k58
  have hM : IntKind.u64.wrap ((m : Int) * 2 ^ (nz m : Int).toNat) = ((tp m : Nat) : Int) := by
    have e1 : (m : Int) * 2 ^ (nz m : Int).toNat = ((tp m : Nat) : Int) := by
      rw [Int.toNat_natCast]
      unfold tp
      simp
    rw [e1, IntKind.wrap_u64]
    omega
  have hP1 : pl m E ≤ 1111 := by unfold pl; split <;> omega
  have hB : IntKind.u64.wrap ((pl m E + 1074) * 4503599627370496 + (fun D : Int => (rnd (tp m) D.toNat way : Int)) (pl m E - (E - (nz m : Int)))) = raw m E way := by
    show IntKind.u64.wrap (raw m E way) = raw m E way
    rw [IntKind.wrap_u64]
    omega
  exact c53x m e way (nz m) (tp m) _ E (pl m E) (raw m E way) (fun D => (rnd (tp m) D.toNat way : Int)) w (by omega) (by omega) hM rfl hE rfl hE0.1 hE0.2 hb.2.2 hP1 hB k57 k58

end Go.Proofs.YtacaidobfildoaaDoor
