/- What the program's rounding answers: a mantissa shifted and rounded, and the bits of m times 2 to the e, rounded. -/
import Derived.Test.YtacaidobfildoaaDoorW3
namespace Go.Proofs.YtacaidobfildoaaDoor
set_option linter.unusedVariables false
set_option linter.unusedSimpArgs false
open Go.RowKit Go.Fl64

theorem c58_0 (m d K L F K1 : Int) (o : Bool) (w : World) (h1 : 1 ≤ d) (h2 : d ≤ 64) (hm : 0 ≤ m) (hK : m / 2 ^ d.toNat = K) (hL : IntKind.u64.wrap (m - IntKind.u64.wrap (K * 2 ^ d.toNat)) = L) (hF : IntKind.u64.wrap (2 ^ (d.toNat - 1)) = F) (ho : (bits BinOp.and IntKind.u64 K 1 == 1) = o) (hK1 : IntKind.u64.wrap (K + 1) = K1) :
    Calls Tryd.prog 58 #[.int .u64 m, .int .i64 d, .int .i64 0] w fun e w' => e = .returned (.int .u64 K) ∧ w' = w := by
  go_enter Tryd.func58, Tryd.ntmps58
  go_wp2
  go_ret
  exact ⟨rfl, rfl⟩

theorem c58_1 (m d K L F K1 : Int) (o : Bool) (w : World) (h1 : 1 ≤ d) (h2 : d ≤ 64) (hm : 0 ≤ m) (hK : m / 2 ^ d.toNat = K) (hL : IntKind.u64.wrap (m - IntKind.u64.wrap (K * 2 ^ d.toNat)) = L) (hF : IntKind.u64.wrap (2 ^ (d.toNat - 1)) = F) (ho : (bits BinOp.and IntKind.u64 K 1 == 1) = o) (hK1 : IntKind.u64.wrap (K + 1) = K1) :
    Calls Tryd.prog 58 #[.int .u64 m, .int .i64 d, .int .i64 1] w fun e w' => e = .returned (.int .u64 (if decide (F < L) || ((L == F) && o) then K1 else K)) ∧ w' = w := by
  by_cases h3 : F < L
  · rw [decide_eq_true h3]
    simp only [Bool.true_or, if_true]
    go_enter Tryd.func58, Tryd.ntmps58
    go_wp2
    go_ret
    exact ⟨rfl, rfl⟩
  · rw [decide_eq_false h3]
    cases h4 : (L == F) with
    | true =>
      cases o with
      | true =>
        simp only [Bool.false_or, Bool.true_and, if_true]
        go_enter Tryd.func58, Tryd.ntmps58
        go_wp2
        go_ret
        exact ⟨rfl, rfl⟩
      | false =>
        simp only [Bool.false_or, Bool.true_and, if_false, Bool.false_eq_true]
        go_enter Tryd.func58, Tryd.ntmps58
        go_wp2
        go_ret
        exact ⟨rfl, rfl⟩
    | false =>
      simp only [Bool.false_or, Bool.false_and, if_false, Bool.false_eq_true]
      go_enter Tryd.func58, Tryd.ntmps58
      go_wp2
      go_ret
      exact ⟨rfl, rfl⟩

theorem c58_2 (m d K L F K1 : Int) (o : Bool) (w : World) (h1 : 1 ≤ d) (h2 : d ≤ 64) (hm : 0 ≤ m) (hK : m / 2 ^ d.toNat = K) (hL : IntKind.u64.wrap (m - IntKind.u64.wrap (K * 2 ^ d.toNat)) = L) (hF : IntKind.u64.wrap (2 ^ (d.toNat - 1)) = F) (ho : (bits BinOp.and IntKind.u64 K 1 == 1) = o) (hK1 : IntKind.u64.wrap (K + 1) = K1) :
    Calls Tryd.prog 58 #[.int .u64 m, .int .i64 d, .int .i64 2] w fun e w' => e = .returned (.int .u64 (if (L != 0) then K1 else K)) ∧ w' = w := by
  cases h3 : (L != 0) with
  | true =>
    simp only [if_true]
    go_enter Tryd.func58, Tryd.ntmps58
    go_wp2
    go_ret
    exact ⟨rfl, rfl⟩
  | false =>
    simp only [if_false, Bool.false_eq_true]
    go_enter Tryd.func58, Tryd.ntmps58
    go_wp2
    go_ret
    exact ⟨rfl, rfl⟩

theorem c58_0b (m d : Int) (w : World) (h2 : 64 < d) :
    Calls Tryd.prog 58 #[.int .u64 m, .int .i64 d, .int .i64 0] w fun e w' => e = .returned (.int .u64 0) ∧ w' = w := by
  go_enter Tryd.func58, Tryd.ntmps58
  go_wp2
  go_ret
  exact ⟨rfl, rfl⟩
theorem c58_1b (m d : Int) (w : World) (h2 : 64 < d) :
    Calls Tryd.prog 58 #[.int .u64 m, .int .i64 d, .int .i64 1] w fun e w' => e = .returned (.int .u64 0) ∧ w' = w := by
  go_enter Tryd.func58, Tryd.ntmps58
  go_wp2
  go_ret
  exact ⟨rfl, rfl⟩
theorem c58_2b (m d : Int) (w : World) (h2 : 64 < d) :
    Calls Tryd.prog 58 #[.int .u64 m, .int .i64 d, .int .i64 2] w fun e w' => e = .returned (.int .u64 1) ∧ w' = w := by
  go_enter Tryd.func58, Tryd.ntmps58
  go_wp2
  go_ret
  exact ⟨rfl, rfl⟩

/-- Is M / 2^d rounded up? The ways: 0 inward, 1 to the nearest, 2 outward. -/
def rup (M d : Nat) (way : Int) : Bool :=
  if way = 1 then decide (2 ^ d < 2 * (M % 2 ^ d)) || (decide (2 * (M % 2 ^ d) = 2 ^ d) && decide (M / 2 ^ d % 2 = 1)) else if way = 2 then decide (M % 2 ^ d ≠ 0) else false
/-- M / 2^d, rounded. -/
def rnd (M d : Nat) (way : Int) : Nat := if rup M d way then M / 2 ^ d + 1 else M / 2 ^ d

theorem rnd_big (M d : Nat) (way : Int) (hM : M < 18446744073709551616) (hM0 : M ≠ 0) (hd : 64 < d) : rnd M d way = if way = 2 then 1 else 0 := by
  have hp : 2 ^ 65 ≤ 2 ^ d := Nat.pow_le_pow_right (by decide) hd
  have hp' : 36893488147419103232 ≤ 2 ^ d := hp
  have e1 : M % 2 ^ d = M := Nat.mod_eq_of_lt (by omega)
  have e2 : M / 2 ^ d = 0 := Nat.div_eq_of_lt (by omega)
  unfold rnd rup
  rw [e1, e2]
  by_cases h1 : way = 1
  · subst h1
    simp
    omega
  · rw [if_neg h1]
    by_cases h2 : way = 2
    · subst h2
      simp [hM0]
    · rw [if_neg h2, if_neg h2]
      rfl

theorem c58 (M d : Nat) (way : Int) (hM : M < 18446744073709551616) (hM0 : M ≠ 0) (hd : 1 ≤ d) (hw : way = 0 ∨ way = 1 ∨ way = 2) (w : World) :
    Calls Tryd.prog 58 #[.int .u64 M, .int .i64 d, .int .i64 way] w fun e w' => e = .returned (.int .u64 (rnd M d way)) ∧ w' = w := by
  by_cases hb : 64 < d
  · rw [rnd_big M d way hM hM0 hb]
    rcases hw with rfl | rfl | rfl
    · exact c58_0b M d w (by omega)
    · exact c58_1b M d w (by omega)
    · exact c58_2b M d w (by omega)
  · have hp : 0 < 2 ^ d := Nat.two_pow_pos d
    have hdm : 2 ^ d * (M / 2 ^ d) + M % 2 ^ d = M := Nat.div_add_mod M (2 ^ d)
    have hml : M % 2 ^ d < 2 ^ d := Nat.mod_lt _ hp
    have e1 : 2 ^ d = 2 * 2 ^ (d - 1) := by rw [← Nat.pow_succ', show (d - 1).succ = d by omega]
    have hpb : 2 ^ (d - 1) ≤ 9223372036854775808 := (show 2 ^ (d - 1) ≤ 2 ^ 63 from Nat.pow_le_pow_right (by decide) (by omega))
    have cK : (M : Int) / 2 ^ (d : Int).toNat = ((M / 2 ^ d : Nat) : Int) := by rw [Int.toNat_natCast]; simp
    have cL : IntKind.u64.wrap ((M : Int) - IntKind.u64.wrap (((M / 2 ^ d : Nat) : Int) * 2 ^ (d : Int).toNat)) = ((M % 2 ^ d : Nat) : Int) := by
      have e2 : ((M / 2 ^ d : Nat) : Int) * 2 ^ (d : Int).toNat = ((2 ^ d * (M / 2 ^ d) : Nat) : Int) := by
        rw [Int.toNat_natCast, Int.natCast_mul, Int.mul_comm]
        simp
      rw [e2, IntKind.wrap_u64, IntKind.wrap_u64]
      omega
    have cF : IntKind.u64.wrap (2 ^ ((d : Int).toNat - 1)) = ((2 ^ (d - 1) : Nat) : Int) := by
      have e2 : (2 : Int) ^ ((d : Int).toNat - 1) = ((2 ^ (d - 1) : Nat) : Int) := by rw [Int.toNat_natCast]; simp
      rw [e2, IntKind.wrap_u64]
      omega
    have hkb : M / 2 ^ d ≤ 9223372036854775808 := by
      have : M / 2 ^ d ≤ M / 2 := Nat.div_le_div_left (by omega) (by decide)
      omega
    have co : (bits BinOp.and IntKind.u64 ((M / 2 ^ d : Nat) : Int) 1 == 1) = decide (M / 2 ^ d % 2 = 1) := by
      have e := u64_and_nat (M / 2 ^ d) 1 (by omega) (by decide)
      rw [show ((1 : Nat) : Int) = 1 from rfl] at e
      rw [e, Nat.and_one_is_mod, Bool.beq_eq_decide_eq]
      congr 1
      apply propext
      omega
    have cK1 : IntKind.u64.wrap (((M / 2 ^ d : Nat) : Int) + 1) = ((M / 2 ^ d + 1 : Nat) : Int) := by
      clear cL cF cK co hdm hml
      generalize M / 2 ^ d = q at hkb ⊢
      rw [IntKind.wrap_u64]
      omega
    rcases hw with rfl | rfl | rfl
    · have := c58_0 M d _ _ _ _ _ w (by omega) (by omega) (by omega) cK cL cF co cK1
      exact this
    · have := c58_1 M d _ _ _ _ _ w (by omega) (by omega) (by omega) cK cL cF co cK1
      have e3 : (if decide (((2 ^ (d - 1) : Nat) : Int) < ((M % 2 ^ d : Nat) : Int)) || ((((M % 2 ^ d : Nat) : Int) == ((2 ^ (d - 1) : Nat) : Int)) && decide (M / 2 ^ d % 2 = 1)) then ((M / 2 ^ d + 1 : Nat) : Int) else ((M / 2 ^ d : Nat) : Int)) = (rnd M d 1 : Int) := by
        unfold rnd rup
        rw [if_pos rfl]
        have e4 : decide (((2 ^ (d - 1) : Nat) : Int) < ((M % 2 ^ d : Nat) : Int)) = decide (2 ^ d < 2 * (M % 2 ^ d)) := by
          congr 1; apply propext; omega
        have e5 : (((M % 2 ^ d : Nat) : Int) == ((2 ^ (d - 1) : Nat) : Int)) = decide (2 * (M % 2 ^ d) = 2 ^ d) := by
          rw [Bool.beq_eq_decide_eq]; congr 1; apply propext; omega
        rw [e4, e5]
        split <;> rfl
      rw [e3] at this
      exact this
    · have := c58_2 M d _ _ _ _ _ w (by omega) (by omega) (by omega) cK cL cF co cK1
      have e3 : (if ((((M % 2 ^ d : Nat) : Int)) != 0) then ((M / 2 ^ d + 1 : Nat) : Int) else ((M / 2 ^ d : Nat) : Int)) = (rnd M d 2 : Int) := by
        unfold rnd rup
        rw [if_neg (show ¬ (2 : Int) = 1 by decide), if_pos (show (2 : Int) = 2 from rfl)]
        have e4 : ((((M % 2 ^ d : Nat) : Int)) != 0) = decide (M % 2 ^ d ≠ 0) := by
          rw [bne, Bool.beq_eq_decide_eq, ← decide_not]; congr 1; apply propext; omega
        rw [e4]
        split <;> rfl
      rw [e3] at this
      exact this

end Go.Proofs.YtacaidobfildoaaDoor
