/- What the document's Split answers. -/
import Derived.Test.YtacaidobfildoaaDoorL2
import Derived.LoopTactic
namespace Go.Proofs.YtacaidobfildoaaDoor
set_option linter.unusedVariables false
set_option linter.unusedSimpArgs false
open Go.RowKit Go.Fl64

theorem c30 (a : Nat) (ha : a < 18446744073709551616) (w : World) :
    Calls Tryd.prog 30 #[.float .f64 a] w fun e w' => e = .returned (.bool (decide ((mag a : Int) < 9218868437227405312))) ∧ w' = w := by
  have k34 := c34 a ha
  clear ha
  generalize (mag a : Int) = m at k34 ⊢
  go_enter Tryd.func30, Tryd.ntmps30
  go_wp2_with (first | (go_at_call 34; refine (k34 _).mono ?_; rintro e w' ⟨rfl, rfl⟩))
  go_ret
  exact ⟨rfl, rfl⟩

theorem c23_1 (a : Nat) (w : World)
    (k30 : ∀ w, Calls Tryd.prog 30 #[.float .f64 a] w fun e w' => e = .returned (.bool false) ∧ w' = w) :
    Calls Tryd.prog 23 #[.float .f64 a] w fun e w' => e = .returned (.tuple #[.int .u64 0, .int .i64 0, .bool false, .bool false]) ∧ w' = w := by
  go_enter Tryd.func23, Tryd.ntmps23
  go_wp2_with (first | (go_at_call 30; refine (k30 _).mono ?_; rintro e w' ⟨rfl, rfl⟩))
  refine bodyPost_ret (results_tmp4 rfl _ _ _) rfl ?_
  exact ⟨rfl, rfl⟩

theorem c23_2 (a : Nat) (s : Bool) (E : Int) (w : World)
    (k30 : ∀ w, Calls Tryd.prog 30 #[.float .f64 a] w fun e w' => e = .returned (.bool true) ∧ w' = w)
    (k50 : ∀ w, Calls Tryd.prog 50 #[.float .f64 a] w fun e w' => e = .returned (.tuple #[.int .u64 0, .int .i64 E]) ∧ w' = w)
    (k35 : ∀ w, Calls Tryd.prog 35 #[.float .f64 a] w fun e w' => e = .returned (.bool s) ∧ w' = w) :
    Calls Tryd.prog 23 #[.float .f64 a] w fun e w' => e = .returned (.tuple #[.int .u64 0, .int .i64 0, .bool s, .bool true]) ∧ w' = w := by
  go_enter Tryd.func23, Tryd.ntmps23
  go_wp2_with (first | (go_at_call 30; refine (k30 _).mono ?_; rintro e w' ⟨rfl, rfl⟩) | (go_at_call 50; refine (k50 _).mono ?_; rintro e w' ⟨rfl, rfl⟩) | (go_at_call 35; refine (k35 _).mono ?_; rintro e w' ⟨rfl, rfl⟩))
  refine bodyPost_ret (results_tmp4 rfl _ _ _) rfl ?_
  exact ⟨rfl, rfl⟩

theorem half_step {x j M : Nat} {L : Int} (hx : x * 2 ^ j = M) (h0 : M ≠ 0) (h1 : M < 9007199254740992) (hL : -1074 ≤ L ∧ L ≤ 971) (h : ((x : Int) % 2 == 0) = true) :
    (∃ x_1 j_1 : Nat, Value.int .u64 (IntKind.u64.wrap ((x : Int) / 2)) = Value.int .u64 (x_1 : Int) ∧ Value.int .i64 (wrap64 (L + (j : Int) + 1)) = Value.int .i64 (L + (j_1 : Int)) ∧ Hid (x_1 * 2 ^ j_1 = M)) ∧
    (intOf (Value.int .u64 (IntKind.u64.wrap ((x : Int) / 2)))).toNat < (intOf (Value.int .u64 (x : Int))).toNat := by
  have hx2 : (x : Int) % 2 = 0 := by simpa using h
  have hp : 0 < 2 ^ j := Nat.two_pow_pos j
  have hx0 : x ≠ 0 := by
    intro e
    rw [e, Nat.zero_mul] at hx
    exact h0 hx.symm
  have hxM : x ≤ M := by
    rw [← hx]
    exact Nat.le_mul_of_pos_right x hp
  have hj : j < 53 := by
    apply Nat.lt_of_not_le
    intro hle
    have a1 : 2 ^ 53 ≤ 2 ^ j := Nat.pow_le_pow_right (by decide) hle
    have a2 : 2 ^ j ≤ x * 2 ^ j := Nat.le_mul_of_pos_left _ (by omega)
    rw [hx] at a2
    have a3 : (9007199254740992 : Nat) = 2 ^ 53 := rfl
    omega
  have e1 : IntKind.u64.wrap ((x : Int) / 2) = ((x / 2 : Nat) : Int) := by rw [IntKind.wrap_u64]; omega
  have e2 : wrap64 (L + (j : Int) + 1) = L + ((j + 1 : Nat) : Int) := by unfold wrap64; omega
  refine ⟨⟨x / 2, j + 1, by rw [e1], by rw [e2], ?_⟩, ?_⟩
  · show x / 2 * 2 ^ (j + 1) = M
    rw [Nat.pow_succ, Nat.mul_comm (2 ^ j), ← Nat.mul_assoc, show x / 2 * 2 = x by omega, hx]
  · rw [e1]
    show (((x / 2 : Nat) : Int)).toNat < ((x : Int)).toNat
    omega
theorem odd_of {x : Nat} (h : ((x : Int) % 2 == 0) = false) : x % 2 = 1 := by
  have : ¬ (x : Int) % 2 = 0 := by simpa using h
  omega

/-- A number with an odd part has one only. -/
theorem odd_one {x j M : Nat} (hx : x % 2 = 1) (h : x * 2 ^ j = M) (hM : M < 2 ^ 64) : j = Lib.ctz 64 M ∧ (x : Int) = (M : Int) / 2 ^ Lib.ctz 64 M := by
  have hp : 0 < 2 ^ j := Nat.two_pow_pos j
  have h0 : M ≠ 0 := by
    rw [← h]
    exact Nat.ne_of_gt (Nat.mul_pos (by omega) hp)
  obtain ⟨m, hm, hk⟩ := Lib.ctzFrom_spec 64 M (by omega) hM
  have e : Lib.ctz 64 M = Lib.ctzFrom 64 M := by simp [Lib.ctz, h0]
  rw [e]
  generalize Lib.ctzFrom 64 M = c at *
  have hjc : j = c := by
    rcases Nat.lt_trichotomy j c with hlt | heq | hgt
    · exfalso
      obtain ⟨d, rfl⟩ : ∃ d, c = j + (d + 1) := ⟨c - j - 1, by omega⟩
      rw [← h, Nat.pow_add, Nat.mul_comm x, Nat.mul_assoc] at hm
      have := Nat.eq_of_mul_eq_mul_left hp hm
      rw [Nat.pow_succ, Nat.mul_comm (2 ^ d) 2, Nat.mul_assoc] at this
      omega
    · exact heq
    · exfalso
      obtain ⟨d, rfl⟩ : ∃ d, j = c + (d + 1) := ⟨j - c - 1, by omega⟩
      rw [← h, Nat.pow_add, Nat.mul_comm x, Nat.mul_assoc] at hm
      have := Nat.eq_of_mul_eq_mul_left (Nat.two_pow_pos c) hm
      rw [Nat.pow_succ, Nat.mul_comm (2 ^ d) 2, Nat.mul_assoc] at this
      omega
  subst hjc
  refine ⟨rfl, ?_⟩
  have e2 : M / 2 ^ j = x := by rw [← h]; exact Nat.mul_div_cancel _ hp
  rw [← e2]
  simp

theorem c23_3 (a M : Nat) (s : Bool) (L : Int) (w : World) (hM : ((M : Int) == 0) = false) (hM1 : Hid (M < 9007199254740992)) (hM0 : Hid (M ≠ 0)) (hL : Hid (-1074 ≤ L ∧ L ≤ 971))
    (k30 : ∀ w, Calls Tryd.prog 30 #[.float .f64 a] w fun e w' => e = .returned (.bool true) ∧ w' = w)
    (k50 : ∀ w, Calls Tryd.prog 50 #[.float .f64 a] w fun e w' => e = .returned (.tuple #[.int .u64 M, .int .i64 L]) ∧ w' = w)
    (k35 : ∀ w, Calls Tryd.prog 35 #[.float .f64 a] w fun e w' => e = .returned (.bool s) ∧ w' = w) :
    Calls Tryd.prog 23 #[.float .f64 a] w fun e w' => (∃ x j : Nat, x % 2 = 1 ∧ x * 2 ^ j = M ∧ e = .returned (.tuple #[.int .u64 x, .int .i64 (L + j), .bool s, .bool true])) ∧ w' = w := by
  go_enter Tryd.func23, Tryd.ntmps23
  go_wp2_with (first | (go_at_call 30; refine (k30 _).mono ?_; rintro e w' ⟨rfl, rfl⟩) | (go_at_call 50; refine (k50 _).mono ?_; rintro e w' ⟨rfl, rfl⟩))
  go_loop [6, 7] (fun m e => ∃ x j : Nat, m = .int .u64 x ∧ e = .int .i64 (L + j) ∧ Hid (x * 2 ^ j = M)) (fun m _ => (intOf m).toNat)
  case atStart => exact ⟨M, 0, rfl, by simp, (by simp : M * 2 ^ 0 = M)⟩
  case round =>
    obtain ⟨x, j, rfl, rfl, hx⟩ := hrel
    go_wp2_with (first | (go_at_call 35; refine (k35 _).mono ?_; rintro e w' ⟨rfl, rfl⟩))
    · exact half_step hx.out hM0.out hM1.out hL.out (by assumption)
    · refine bodyPost_ret (results_tmp4 rfl _ _ _) rfl ?_
      exact ⟨⟨x, j, odd_of (by assumption), hx.out, rfl⟩, rfl⟩

theorem c23 (a : Nat) (ha : a < 18446744073709551616) (w : World) :
    Calls Tryd.prog 23 #[.float .f64 a] w fun e w' => e = .returned (.tuple #[.int .u64 (sM a), .int .i64 (sE a), .bool (sN a), .bool (sO a)]) ∧ w' = w := by
  have k30 := c30 a ha
  have k50 := c50 a ha
  have k35 := c35 a ha
  by_cases h1 : 9218868437227405312 ≤ mag a
  · unfold sM sE sN sO
    rw [if_pos h1, if_pos h1, if_pos h1, if_pos h1]
    rw [decide_eq_false (by omega)] at k30
    exact c23_1 a w k30
  · unfold sM sE sN sO
    rw [if_neg h1, if_neg h1, if_neg h1, if_neg h1]
    rw [decide_eq_true (by omega)] at k30
    by_cases h2 : mag a = 0
    · rw [if_pos h2, if_pos h2]
      have e : mant a = 0 := by unfold mant; rw [h2]; rfl
      rw [e] at k50
      exact c23_2 a _ _ w k30 k50 k35
    · rw [if_neg h2, if_neg h2]
      have hm := mant_ne h2
      have hb := mant_bound a
      have hl := lp_fin (a := a) (by omega)
      refine (c23_3 a (mant a) _ _ w (int_beq_false (by omega)) hb hm hl k30 k50 k35).mono fun e w' hh => ?_
      obtain ⟨⟨x, j, ho, hx, he⟩, hw⟩ := hh
      obtain ⟨ej, ex⟩ := odd_one ho hx (by omega)
      refine ⟨?_, hw⟩
      rw [he, ex, ← ej]

theorem law5 (a : Nat) (ha : a < 18446744073709551616) (w : World) (hT : Tab w) :
    Calls Tryd.prog 5 #[.float .f64 a] w fun e w' => e = .returned (.bool true) ∧ ∃ n, w' = w.drewN n := by
  have KT : Hid (Tab w) := hT
  have k22 := fun w hT => c22 a ha w hT
  have k23 := c23 a ha
  clear hT ha
  generalize sM a = x at k22 k23 ⊢
  generalize sE a = y at k22 k23 ⊢
  generalize sN a = z at k22 k23 ⊢
  generalize sO a = v at k22 k23 ⊢
  go_enter Tryd.func5, Tryd.ntmps5
  go_wp2_with (first | (go_at_call 22; refine (k22 _ KT.out).mono ?_; rintro e w' ⟨rfl, n, rfl⟩) | (go_at_call 23; refine (k23 _).mono ?_; rintro e w' ⟨rfl, rfl⟩) | (go_at_call 15; refine (c15 _ (tab_drewN KT.out _)).mono ?_; rintro e w' ⟨rfl, n, rfl⟩))
  go_ret
  exact ⟨rfl, _, rfl⟩

end Go.Proofs.YtacaidobfildoaaDoor
