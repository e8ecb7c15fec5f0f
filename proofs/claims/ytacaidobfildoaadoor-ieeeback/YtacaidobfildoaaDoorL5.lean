/- What the law IeeeBack answers, for every two floats. -/
import Derived.Test.YtacaidobfildoaaDoorW10
namespace Go.Proofs.YtacaidobfildoaaDoor
set_option linter.unusedVariables false
set_option linter.unusedSimpArgs false
open Go.RowKit Go.Fl64

theorem law8_1 (a b : Nat) (m E : Int) (s : Bool) (w : World) (KT : Hid (Tab w))
    (k22 : ∀ w, Tab w → Calls Tryd.prog 22 #[.float .f64 a] w fun e w' => e = .returned (.tuple #[.int .u64 m, .int .i64 E, .bool s, .bool false]) ∧ ∃ n, w' = w.drewN n)
    (k30 : ∀ w, Calls Tryd.prog 30 #[.float .f64 a] w fun e w' => e = .returned (.bool false) ∧ w' = w) :
    Calls Tryd.prog 8 #[.float .f64 a, .float .f64 b] w fun e w' => e = .returned (.bool true) ∧ ∃ n, w' = w.drewN n := by
  go_enter Tryd.func8, Tryd.ntmps8
  go_wp2_with (first | (go_at_call 22; refine (k22 _ KT.out).mono ?_; rintro e w' ⟨rfl, n, rfl⟩) | (go_at_call 30; refine (k30 _).mono ?_; rintro e w' ⟨rfl, rfl⟩) | (go_at_call 15; refine (c15 _ (tab_drewN KT.out _)).mono ?_; rintro e w' ⟨rfl, n, rfl⟩))
  go_ret
  exact ⟨rfl, _, rfl⟩

theorem law8_2 (a b : Nat) (m E : Int) (s : Bool) (w : World) (KT : Hid (Tab w))
    (k22 : ∀ w, Tab w → Calls Tryd.prog 22 #[.float .f64 a] w fun e w' => e = .returned (.tuple #[.int .u64 m, .int .i64 E, .bool s, .bool true]) ∧ ∃ n, w' = w.drewN n)
    (k24 : ∀ k : Nat, 1 ≤ k → k ≤ 3 → ∀ w, Calls Tryd.prog 24 #[.bool s, .int .u64 m, .int .i64 E, .int .i64 k] w fun e w' => e = .returned (.float .f64 a) ∧ w' = w)
    (k12 : ∀ w, Calls Tryd.prog 12 #[.float .f64 a, .float .f64 a] w fun e w' => e = .returned (.bool true) ∧ w' = w)
    (ka : ∀ w, Calls Tryd.prog 31 #[.float .f64 a] w fun e w' => e = .returned (.bool false) ∧ w' = w)
    (kb : ∀ w, Calls Tryd.prog 31 #[.float .f64 b] w fun e w' => e = .returned (.bool true) ∧ w' = w) :
    Calls Tryd.prog 8 #[.float .f64 a, .float .f64 b] w fun e w' => e = .returned (.bool true) ∧ ∃ n, w' = w.drewN n := by
  go_enter Tryd.func8, Tryd.ntmps8
  go_wp2_with (first | (go_at_call 22; refine (k22 _ KT.out).mono ?_; rintro e w' ⟨rfl, n, rfl⟩))
  go_loop [9] (fun v => ∃ k : Nat, v = .int .i64 k ∧ 1 ≤ k ∧ k ≤ 4) (fun v => (4 - intOf v).toNat)
  case atStart => exact ⟨1, rfl, by decide, by decide⟩
  case round =>
    obtain ⟨k, rfl, hk1, hk4⟩ := hrel
    by_cases hk : k ≤ 3
    · have k24' := k24 k hk1 hk
      have hk' : (k : Int) ≤ 3 := by omega
      go_wp2_with (first | (go_at_call 24; refine (k24' _).mono ?_; rintro e w' ⟨rfl, rfl⟩) | (go_at_call 12; refine (k12 _).mono ?_; rintro e w' ⟨rfl, rfl⟩))
      exact ⟨⟨k + 1, by first | rfl | (simp; done) | go_num, by omega, by omega⟩, by simp [intOf]; omega⟩
    · have hk' : ¬ (k : Int) ≤ 3 := by omega
      go_wp2_with (first | (go_at_call 31; refine (ka _).mono ?_; rintro e w' ⟨rfl, rfl⟩) | (go_at_call 31; refine (kb _).mono ?_; rintro e w' ⟨rfl, rfl⟩) | (go_at_call 15; refine (c15 _ (tab_drewN KT.out _)).mono ?_; rintro e w' ⟨rfl, n, rfl⟩))
      go_ret
      exact ⟨rfl, _, rfl⟩

set_option maxHeartbeats 1000000 in
theorem law8_3 (a b up p : Nat) (m E : Int) (F : Nat → Int) (s l o q : Bool) (w : World) (ha : a < 18446744073709551616) (hb : b < 18446744073709551616) (hl : (l = o ∧ q = true) ∨ q = false) (KT : Hid (Tab w))
    (k22 : ∀ w, Tab w → Calls Tryd.prog 22 #[.float .f64 a] w fun e w' => e = .returned (.tuple #[.int .u64 m, .int .i64 E, .bool s, .bool true]) ∧ ∃ n, w' = w.drewN n)
    (k24 : ∀ k : Nat, 1 ≤ k → k ≤ 3 → ∀ w, Calls Tryd.prog 24 #[.bool s, .int .u64 m, .int .i64 E, .int .i64 k] w fun e w' => e = .returned (.float .f64 a) ∧ w' = w)
    (k12 : ∀ w, Calls Tryd.prog 12 #[.float .f64 a, .float .f64 a] w fun e w' => e = .returned (.bool true) ∧ w' = w)
    (kb : ∀ w, Calls Tryd.prog 31 #[.float .f64 b] w fun e w' => e = .returned (.bool false) ∧ w' = w)
    (k28 : ∀ c, c < 18446744073709551616 → ∀ w, Calls Tryd.prog 28 #[.float .f64 c] w fun e w' => e = .returned (.int .i64 (F c)) ∧ w' = w)
    (k16 : ∀ w, Calls Tryd.prog 16 #[.float .f64 a] w fun e w' => e = .returned (.float .f64 up) ∧ w' = w)
    (k26 : ∀ w, Calls Tryd.prog 26 #[.float .f64 a, .float .f64 up] w fun e w' => e = .returned (.tuple #[.int .u64 1, .bool true]) ∧ w' = w)
    (k18 : ∀ w, Calls Tryd.prog 18 #[.float .f64 up] w fun e w' => e = .returned (.float .f64 p) ∧ w' = w)
    (ol : (FloatKind.f64.format.order a b == some Ordering.lt) = l) (od : decide (F a < F b) = o) (oq : (FloatKind.f64.format.order a b != some Ordering.eq) = q)
    (og : (FloatKind.f64.format.order up a == some Ordering.gt) = true) (oe : (FloatKind.f64.format.order p a == some Ordering.eq) = true) :
    Calls Tryd.prog 8 #[.float .f64 a, .float .f64 b] w fun e w' => e = .returned (.bool true) ∧ ∃ n, w' = w.drewN n := by
  have hl' : Hid ((l = o ∧ q = true) ∨ q = false) := hl
  clear hl
  go_enter Tryd.func8, Tryd.ntmps8
  go_wp2_with (first | (go_at_call 22; refine (k22 _ KT.out).mono ?_; rintro e w' ⟨rfl, n, rfl⟩))
  go_loop [9] (fun v => ∃ k : Nat, v = .int .i64 k ∧ 1 ≤ k ∧ k ≤ 4) (fun v => (4 - intOf v).toNat)
  case atStart => exact ⟨1, rfl, by decide, by decide⟩
  case round =>
    obtain ⟨k, rfl, hk1, hk4⟩ := hrel
    by_cases hk : k ≤ 3
    · have k24' := k24 k hk1 hk
      have hk' : (k : Int) ≤ 3 := by omega
      go_wp2_with (first | (go_at_call 24; refine (k24' _).mono ?_; rintro e w' ⟨rfl, rfl⟩) | (go_at_call 12; refine (k12 _).mono ?_; rintro e w' ⟨rfl, rfl⟩))
      exact ⟨⟨k + 1, by first | rfl | (simp; done) | go_num, by omega, by omega⟩, by simp [intOf]; omega⟩
    · have hk' : ¬ (k : Int) ≤ 3 := by omega
      rcases hl'.out with ⟨rfl, rfl⟩ | rfl
      · cases l
        · go_wp2_with (first | (go_at_call 31; refine (kb _).mono ?_; rintro e w' ⟨rfl, rfl⟩) | (go_at_call 28; refine (k28 _ (by assumption) _).mono ?_; rintro e w' ⟨rfl, rfl⟩) | (go_at_call 16; refine (k16 _).mono ?_; rintro e w' ⟨rfl, rfl⟩) | (go_at_call 26; refine (k26 _).mono ?_; rintro e w' ⟨rfl, rfl⟩) | (go_at_call 18; refine (k18 _).mono ?_; rintro e w' ⟨rfl, rfl⟩) | (go_at_call 15; refine (c15 _ (tab_drewN KT.out _)).mono ?_; rintro e w' ⟨rfl, n, rfl⟩))
          go_ret
          exact ⟨rfl, _, rfl⟩
        · go_wp2_with (first | (go_at_call 31; refine (kb _).mono ?_; rintro e w' ⟨rfl, rfl⟩) | (go_at_call 28; refine (k28 _ (by assumption) _).mono ?_; rintro e w' ⟨rfl, rfl⟩) | (go_at_call 16; refine (k16 _).mono ?_; rintro e w' ⟨rfl, rfl⟩) | (go_at_call 26; refine (k26 _).mono ?_; rintro e w' ⟨rfl, rfl⟩) | (go_at_call 18; refine (k18 _).mono ?_; rintro e w' ⟨rfl, rfl⟩) | (go_at_call 15; refine (c15 _ (tab_drewN KT.out _)).mono ?_; rintro e w' ⟨rfl, n, rfl⟩))
          go_ret
          exact ⟨rfl, _, rfl⟩
      · cases l <;> cases o
        · go_wp2_with (first | (go_at_call 31; refine (kb _).mono ?_; rintro e w' ⟨rfl, rfl⟩) | (go_at_call 28; refine (k28 _ (by assumption) _).mono ?_; rintro e w' ⟨rfl, rfl⟩) | (go_at_call 16; refine (k16 _).mono ?_; rintro e w' ⟨rfl, rfl⟩) | (go_at_call 26; refine (k26 _).mono ?_; rintro e w' ⟨rfl, rfl⟩) | (go_at_call 18; refine (k18 _).mono ?_; rintro e w' ⟨rfl, rfl⟩) | (go_at_call 15; refine (c15 _ (tab_drewN KT.out _)).mono ?_; rintro e w' ⟨rfl, n, rfl⟩))
          go_ret
          exact ⟨rfl, _, rfl⟩
        · go_wp2_with (first | (go_at_call 31; refine (kb _).mono ?_; rintro e w' ⟨rfl, rfl⟩) | (go_at_call 28; refine (k28 _ (by assumption) _).mono ?_; rintro e w' ⟨rfl, rfl⟩) | (go_at_call 16; refine (k16 _).mono ?_; rintro e w' ⟨rfl, rfl⟩) | (go_at_call 26; refine (k26 _).mono ?_; rintro e w' ⟨rfl, rfl⟩) | (go_at_call 18; refine (k18 _).mono ?_; rintro e w' ⟨rfl, rfl⟩) | (go_at_call 15; refine (c15 _ (tab_drewN KT.out _)).mono ?_; rintro e w' ⟨rfl, n, rfl⟩))
          go_ret
          exact ⟨rfl, _, rfl⟩
        · go_wp2_with (first | (go_at_call 31; refine (kb _).mono ?_; rintro e w' ⟨rfl, rfl⟩) | (go_at_call 28; refine (k28 _ (by assumption) _).mono ?_; rintro e w' ⟨rfl, rfl⟩) | (go_at_call 16; refine (k16 _).mono ?_; rintro e w' ⟨rfl, rfl⟩) | (go_at_call 26; refine (k26 _).mono ?_; rintro e w' ⟨rfl, rfl⟩) | (go_at_call 18; refine (k18 _).mono ?_; rintro e w' ⟨rfl, rfl⟩) | (go_at_call 15; refine (c15 _ (tab_drewN KT.out _)).mono ?_; rintro e w' ⟨rfl, n, rfl⟩))
          go_ret
          exact ⟨rfl, _, rfl⟩
        · go_wp2_with (first | (go_at_call 31; refine (kb _).mono ?_; rintro e w' ⟨rfl, rfl⟩) | (go_at_call 28; refine (k28 _ (by assumption) _).mono ?_; rintro e w' ⟨rfl, rfl⟩) | (go_at_call 16; refine (k16 _).mono ?_; rintro e w' ⟨rfl, rfl⟩) | (go_at_call 26; refine (k26 _).mono ?_; rintro e w' ⟨rfl, rfl⟩) | (go_at_call 18; refine (k18 _).mono ?_; rintro e w' ⟨rfl, rfl⟩) | (go_at_call 15; refine (c15 _ (tab_drewN KT.out _)).mono ?_; rintro e w' ⟨rfl, n, rfl⟩))
          go_ret
          exact ⟨rfl, _, rfl⟩

/-! ### The plain facts -/

/-- What is whole stays, whatever the way. -/
theorem rnd_whole (X d : Nat) (way : Int) : rnd (X * 2 ^ d) d way = X := by
  have hp : 0 < 2 ^ d := Nat.two_pow_pos d
  have e1 : X * 2 ^ d % 2 ^ d = 0 := Nat.mul_mod_left X (2 ^ d)
  have e2 : X * 2 ^ d / 2 ^ d = X := Nat.mul_div_cancel X hp
  unfold rnd rup
  rw [e1, e2]
  have h : ¬ (2 ^ d < 2 * 0) := by omega
  have h' : ¬ (2 * 0 = 2 ^ d) := by omega
  simp only [h, h', decide_false, Bool.false_or, Bool.false_and, ne_eq, not_true_eq_false, ite_self, if_false, Bool.false_eq_true]

theorem bitLen_of {x k : Nat} (h1 : 2 ^ k ≤ x) (h2 : x < 2 ^ (k + 1)) : bitLen x = k + 1 := by
  have h0 : x ≠ 0 := by have := Nat.two_pow_pos k; omega
  unfold bitLen
  rw [if_neg h0, (Nat.log2_eq_iff h0).2 ⟨h1, h2⟩]

/-- The float is made of its odd part, in every way. -/
theorem bod_split {a : Nat} (h0 : mag a ≠ 0) (h1 : mag a < 9218868437227405312) (x c : Nat) (hx : x * 2 ^ c = mant a) (way : Int) :
    bod x (lp a + (c : Int)) way = (mag a : Int) := by
  have hm := mant_ne h0
  have hb := mant_bound a
  have hp : 0 < 2 ^ c := Nat.two_pow_pos c
  have e1 : mant a / 2 ^ c = x := by rw [← hx]; exact Nat.mul_div_cancel _ hp
  have hx0 : x ≠ 0 := by
    intro e
    rw [e, Nat.zero_mul] at hx
    exact hm hx.symm
  have e2 := bitLen_shift (mant a) c (by rw [e1]; exact hx0)
  rw [e1] at e2
  have hx64 : x < 18446744073709551616 := by
    have : x ≤ x * 2 ^ c := Nat.le_mul_of_pos_right x hp
    omega
  obtain ⟨s1, s2⟩ := bitLen_spec x
  have s2 := s2 hx0
  have s3 := bitLen_le64 x hx64
  have s4 : bitLen x ≠ 0 := by unfold bitLen; rw [if_neg hx0]; omega
  have k53 : bitLen (mant a) ≤ 53 := by
    unfold bitLen
    rw [if_neg hm]
    have := (Nat.log2_lt hm).2 (show mant a < 2 ^ 53 from hb)
    omega
  have key : ∀ d : Nat, (nz x : Int) - (c : Int) = (d : Int) → tp x = mant a * 2 ^ d := by
    intro d hd
    unfold tp
    rw [← hx, Nat.mul_assoc, ← Nat.pow_add, show nz x = c + d by omega]
  have hz : (nz x : Int) - (c : Int) = 64 - (bitLen (mant a) : Int) := by unfold nz; omega
  have fin : ∀ d : Nat, (d : Int) = 64 - (bitLen (mant a) : Int) → ∀ P : Int, pl x (lp a + (c : Int)) = P → (P - (lp a + (c : Int) - (nz x : Int))).toNat = d → (P + 1074) * 4503599627370496 + (mant a : Int) = (mag a : Int) → bod x (lp a + (c : Int)) way = (mag a : Int) := by
    intro d hd P hP hD hM
    have er : raw x (lp a + (c : Int)) way = (mag a : Int) := by
      unfold raw
      rw [hP, hD, key d (by omega), rnd_whole]
      exact hM
    unfold bod
    rw [er, if_pos (by omega)]
  by_cases h3 : mag a < 4503599627370496
  · have em : mant a = mag a := if_pos h3
    have el : lp a = -1074 := by unfold lp; omega
    have k52 : bitLen (mant a) ≤ 52 := by
      unfold bitLen
      rw [if_neg hm]
      have := (Nat.log2_lt hm).2 (show mant a < 2 ^ 52 by rw [em]; exact h3)
      omega
    refine fin (64 - bitLen (mant a)) (by omega) (-1074) ?_ (by omega) (by omega)
    unfold pl
    rw [if_pos (by omega)]
  · have em : mant a = 4503599627370496 + mag a % 4503599627370496 := if_neg h3
    have kk : bitLen (mant a) = 53 := bitLen_of (k := 52) (show 2 ^ 52 ≤ mant a by rw [em]; omega) (show mant a < 2 ^ 53 from hb)
    have el : lp a = -1075 + ((mag a / 4503599627370496 : Nat) : Int) := by unfold lp; omega
    refine fin 11 (by omega) (lp a) ?_ (by omega) (by omega)
    unfold pl
    rw [if_neg (by omega)]
    omega

theorem sig_self (a : Nat) (h : a < 18446744073709551616) : sig (neg a) (mag a) = a := by
  unfold sig neg mag
  by_cases hn : 9223372036854775808 ≤ a
  · rw [decide_eq_true hn, if_pos rfl]; omega
  · rw [decide_eq_false hn, if_neg (by decide)]; omega

theorem mk_split (a : Nat) (h : a < 18446744073709551616) (h1 : mag a < 9218868437227405312) (k : Nat) (hk1 : 1 ≤ k) (hk3 : k ≤ 3) (nan : Nat) :
    mk (sN a) (sM a).toNat (sE a) k nan = a := by
  have h1' : ¬ 9218868437227405312 ≤ mag a := by omega
  unfold mk sN sM sE
  rw [if_pos (by omega), if_neg h1', if_neg h1', if_neg h1']
  by_cases h0 : mag a = 0
  · rw [if_pos h0, if_pos h0, if_pos (show (0 : Int).toNat = 0 from rfl)]
    have := sig_self a h
    rw [h0] at this
    exact this
  · rw [if_neg h0, if_neg h0]
    have hm := mant_ne h0
    have hb := mant_bound a
    obtain ⟨m, hmm, hk⟩ := Lib.ctzFrom_spec 64 (mant a) (by omega) (show mant a < 2 ^ 64 by omega)
    have e : Lib.ctz 64 (mant a) = Lib.ctzFrom 64 (mant a) := by simp [Lib.ctz, hm]
    have hx : (2 * m + 1) * 2 ^ Lib.ctz 64 (mant a) = mant a := by rw [e, Nat.mul_comm]; exact hmm.symm
    obtain ⟨_, ex⟩ := odd_one (x := 2 * m + 1) (by omega) hx (show mant a < 2 ^ 64 by omega)
    rw [← ex, Int.toNat_natCast, if_neg (by omega), bod_split h0 h1 _ _ hx, Int.toNat_natCast, sig_self a h]

theorem sM_nonneg (a : Nat) : (((sM a).toNat : Nat) : Int) = sM a := by
  have : 0 ≤ sM a := by
    unfold sM
    split
    · decide
    · split
      · decide
      · exact Int.ediv_nonneg (by omega) (Int.le_of_lt (Int.pow_pos (by decide)))
  omega
theorem sM_lt (a : Nat) : (sM a).toNat < 18446744073709551616 := by
  unfold sM
  split
  · decide
  · split
    · decide
    · have h1 := mant_bound a
      have h2 : (mant a : Int) / 2 ^ Lib.ctz 64 (mant a) ≤ (mant a : Int) := Int.ediv_le_self _ (by omega)
      omega

theorem ordr_lt (a b : Nat) (na : isNaN a = false) (nb : isNaN b = false) (h : stp a ≠ stp b) : decide (stp a < stp b) = decide (ordr a < ordr b) := by
  have ha := mag_lt a
  have hb := mag_lt b
  congr 1
  apply propext
  unfold stp sgn at h ⊢
  unfold ordr
  rw [na, nb]
  cases neg a <;> cases neg b <;> simp at h ⊢ <;> omega

theorem stp_nx (a : Nat) (h : a < 18446744073709551616) (na : isNaN a = false) (hi : a ≠ 9218868437227405312) : stp (nx a) = stp a + 1 ∧ isNaN (nx a) = false := by
  have na' : ¬ 9218868437227405312 < mag a := of_decide_eq_false na
  unfold nx
  rw [na, if_neg (by decide), if_neg hi]
  by_cases h5 : mag a = 0
  · rw [if_pos h5]
    refine ⟨?_, by decide⟩
    unfold stp sgn
    rw [h5]
    cases neg a <;> decide
  · rw [if_neg h5]
    by_cases hn : 9223372036854775808 ≤ a
    · have e : neg a = true := decide_eq_true hn
      have e2 : neg (a - 1) = true := decide_eq_true (by unfold mag at h5; omega)
      rw [if_pos e]
      have s1 : stp a = -(mag a : Int) := by unfold stp; rw [e]; rfl
      have s2 : stp (a - 1) = -(mag (a - 1) : Int) := by unfold stp; rw [e2]; rfl
      rw [s1, s2]
      unfold isNaN
      unfold mag at *
      refine ⟨by omega, decide_eq_false (by omega)⟩
    · have e : neg a = false := decide_eq_false hn
      have e2 : neg (a + 1) = false := decide_eq_false (by unfold mag at *; omega)
      rw [if_neg (show ¬ neg a = true by rw [e]; decide)]
      have s1 : stp a = (mag a : Int) := by unfold stp; rw [e]; rfl
      have s2 : stp (a + 1) = (mag (a + 1) : Int) := by unfold stp; rw [e2]; rfl
      rw [s1, s2]
      unfold isNaN
      unfold mag at *
      refine ⟨by omega, decide_eq_false (by omega)⟩

theorem stp_trn (a : Nat) (h : a < 18446744073709551616) : stp (trn a) = -stp a := by
  have e := mag_trn a h
  unfold stp
  rw [e]
  unfold sgn
  by_cases hn : 9223372036854775808 ≤ a
  · have e1 : neg a = true := decide_eq_true hn
    have e2 : neg (trn a) = false := by
      unfold trn
      rw [e1, if_pos rfl]
      exact decide_eq_false (by omega)
    rw [e1, e2]
    simp
  · have e1 : neg a = false := decide_eq_false hn
    have e2 : neg (trn a) = true := by
      unfold trn
      rw [e1, if_neg (by decide)]
      exact decide_eq_true (by omega)
    rw [e1, e2]
    simp

theorem law8 (a b : Nat) (ha : a < 18446744073709551616) (hb : b < 18446744073709551616) (w : World) (hT : Tab w) :
    Calls Tryd.prog 8 #[.float .f64 a, .float .f64 b] w fun e w' => e = .returned (.bool true) ∧ ∃ n, w' = w.drewN n := by
  have k22 := fun w hT => c22 a ha w hT
  by_cases h1 : 9218868437227405312 ≤ mag a
  · have eO : sO a = false := if_pos h1
    rw [eO] at k22
    have k30 := c30 a ha
    rw [decide_eq_false (by omega)] at k30
    exact law8_1 a b _ _ _ w hT k22 k30
  · have eO : sO a = true := if_neg h1
    rw [eO] at k22
    have na : isNaN a = false := decide_eq_false (by omega)
    have k24 : ∀ k : Nat, 1 ≤ k → k ≤ 3 → ∀ w, Calls Tryd.prog 24 #[.bool (sN a), .int .u64 (sM a), .int .i64 (sE a), .int .i64 k] w fun e w' => e = .returned (.float .f64 a) ∧ w' = w := by
      intro k hk1 hk3 w
      have := c24 (sN a) (sM a).toNat (sE a) k (sM_lt a) w
      rw [mk_split a ha (by omega) k hk1 hk3, sM_nonneg] at this
      exact this
    have k12 := c12 a a ha ha
    rw [same_self] at k12
    cases nb : isNaN b with
    | true =>
      have ka := c31 a ha
      have kb := c31 b hb
      rw [na] at ka
      rw [nb] at kb
      exact law8_2 a b _ _ _ w hT k22 k24 k12 ka kb
    | false =>
      have kb := c31 b hb
      rw [nb] at kb
      have hi : a ≠ 9218868437227405312 := by intro e; subst e; exact h1 (by decide)
      have hu := nx_lt a ha
      obtain ⟨su, nu⟩ := stp_nx a ha na hi
      have k26 := c26 a (nx a) ha hu
      have el : le a (nx a) = true := by
        unfold le
        rw [na, nu, su, decide_eq_true (by omega)]
        rfl
      have ea : apN (stp a) (stp (nx a)) = 1 := by
        unfold apN
        rw [su, IntKind.wrap_u64, IntKind.wrap_u64, IntKind.wrap_u64]
        omega
      rw [el, if_pos rfl, ea] at k26
      have k18 := c18 (nx a) hu
      have og : (FloatKind.f64.format.order (nx a) a == some Ordering.gt) = true := by
        rw [ord_gt _ _ hu ha]
        unfold lt
        rw [na, nu, su, decide_eq_true (by omega)]
        rfl
      have ht := trn_lt (nx a) hu
      have nt : isNaN (trn (nx a)) = false := (isNaN_trn _ hu).trans nu
      have st := stp_trn (nx a) hu
      have sa : -9218868437227405312 < stp a := by
        unfold stp sgn
        split <;> omega
      have hti : trn (nx a) ≠ 9218868437227405312 := by
        intro e
        rw [e, su] at st
        have : stp 9218868437227405312 = 9218868437227405312 := by decide
        omega
      obtain ⟨sp, np⟩ := stp_nx (trn (nx a)) ht nt hti
      have hq := nx_lt (trn (nx a)) ht
      have oe : (FloatKind.f64.format.order (pv (nx a)) a == some Ordering.eq) = true := by
        rw [ord_eq _ _ (pv_lt _ hu) ha]
        unfold eq pv
        rw [isNaN_trn _ hq, np, na, stp_trn _ hq, sp, st, su, decide_eq_true (by omega)]
        rfl
      refine law8_3 a b (nx a) (pv (nx a)) _ _ ordr _ (lt a b) (decide (ordr a < ordr b)) (!eq a b) w ha hb ?_ hT k22 k24 k12 kb c28 (c16 a ha) k26 k18 (ord_lt a b ha hb) rfl ?_ og oe
      · unfold lt eq
        rw [na, nb]
        by_cases h : stp a = stp b
        · right
          rw [decide_eq_true h]
          rfl
        · left
          rw [decide_eq_false h, ← ordr_lt a b na nb h]
          exact ⟨rfl, rfl⟩
      · rw [bne, ord_eq a b ha hb]

end Go.Proofs.YtacaidobfildoaaDoor
