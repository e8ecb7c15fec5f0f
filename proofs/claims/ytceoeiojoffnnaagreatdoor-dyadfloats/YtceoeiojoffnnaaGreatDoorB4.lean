/- Own work: contracts of the program's functions, part B4. -/
import Derived.Test.YtceoeiojoffnnaaGreatDoorB1
import Derived.Test.YtceoeiojoffnnaaGreatDoorB3
import Derived.Test.YtceoeiojoffnnaaGreatDoorA17

/- DyadFloats answers true, whatever the two floats are. -/
namespace Go.Proofs.YtceoeiojoffnnaaGreatDoor
set_option linter.unusedVariables false
set_option linter.unusedSimpArgs false
open Go.RowKit Go.Fl64

/-- the parts of a finite float's number -/
def nN (a : Nat) : Bool := if mag a = 0 then false else neg a
def nM (a : Nat) : Nat := (Ie.sM a).toNat

theorem val_mant (a : Nat) (hf : mag a < 9218868437227405312) : val (mag a) = Ie.mant a * 2 ^ (Ie.lp a + 1074).toNat ∧ -1074 ≤ Ie.lp a ∧ Ie.lp a ≤ 972 := by
  unfold val Ie.mant Ie.lp
  by_cases h : mag a < 4503599627370496
  · rw [if_pos h, if_pos h]
    have : (-1075 + max 1 ((mag a / 4503599627370496 : Nat) : Int) + 1074).toNat = 0 := by omega
    rw [this, Nat.pow_zero, Nat.mul_one]
    exact ⟨rfl, by omega, by omega⟩
  · rw [if_neg h, if_neg h]
    have : (-1075 + max 1 ((mag a / 4503599627370496 : Nat) : Int) + 1074).toNat = mag a / 4503599627370496 - 1 := by omega
    rw [this]
    exact ⟨rfl, by omega, by omega⟩

theorem num_zero {a : Nat} (h0 : mag a = 0) : nM a = 0 ∧ Ie.sE a = 0 := by
  constructor
  · unfold nM Ie.sM
    rw [if_neg (by omega), if_pos h0]
    rfl
  · unfold Ie.sE
    rw [if_neg (by omega), if_pos h0]
theorem num_parts {a : Nat} (hf : mag a < 9218868437227405312) (h0 : mag a ≠ 0) :
    nM a % 2 = 1 ∧ nM a < 9007199254740992 ∧ -1074 ≤ Ie.sE a ∧ Ie.sE a ≤ 1100 ∧ nM a * 2 ^ (Ie.sE a + 1074).toNat = val (mag a) := by
  obtain ⟨v1, v2, v3⟩ := val_mant a hf
  have hb := Ie.mant_bound a
  have hne := Ie.mant_ne h0
  have hct : Lib.ctz 64 (Ie.mant a) = tz (Ie.mant a) := tz_ctz hne (by omega)
  obtain ⟨h1, h2⟩ := tz_spec _ (Ie.mant a) (Nat.le_refl _) hne
  have e1 : nM a = Ie.mant a / 2 ^ tz (Ie.mant a) := by
    unfold nM Ie.sM
    rw [if_neg (by omega), if_neg h0, hct]
    have : (Ie.mant a : Int) / 2 ^ tz (Ie.mant a) = ((Ie.mant a / 2 ^ tz (Ie.mant a) : Nat) : Int) := by simp
    rw [this, Int.toNat_natCast]
  have e2 : Ie.sE a = Ie.lp a + (tz (Ie.mant a) : Int) := by
    unfold Ie.sE
    rw [if_neg (by omega), if_neg h0, hct]
  rw [v1]
  generalize Ie.mant a = M at *
  generalize tz M = t at *
  generalize Ie.lp a = p at *
  have hq : M / 2 ^ t ≤ M := Nat.div_le_self ..
  have ht : t ≤ 53 := by
    apply Nat.le_of_not_lt
    intro h
    have h3 : 1 ≤ M / 2 ^ t := Nat.pos_of_ne_zero fun e0 => by rw [e0] at h2; simp at h2
    have h4 := Nat.mul_le_mul_left (2 ^ t) h3
    have h5 : 2 ^ 53 ≤ 2 ^ t := Nat.pow_le_pow_right (by omega) (by omega)
    have h6 : (2 : Nat) ^ 53 = 9007199254740992 := by decide
    omega
  refine ⟨by rw [e1]; exact h2, by rw [e1]; omega, by omega, by omega, ?_⟩
  rw [e1, e2, show (p + (t : Int) + 1074).toNat = t + (p + 1074).toNat by omega, Nat.pow_add, ← Nat.mul_assoc, Nat.mul_comm (M / 2 ^ t), h1]

theorem num_ok {a : Nat} (hf : mag a < 9218868437227405312) : okN (nN a) (dlen (nM a)) (nM a) (Ie.sE a) = true := by
  by_cases h0 : mag a = 0
  · obtain ⟨h1, h2⟩ := num_zero h0
    unfold nN
    rw [if_pos h0, h1, h2, dlen_zero]
    decide
  · obtain ⟨h1, h2, h3, h4, -⟩ := num_parts hf h0
    have hm : nM a ≠ 0 := by intro e; rw [e] at h1; simp at h1
    have hl : dlen (nM a) ≤ 2 := (dlen_le 2 _).2 (by unfold B; omega)
    have hd : dlen (nM a) ≠ 0 := fun e => hm (dlen_eq_zero.1 e)
    have ht := dg_top hm
    have h0' : dg (nM a) 0 % 2 = 1 := by
      unfold dg
      simp only [Nat.pow_zero, Nat.div_one]
      unfold B
      omega
    unfold okN
    rw [if_neg hd]
    simp only [Bool.and_eq_true, decide_eq_true_eq, bne_iff_ne, beq_iff_eq]
    exact ⟨⟨⟨⟨by omega, ht⟩, h0'⟩, by omega⟩, by omega⟩

theorem num_of {w : World} {b a : Nat} {v : Value} (hf : mag a < 9218868437227405312) (h : Nrm w b v (neg a) (nM a) (Ie.sE a)) :
    ∃ ao cap, v = .agg #[.bool (nN a), .slice ao (dlen (nM a)) cap, .int .i64 (Ie.sE a)] ∧ Is w (.slice ao (dlen (nM a)) cap) (nM a) := by
  unfold nN
  by_cases h0 : mag a = 0
  · obtain ⟨h1, h2⟩ := num_zero h0
    rw [h1] at h
    rw [if_pos h0, h1, h2, h.nil, dlen_zero]
    exact ⟨none, 0, rfl, is_nil w⟩
  · rw [if_neg h0]
    exact h.odd (num_parts hf h0).1

theorem tf_back {a : Nat} (ha : a < 18446744073709551616) (hf : mag a < 9218868437227405312) (k : Int) (hk : 1 ≤ k ∧ k ≤ 3) : tfF (nN a) true (nM a) (Ie.sE a) k = if mag a = 0 then 0 else a := by
  obtain ⟨k, rfl⟩ : ∃ n : Nat, k = (n : Int) := ⟨k.toNat, by omega⟩
  by_cases h0 : mag a = 0
  · obtain ⟨h1, h2⟩ := num_zero h0
    unfold nN
    rw [if_pos h0, if_pos h0, h1, h2]
    have e0 : tfD 0 = 0 := by unfold tfD bl; simp
    have e1 : tfM true 0 = 0 := by unfold tfM; rw [e0]; simp
    unfold tfF
    rw [e1]
    unfold Ie.mk
    rw [if_pos (by omega), if_pos rfl]
    rfl
  · obtain ⟨h1, h2, -⟩ := num_parts hf h0
    have hb : tfD (nM a) = 0 := by
      unfold tfD
      have := (bl_le (nM a) 53).2 (by omega)
      omega
    have e1 : tfM true (nM a) = nM a := by unfold tfM; rw [hb]; simp
    unfold tfF
    rw [e1, hb, if_neg h0]
    have := Ie.mk_split a ha hf k (by omega) (by omega) 9221120237041090561
    unfold Ie.sN at this
    rw [if_neg (by omega)] at this
    unfold nN
    rw [if_neg h0]
    unfold nM
    simpa using this

theorem cmp_scale {X Y : Nat} (k : Nat) {p q : Nat} (h1 : X * 2 ^ k = p) (h2 : Y * 2 ^ k = q) : cmpI X Y = cmpI p q := by
  have hp := Nat.two_pow_pos k
  rcases cmpI_cases (X : Int) (Y : Int) with h | h | h
  · have : X * 2 ^ k < Y * 2 ^ k := Nat.mul_lt_mul_of_pos_right (by omega) hp
    rw [h.2]; unfold cmpI; rw [if_pos (by omega)]
  · have : Y * 2 ^ k < X * 2 ^ k := Nat.mul_lt_mul_of_pos_right (by omega) hp
    rw [h.2]; unfold cmpI; rw [if_neg (by omega), if_pos (by omega)]
  · have e : X = Y := by omega
    subst e
    rw [h.2]; unfold cmpI; rw [if_neg (by omega), if_neg (by omega)]

theorem ord_num {a b : Nat} (ha : mag a < 9218868437227405312) (hb : mag b < 9218868437227405312) : ordN (nN a) (nM a) (Ie.sE a) (nN b) (nM b) (Ie.sE b) = cmpI (stp a) (stp b) := by
  have sa := sgn_mag a
  have sb := sgn_mag b
  unfold ordN nN
  by_cases a0 : mag a = 0
  · obtain ⟨a1, a2⟩ := num_zero a0
    have ea : stp a = 0 := by omega
    rw [if_pos a0, a1, a2, dlen_zero, sgI_zero, ea]
    by_cases b0 : mag b = 0
    · obtain ⟨b1, b2⟩ := num_zero b0
      have eb : stp b = 0 := by omega
      rw [if_pos b0, b1, dlen_zero, sgI_zero, if_pos rfl, eb, Int.zero_mul]
      decide
    · obtain ⟨b1, -⟩ := num_parts hb b0
      have hd : dlen (nM b) ≠ 0 := fun e => by rw [dlen_eq_zero.1 e] at b1; simp at b1
      rw [if_neg b0, sgI_pos hd]
      rcases sb with ⟨s1, s2⟩ | ⟨s1, s2⟩
      · rw [s2, s1]
        simp only [Bool.false_eq_true, if_false]
        unfold cmpI
        rw [if_neg (by omega), if_pos (by omega), if_pos (by omega)]
      · rw [s2, s1]
        simp only [if_true]
        unfold cmpI
        rw [if_neg (by omega), if_neg (by omega), if_pos (by omega), if_neg (by omega), if_pos (by omega)]
  · obtain ⟨a1, a2, a3, a4, a5⟩ := num_parts ha a0
    have hda : dlen (nM a) ≠ 0 := fun e => by rw [dlen_eq_zero.1 e] at a1; simp at a1
    rw [if_neg a0, sgI_pos hda]
    by_cases b0 : mag b = 0
    · obtain ⟨b1, b2⟩ := num_zero b0
      have eb : stp b = 0 := by omega
      rw [if_pos b0, b1, dlen_zero, sgI_zero, eb]
      rcases sa with ⟨s1, s2⟩ | ⟨s1, s2⟩
      · rw [s2, s1]
        simp only [Bool.false_eq_true, if_false]
        unfold cmpI
        rw [if_neg (by omega), if_neg (by omega), if_pos (by omega), if_neg (by omega), if_pos (by omega)]
      · rw [s2, s1]
        simp only [if_true]
        unfold cmpI
        rw [if_neg (by omega), if_pos (by omega), if_pos (by omega)]
    · obtain ⟨b1, b2, b3, b4, b5⟩ := num_parts hb b0
      have hdb : dlen (nM b) ≠ 0 := fun e => by rw [dlen_eq_zero.1 e] at b1; simp at b1
      rw [if_neg b0, sgI_pos hdb]
      have key : cmpI (nM a * 2 ^ (Ie.sE a - min (Ie.sE a) (Ie.sE b)).toNat : Nat) (nM b * 2 ^ (Ie.sE b - min (Ie.sE a) (Ie.sE b)).toNat : Nat) = cmpI (mag a) (mag b) := by
        have k1 := cmp_scale (X := nM a * 2 ^ (Ie.sE a - min (Ie.sE a) (Ie.sE b)).toNat) (Y := nM b * 2 ^ (Ie.sE b - min (Ie.sE a) (Ie.sE b)).toNat) (min (Ie.sE a) (Ie.sE b) + 1074).toNat (p := val (mag a)) (q := val (mag b))
          (by rw [Nat.mul_assoc, ← Nat.pow_add, ← a5]; congr 2; omega) (by rw [Nat.mul_assoc, ← Nat.pow_add, ← b5]; congr 2; omega)
        rw [k1]
        have g1 := val_lt (mag a) (mag b)
        have g2 := val_lt (mag b) (mag a)
        rcases cmpI_cases (mag a : Int) (mag b : Int) with h | h | h
        · rw [h.2]; unfold cmpI; rw [if_pos (by omega)]
        · rw [h.2]; unfold cmpI; rw [if_neg (by omega), if_pos (by omega)]
        · rw [h.2]; unfold cmpI; rw [if_neg (by omega), if_neg (by omega)]
      rw [key]
      rcases sa with ⟨s1, s2⟩ | ⟨s1, s2⟩ <;> rcases sb with ⟨t1, t2⟩ | ⟨t1, t2⟩ <;> rw [s1, s2, t1, t2]
      · simp only [Bool.false_eq_true, if_false, if_true]
        omega
      · simp only [Bool.false_eq_true, if_false, if_true]
        rw [if_neg (by omega)]
        unfold cmpI
        rw [if_neg (by omega), if_pos (by omega), if_neg (by omega), if_pos (by omega)]
      · simp only [Bool.false_eq_true, if_false, if_true]
        rw [if_neg (by omega)]
        unfold cmpI
        rw [if_pos (by omega), if_pos (by omega)]
      · simp only [if_true]
        rcases cmpI_cases (mag a : Int) (mag b : Int) with h | h | h
        · rw [h.2]; unfold cmpI; rw [if_neg (by omega), if_pos (by omega)]; rfl
        · rw [h.2]; unfold cmpI; rw [if_pos (by omega)]; rfl
        · rw [h.2]; unfold cmpI; rw [if_neg (by omega), if_neg (by omega)]; rfl

theorem dyadFloats_ok (a b : Nat) (w : World) (ha : a < 18446744073709551616) (hb : b < 18446744073709551616) (hT : Tab32 w) (hI : Ie.Tab w) (h10 : Tab10 w) :
    Calls Tryz.prog 6 #[.float .f64 a, .float .f64 b] w fun r w' => r = .returned (.bool true) ∧ Below w.heap.size w w' := by
  have k14 : ∀ W, Below w.heap.size w W → Calls Tryz.prog 14 #[] W fun r w' => r = .returned (.bool true) ∧ Below W.heap.size W w' := fun W hW => works_ok W (hT.later hW) (Tab.later hI hW) (h10.later hW)
  have hfin : ∀ c, c < 18446744073709551616 → mag c < 9218868437227405312 → ∀ W, Below w.heap.size w W → Calls Tryz.prog 9 #[.float .f64 c] W fun r w' => ∃ s ao l cap ex, r = .returned (.tuple #[.agg #[.bool s, .slice ao l cap, .int .i64 ex], .int .i64 0]) ∧ (∃ base, Nrm w' base (.agg #[.bool s, .slice ao l cap, .int .i64 ex]) (neg c) (nM c) (Ie.sE c)) ∧ Below W.heap.size W w' := fun c hc hf W hW => by
    obtain ⟨m, hm, hml⟩ := sM_lt c hc
    have e : nM c = m := by unfold nM; rw [hm]; rfl
    rw [e]
    refine (of_fin c m hc W (hT.later hW) (Tab.later hI hW) hf hm).mono ?_
    rintro r w' ⟨A, rfl, hN, hb⟩
    obtain ⟨s, ao, l, cap, ex, rfl⟩ := hN.shape
    exact ⟨_, _, _, _, _, rfl, ⟨_, hN⟩, hb⟩
  have herr : ∀ c, c < 18446744073709551616 → ¬ mag c < 9218868437227405312 → ∃ er : Int, er ≠ 0 ∧ ∀ W, Below w.heap.size w W → Calls Tryz.prog 9 #[.float .f64 c] W fun r w' => ∃ s ao l cap ex, r = .returned (.tuple #[.agg #[.bool s, .slice ao l cap, .int .i64 ex], .int .i64 er]) ∧ Below W.heap.size W w' := fun c hc hf => by
    rcases Nat.lt_or_ge 9218868437227405312 (mag c) with h | h
    · refine ⟨4, by omega, fun W hW => (of_nan c hc W (Tab.later hI hW) h).mono ?_⟩
      rintro r w' ⟨rfl, hb⟩
      exact ⟨_, _, _, _, _, rfl, hb⟩
    · refine ⟨5, by omega, fun W hW => (of_inf c hc W (Tab.later hI hW) (by omega)).mono ?_⟩
      rintro r w' ⟨rfl, hb⟩
      exact ⟨_, _, _, _, _, rfl, hb⟩
  by_cases fa : mag a < 9218868437227405312
  · by_cases fb : mag b < 9218868437227405312
    · have na : isNaN a = false := by unfold isNaN; exact decide_eq_false (by omega)
      have nb : isNaN b = false := by unfold isNaN; exact decide_eq_false (by omega)
      have hL := ord_lt a b ha hb
      have hG := ord_gt a b ha hb
      have eL : lt a b = decide (stp a < stp b) := by unfold lt; rw [na, nb]; simp
      have eG : lt b a = decide (stp b < stp a) := by unfold lt; rw [na, nb]; simp
      refine law6_main a b (if mag a = 0 then 0 else a) (ordN (nN a) (nM a) (Ie.sE a) (nN b) (nM b) (Ie.sE b)) _ _ w (fun W v => ∃ base, Nrm W base v (neg a) (nM a) (Ie.sE a)) (fun W v => ∃ base, Nrm W base v (neg b) (nM b) (Ie.sE b))
        (fun w w' v hb ⟨c, h⟩ => ⟨c, h.later hb⟩) (fun w w' v hb ⟨c, h⟩ => ⟨c, h.later hb⟩) hL hG ?_ (fun w => run_add_nought w 22 a ha fa) (hfin a ha fa w (Below.refl _ _)) (hfin b hb fb) ?_ ?_ k14
      · rw [ord_num fa fb, eL, eG]
        unfold cmpI
        by_cases h1 : stp a < stp b
        · simp [h1]
        · by_cases h2 : stp b < stp a
          · simp [h1, h2]
          · simp [h1, h2]
      · rintro W A m hW ⟨c, hN⟩ hm1 hm3
        obtain ⟨ao, cap, rfl, hi⟩ := num_of fa hN
        have hl : dlen (nM a) ≤ 2 := by
          by_cases h0 : mag a = 0
          · rw [(num_zero h0).1, dlen_zero]; omega
          · have := (num_parts fa h0).2.1
            exact (dlen_le 2 _).2 (by unfold B; omega)
        have he : -2000 ≤ Ie.sE a ∧ Ie.sE a ≤ 2000 := by
          by_cases h0 : mag a = 0
          · rw [(num_zero h0).2]; omega
          · have := num_parts fa h0; omega
        refine c24_1 (nN a) ao _ cap _ (Ie.sE a) m W (fun W' g hW' hg => ?_) (fun W' => c48 m (by omega) W') (fun W' hW' => ?_)
        · have := maybe1 hg (hi.later hW') (by omega)
          rw [num_ok fa] at this
          exact this
        · have := c106 (neg := nN a) (e := Ie.sE a) (mode := m) ((hT.later hW).later hW') (hi.later hW') (by omega) (by omega) (by omega)
          rw [tf_back ha fa m (by omega)] at this
          exact this
      · rintro W A C ⟨c, hN⟩ ⟨d, hN'⟩
        obtain ⟨ao, cap, rfl, hi⟩ := num_of fa hN
        obtain ⟨bo, cap', rfl, hi'⟩ := num_of fb hN'
        have hlen : ∀ c, mag c < 9218868437227405312 → dlen (nM c) ≤ 2 ∧ -2000 ≤ Ie.sE c ∧ Ie.sE c ≤ 2000 := fun c fc => by
          by_cases h0 : mag c = 0
          · rw [(num_zero h0).1, (num_zero h0).2, dlen_zero]; omega
          · have h := num_parts fc h0
            exact ⟨(dlen_le 2 _).2 (by unfold B; omega), by omega, by omega⟩
        have l1 := hlen a fa
        have l2 := hlen b fb
        exact cmp_ok hi hi' (by omega) (by omega) (by omega) (by omega) (num_ok fa) (num_ok fb)
    · obtain ⟨er, h0, k⟩ := herr b hb fb
      refine law6_err a b 0 er w (.inr ⟨rfl, h0⟩) ((hfin a ha fa w (Below.refl _ _)).mono ?_) k k14
      rintro r w' ⟨s, ao, l, cap, ex, rfl, -, hb⟩
      exact ⟨_, _, _, _, _, rfl, hb⟩
  · obtain ⟨er, h0, k⟩ := herr a ha fa
    by_cases fb : mag b < 9218868437227405312
    · refine law6_err a b er 0 w (.inl h0) (k w (Below.refl _ _)) (fun W hW => (hfin b hb fb W hW).mono ?_) k14
      rintro r w' ⟨s, ao, l, cap, ex, rfl, -, hb⟩
      exact ⟨_, _, _, _, _, rfl, hb⟩
    · obtain ⟨er', h0', k'⟩ := herr b hb fb
      exact law6_err a b er er' w (.inl h0) (k w (Below.refl _ _)) k' k14
end Go.Proofs.YtceoeiojoffnnaaGreatDoor
