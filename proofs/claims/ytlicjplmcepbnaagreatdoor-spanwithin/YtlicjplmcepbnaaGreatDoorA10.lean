/- Own work: contracts of the program's functions, part 10: L15 SE1 SE2 SB7 SE3 SF1 SF2 SF3 SF4 SG1 SG2 PRG SNP SN1 SN2 SN3 SN4. -/
import Derived.Test.YtlicjplmcepbnaaGreatDoorA8
import Derived.Test.YtlicjplmcepbnaaGreatDoorA9
import Derived.Test.YtlicjplmcepbnaaGreatDoorA5
import Derived.Test.YtlicjplmcepbnaaGreatDoorA7

/- DyadOrder. -/
namespace Go.Proofs.YtlicjplmcepbnaaGreatDoor
set_option linter.unusedVariables false
set_option linter.unusedSimpArgs false
open Go.RowKit Go.Fl64

/-- what is rounded of two numbers is in their order -/
theorem ord_round {K : Nat} (hK : 70000 ≤ K) {s t : Bool} {x y : Nat} {e f m : Int} (hx : Ok (s, x, e)) (hy : Ok (t, y, f)) (hm : 1 ≤ m ∧ m ≤ 3) (h : vz K s x e ≤ vz K t y f) : stp (tfF s true x e m) ≤ stp (tfF t true y f m) := by
  have f1 := hx.facts
  have f2 := hy.facts
  simp only at f1 f2
  rw [tf_bdy hm, tf_bdy hm, (stp_sig (bdy_le _ _ _)).1, (stp_sig (bdy_le _ _ _)).1]
  rw [vz_VA, vz_VA] at h
  have z1 : VA K x e = 0 → x = 0 := fun h0 => Decidable.byContradiction fun hne => by have := VA_ne (K := K) (e := e) hne; omega
  have z2 : VA K y f = 0 → y = 0 := fun h0 => Decidable.byContradiction fun hne => by have := VA_ne (K := K) (e := f) hne; omega
  cases s
  · cases t
    · simp only [sv] at h ⊢
      have := bdy_mono hK f1.2.1 f2.2.1 (wyN_ways false m) (show VA K x e ≤ VA K y f by simpa using h)
      simpa using this
    · simp only [sv] at h
      have h1 : VA K y f = 0 := by simp at h; omega
      have := f2.2.2.2.1 (z2 h1)
      simp at this
  · cases t
    · have h1 : (0 : Int) ≤ ((bdy x e (wyN true m) : Nat) : Int) := Int.natCast_nonneg _
      have h2 : (0 : Int) ≤ ((bdy y f (wyN false m) : Nat) : Int) := Int.natCast_nonneg _
      show -((bdy x e (wyN true m) : Nat) : Int) ≤ ((bdy y f (wyN false m) : Nat) : Int)
      omega
    · simp only [sv] at h ⊢
      have := bdy_mono hK f2.2.1 f1.2.1 (wyN_ways true m) (show VA K y f ≤ VA K x e by simp at h; omega)
      simp
      exact_mod_cast this
theorem order_modes {K : Nat} (hK : 70000 ≤ K) {s : Bool} {x : Nat} {e : Int} (hx : Ok (s, x, e)) : stp (tfF s true x e 1) ≤ stp (tfF s true x e 2) ∧ stp (tfF s true x e 2) ≤ stp (tfF s true x e 3) ∧
    (mag (tfF s true x e 1) < 9218868437227405312 → vz K (nN (tfF s true x e 1)) (nM (tfF s true x e 1)) (Ie.sE (tfF s true x e 1)) ≤ vz K s x e) ∧
    (mag (tfF s true x e 3) < 9218868437227405312 → vz K s x e ≤ vz K (nN (tfF s true x e 3)) (nM (tfF s true x e 3)) (Ie.sE (tfF s true x e 3))) ∧
    (stp (tfF s true x e 1) = stp (tfF s true x e 3) → mag (tfF s true x e 1) < 9218868437227405312 → vz K (nN (tfF s true x e 1)) (nM (tfF s true x e 1)) (Ie.sE (tfF s true x e 1)) = vz K s x e) := by
  have f1 := hx.facts
  simp only at f1
  obtain ⟨o1, o2, o3, o4, o5, o6⟩ := bdy_order hK (x := x) (e := e) f1.2.1
  have w1 : tfF s true x e 1 = sig s (bdy x e (if s then 2 else 0)) := by rw [tf_bdy (by omega)]; cases s <;> rfl
  have w2 : tfF s true x e 2 = sig s (bdy x e 1) := by rw [tf_bdy (by omega)]; rfl
  have w3 : tfF s true x e 3 = sig s (bdy x e (if s then 0 else 2)) := by rw [tf_bdy (by omega)]; cases s <;> rfl
  have s1 := stp_sig (s := s) (bdy_le x e (if s then 2 else 0))
  have s2 := stp_sig (s := s) (bdy_le x e 1)
  have s3 := stp_sig (s := s) (bdy_le x e (if s then 0 else 2))
  have m1 := mag_sig (s := s) (bdy_le x e (if s then 2 else 0))
  have m3 := mag_sig (s := s) (bdy_le x e (if s then 0 else 2))
  rw [w1, w2, w3, s1.1, s2.1, s3.1, m1.1, m3.1]
  refine ⟨?_, ?_, fun hf => ?_, fun hf => ?_, fun he hf => ?_⟩
  · cases s <;> simp [sv] <;> omega
  · cases s <;> simp [sv] <;> omega
  · rw [vz_num hK (by rw [m1.1]; exact hf), m1.1, m1.2.1, vz_VA]
    cases s
    · simp only [sv]; simp; exact_mod_cast o4
    · simp only [sv]; simp; exact_mod_cast o5 hf
  · rw [vz_num hK (by rw [m3.1]; exact hf), m3.1, m3.2.1, vz_VA]
    cases s
    · simp only [sv]; simp; exact_mod_cast o5 hf
    · simp only [sv]; simp; exact_mod_cast o4
  · rw [vz_num hK (by rw [m1.1]; exact hf), m1.1, m1.2.1, vz_VA]
    cases s
    · have he' : bdy x e 0 = bdy x e 2 := by simp [sv] at he; exact_mod_cast he
      show sv false (bv (bdy x e 0) * UU K) = sv false (VA K x e)
      rw [o6 he']
    · have he' : bdy x e 0 = bdy x e 2 := by simp [sv] at he; have h2 : bdy x e 2 = bdy x e 0 := by exact_mod_cast he
                                             exact h2.symm
      show sv true (bv (bdy x e 2) * UU K) = sv true (VA K x e)
      rw [o6 he', he']
end Go.Proofs.YtlicjplmcepbnaaGreatDoor
/- The program's Fma of floats. -/
namespace Go.Proofs.YtlicjplmcepbnaaGreatDoor
set_option linter.unusedVariables false
set_option linter.unusedSimpArgs false
open Go.RowKit Go.Fl64

end Go.Proofs.YtlicjplmcepbnaaGreatDoor
/- The document's Fma of floats. -/
namespace Go.Proofs.YtlicjplmcepbnaaGreatDoor
set_option linter.unusedVariables false
set_option linter.unusedSimpArgs false
open Go.RowKit Go.Fl64

end Go.Proofs.YtlicjplmcepbnaaGreatDoor
/- The law's own test answers true; RoundSums. -/
namespace Go.Proofs.YtlicjplmcepbnaaGreatDoor
set_option linter.unusedVariables false
set_option linter.unusedSimpArgs false
open Go.RowKit Go.Fl64

end Go.Proofs.YtlicjplmcepbnaaGreatDoor
/- Fma of floats: the program and the document answer alike. -/
namespace Go.Proofs.YtlicjplmcepbnaaGreatDoor
set_option linter.unusedVariables false
set_option linter.unusedSimpArgs false
open Go.RowKit Go.Fl64

theorem nan_sig {s : Bool} {n : Nat} (h : n ≤ 9218868437227405312) : isNaN (sig s n) = false := by
  unfold isNaN sig mag
  cases s <;> simp <;> omega
end Go.Proofs.YtlicjplmcepbnaaGreatDoor
/- What is rounded down and up are the same or neighbours; the float above. -/
namespace Go.Proofs.YtlicjplmcepbnaaGreatDoor
set_option linter.unusedVariables false
set_option linter.unusedSimpArgs false
open Go.RowKit Go.Fl64

theorem Rounds.step {A u b0 b2 : Nat} (h0 : Rounds A u b0 0) (h2 : Rounds A u b2 2) : b0 ≤ b2 ∧ b2 ≤ b0 + 1 := by
  obtain ⟨c0, ⟨p1, p2⟩, q0, -, -⟩ := h0.fl
  obtain ⟨c2, ⟨r1, r2⟩, -, s2, -⟩ := h2.fl
  have e0 := q0 rfl
  have e2 := s2 rfl
  have h1 := floor_mono (Nat.le_refl A) p1 r2
  have h3 := floor_mono (Nat.le_refl A) r1 p2
  have : c0 = c2 := by omega
  subst this
  rw [e0, e2]
  split <;> omega
theorem bdy_step {x : Nat} {e : Int} (he : -65536 ≤ e) : bdy x e 2 ≤ bdy x e 0 + 1 := by
  by_cases hx : x = 0
  · unfold bdy; rw [if_pos hx, if_pos hx]; omega
  · obtain ⟨h1, h2⟩ := Rounds.step (VA_rounds (K := 70000) (by omega) hx he) (VA_rounds (K := 70000) (by omega) hx he)
    unfold bdy
    rw [if_neg hx, if_neg hx]
    by_cases g0 : rwb x e 0 < 9218868437227405312
    · rw [if_pos g0]
      by_cases g2 : rwb x e 2 < 9218868437227405312
      · rw [if_pos g2]; omega
      · rw [if_neg g2, if_neg (by decide)]; omega
    · rw [if_neg g0, if_pos rfl, if_neg (by omega), if_neg (by decide)]; omega
end Go.Proofs.YtlicjplmcepbnaaGreatDoor
/- The law's 'between': in order, the same or neighbours, on both sides of the exact value. -/
namespace Go.Proofs.YtlicjplmcepbnaaGreatDoor
set_option linter.unusedVariables false
set_option linter.unusedSimpArgs false
open Go.RowKit Go.Fl64

end Go.Proofs.YtlicjplmcepbnaaGreatDoor
/- RoundHolds: the law's walk. -/
namespace Go.Proofs.YtlicjplmcepbnaaGreatDoor
set_option linter.unusedVariables false
set_option linter.unusedSimpArgs false
open Go.RowKit Go.Fl64

end Go.Proofs.YtlicjplmcepbnaaGreatDoor
/- RoundHolds. -/
namespace Go.Proofs.YtlicjplmcepbnaaGreatDoor
set_option linter.unusedVariables false
set_option linter.unusedSimpArgs false
open Go.RowKit Go.Fl64

/-- a finite float's number, by its bits -/
theorem vz_tF {a : Nat} (ha : a < 18446744073709551616) (hf : mag a < 9218868437227405312) : vz 70000 (tF a).1 (tF a).2.1 (tF a).2.2 = sv (neg a) (bv (mag a) * UU 70000) := by
  obtain ⟨m, hm, -⟩ := sM_lt a ha
  have e : nM a = m := by unfold nM; rw [hm]; rfl
  have hE : -1074 ≤ Ie.sE a := by
    by_cases h0 : mag a = 0
    · rw [(num_zero h0).2]; omega
    · exact (num_parts hf h0).2.2.1
  rw [← cn_parts a m ha hf hm, vz_cn (by omega), ← vz_num (K := 70000) (by omega) hf, e]
  unfold nN
  by_cases h0 : mag a = 0
  · have : nM a = 0 := (num_zero h0).1
    rw [← e, this]
    unfold vz
    rw [sv_zero, sv_zero]
  · rw [if_neg h0]

theorem cmpI_le {a b : Int} (h : a ≤ b) : cmpI a b ≤ 0 := by
  unfold cmpI
  split
  · omega
  · split <;> omega

end Go.Proofs.YtlicjplmcepbnaaGreatDoor
/- What a root or a quotient rounded down and up is held against. -/
namespace Go.Proofs.YtlicjplmcepbnaaGreatDoor
set_option linter.unusedVariables false
set_option linter.unusedSimpArgs false
open Go.RowKit Go.Fl64

/-- a number with digits laid behind it, the last one set: it rounds as 'not exact' -/
theorem tf_fine {s : Bool} {q D r : Nat} {h m : Int} (hq : 64 ≤ bl q) (hr0 : r ≠ 0) (hr : r < 2 ^ D) : tfF s false q h m = tfF s true (q * 2 ^ D + r) (h - D) m := by
  have hp := Nat.two_pow_pos D
  have e1 : (q * 2 ^ D + r) / 2 ^ D = q := by rw [Nat.add_comm, Nat.add_mul_div_right _ _ hp, Nat.div_eq_of_lt hr, Nat.zero_add]
  have e2 : (q * 2 ^ D + r) % 2 ^ D = r := by rw [Nat.add_comm, Nat.add_mul_mod_self_right, Nat.mod_eq_of_lt hr]
  have := tf_cut (s := s) (Z := q * 2 ^ D + r) (n := D) (E := h - D) (m := m) (by rw [e1]; exact hq) (by rw [e2]; exact hr0)
  rw [e1, show h - (D : Int) + (D : Int) = h by omega] at this
  exact this.symm

theorem mult_le {a b P : Nat} (ha : P ∣ a) (hb : P ∣ b) (h : a < b + P) : a ≤ b := by
  obtain ⟨c, rfl⟩ := ha
  obtain ⟨d, rfl⟩ := hb
  rcases Nat.lt_or_ge d c with hlt | hge
  · have : P * (d + 1) ≤ P * c := Nat.mul_le_mul_left P hlt
    rw [Nat.mul_add, Nat.mul_one] at this
    omega
  · exact Nat.mul_le_mul_left P hge
theorem mult_le2 {a b c : Nat} (ha : 2 ^ (c + 1) ∣ a) (hb : 2 ^ (c + 1) ∣ b) (h : a ≤ b + 2 ^ c) : a ≤ b := by
  refine mult_le ha hb ?_
  have h1 : 2 ^ (c + 1) = 2 * 2 ^ c := by rw [Nat.pow_succ]; omega
  have h2 := Nat.two_pow_pos c
  omega
theorem pow_dvd' {a b : Nat} (h : a ≤ b) : 2 ^ a ∣ 2 ^ b := Nat.pow_dvd_pow 2 h

theorem UU_dvd {c K : Nat} (h : c + 1 ≤ K - 1074) : 2 ^ (c + 1) ∣ UU K := pow_dvd' h
/-- rounded down: not above -/
theorem tf_down {q : Nat} {h : Int} (ex : Bool) (hq : 64 ≤ bl q) (h1 : -40000 ≤ h) (h2 : h ≤ 70000) : bv (mag (tfF false ex q h 1)) * UU 70000 ≤ q * 2 ^ (h + 70000).toNat ∧ mag (tfF false ex q h 1) < 9218868437227405312 := by
  obtain ⟨c, hc⟩ : ∃ c : Nat, c = 4464 := ⟨_, rfl⟩
  cases ex
  · have e := tf_fine (s := false) (q := q) (D := (h + 65536).toNat) (r := 1) (h := h) (m := 1) hq (by omega) (Nat.one_lt_two_pow (by omega))
    have eh : h - ((h + 65536).toNat : Int) = -65536 := by omega
    rw [eh] at e
    rw [e, tf_bdy (by omega), show wyN false 1 = 0 from rfl, (mag_sig (bdy_le _ _ _)).1]
    obtain ⟨-, -, o3, o4, -, -⟩ := bdy_order (K := 70000) (by omega) (x := q * 2 ^ (h + 65536).toNat + 1) (e := -65536) (by omega)
    refine ⟨?_, o3⟩
    unfold VA at o4
    rw [show ((-65536 : Int) + ((70000 : Nat) : Int)).toNat = c by rw [hc]; decide, Nat.add_mul, Nat.mul_assoc, ← Nat.pow_add, show (h + 65536).toNat + c = (h + 70000).toNat by omega, Nat.one_mul] at o4
    refine mult_le2 (c := c) ?_ ?_ o4
    · exact Nat.dvd_mul_left_of_dvd (UU_dvd (by omega)) _
    · exact Nat.dvd_mul_left_of_dvd (pow_dvd' (by omega)) _
  · rw [tf_bdy (by omega), show wyN false 1 = 0 from rfl, (mag_sig (bdy_le _ _ _)).1]
    obtain ⟨-, -, o3, o4, -, -⟩ := bdy_order (K := 70000) (by omega) (x := q) (e := h) (by omega)
    refine ⟨?_, o3⟩
    unfold VA at o4
    exact o4
/-- rounded up: not below -/
theorem tf_above {q : Nat} {h : Int} (ex : Bool) (hq : 64 ≤ bl q) (h1 : -40000 ≤ h) (h2 : h ≤ 70000) (hf : mag (tfF false ex q h 3) < 9218868437227405312) : (if ex then q else q + 1) * 2 ^ (h + 70000).toNat ≤ bv (mag (tfF false ex q h 3)) * UU 70000 := by
  obtain ⟨c, hc⟩ : ∃ c : Nat, c = 4464 := ⟨_, rfl⟩
  cases ex
  · have hD : 1 < 2 ^ (h + 65536).toNat := Nat.one_lt_two_pow (by omega)
    have e := tf_fine (s := false) (q := q) (D := (h + 65536).toNat) (r := 2 ^ (h + 65536).toNat - 1) (h := h) (m := 3) hq (by omega) (by omega)
    have eh : h - ((h + 65536).toNat : Int) = -65536 := by omega
    rw [eh] at e
    rw [e, tf_bdy (by omega), show wyN false 3 = 2 from rfl, (mag_sig (bdy_le _ _ _)).1] at hf ⊢
    obtain ⟨-, -, -, -, o5, -⟩ := bdy_order (K := 70000) (by omega) (x := q * 2 ^ (h + 65536).toNat + (2 ^ (h + 65536).toNat - 1)) (e := -65536) (by omega)
    have o5' := o5 hf
    unfold VA at o5'
    rw [show ((-65536 : Int) + ((70000 : Nat) : Int)).toNat = c by rw [hc]; decide] at o5'
    rw [if_neg (by decide)]
    refine mult_le2 (c := c) ?_ ?_ ?_
    · exact Nat.dvd_mul_left_of_dvd (pow_dvd' (by omega)) _
    · exact Nat.dvd_mul_left_of_dvd (UU_dvd (by omega)) _
    · have e2 : (q * 2 ^ (h + 65536).toNat + (2 ^ (h + 65536).toNat - 1)) * 2 ^ c + 2 ^ c = (q + 1) * 2 ^ (h + 70000).toNat := by
        rw [show (h + 70000).toNat = (h + 65536).toNat + c by omega, Nat.pow_add, ← Nat.mul_assoc]
        have : q * 2 ^ (h + 65536).toNat + (2 ^ (h + 65536).toNat - 1) + 1 = (q + 1) * 2 ^ (h + 65536).toNat := by rw [Nat.add_mul]; omega
        rw [← this, Nat.add_mul _ 1, Nat.one_mul]
      rw [← e2]
      exact Nat.add_le_add_right o5' _
  · rw [tf_bdy (by omega), show wyN false 3 = 2 from rfl, (mag_sig (bdy_le _ _ _)).1] at hf ⊢
    obtain ⟨-, -, -, -, o5, -⟩ := bdy_order (K := 70000) (by omega) (x := q) (e := h) (by omega)
    have o5' := o5 hf
    unfold VA at o5'
    rw [if_pos rfl]
    exact o5'
/-- the two are the same or neighbours -/
theorem tf_pair {q : Nat} {h : Int} (ex : Bool) (hq : 64 ≤ bl q) (h1 : -40000 ≤ h) : stp (tfF false ex q h 1) ≤ stp (tfF false ex q h 3) ∧ stp (tfF false ex q h 3) ≤ stp (tfF false ex q h 1) + 1 ∧ isNaN (tfF false ex q h 1) = false ∧ isNaN (tfF false ex q h 3) = false := by
  have key : ∀ (x : Nat) (e : Int), -65536 ≤ e → stp (tfF false true x e 1) ≤ stp (tfF false true x e 3) ∧ stp (tfF false true x e 3) ≤ stp (tfF false true x e 1) + 1 ∧ isNaN (tfF false true x e 1) = false ∧ isNaN (tfF false true x e 3) = false := fun x e he => by
    obtain ⟨o1, o2, -⟩ := bdy_order (K := 70000) (by omega) (x := x) (e := e) he
    have o3 := bdy_step (x := x) he
    rw [tf_bdy (by omega), tf_bdy (by omega), show wyN false 1 = 0 from rfl, show wyN false 3 = 2 from rfl, (stp_sig (bdy_le _ _ _)).1, (stp_sig (bdy_le _ _ _)).1]
    refine ⟨?_, ?_, nan_sig (bdy_le _ _ _), nan_sig (bdy_le _ _ _)⟩
    · show ((bdy x e 0 : Nat) : Int) ≤ ((bdy x e 2 : Nat) : Int); omega
    · show ((bdy x e 2 : Nat) : Int) ≤ ((bdy x e 0 : Nat) : Int) + 1; omega
  cases ex
  · rw [tf_sticky hq, tf_sticky hq]; exact key _ _ (by omega)
  · exact key _ _ (by omega)
end Go.Proofs.YtlicjplmcepbnaaGreatDoor
/- Roots and quotients of floats, rounded down and up: squared, multiplied, they lie on both sides. -/
namespace Go.Proofs.YtlicjplmcepbnaaGreatDoor
set_option linter.unusedVariables false
set_option linter.unusedSimpArgs false
open Go.RowKit Go.Fl64

/-- a number's size in units of 2 ^ -K, of one that is not below nought -/
theorem vz_posG {K x : Nat} {e : Int} : vz K false x e = ((x * 2 ^ (e + K).toNat : Nat) : Int) := by
  unfold vz sv
  simp
/-- the float of a finite one that is not below nought -/
theorem vz_flt {a : Nat} (ha : a < 18446744073709551616) (hf : mag a < 9218868437227405312) (hn : neg a = false) : vz 70000 (tF a).1 (tF a).2.1 (tF a).2.2 = ((bv (mag a) * UU 70000 : Nat) : Int) := by
  rw [vz_tF ha hf, hn]; rfl
theorem vz_tM {t1 t2 : Bool × Nat × Int} (o1 : Ok t1) (o2 : Ok t2) : vz (70000 + 70000) (tM t1 t2).1 (tM t1 t2).2.1 (tM t1 t2).2.2 = vz 70000 t1.1 t1.2.1 t1.2.2 * vz 70000 t2.1 t2.2.1 t2.2.2 := by
  have f1 := o1.facts
  have f2 := o2.facts
  unfold tM
  rw [vz_cn (by omega), vz_mul (by omega) (by omega)]
theorem ordN_le {t1 t2 : Bool × Nat × Int} {K : Nat} (h1 : 0 ≤ t1.2.2 + K) (h2 : 0 ≤ t2.2.2 + K) (h : vz K t1.1 t1.2.1 t1.2.2 ≤ vz K t2.1 t2.2.1 t2.2.2) : ordN t1.1 t1.2.1 t1.2.2 t2.1 t2.2.1 t2.2.2 ≤ 0 := by
  rw [ordN_vz h1 h2]; exact cmpI_le h
theorem ordN_ge {t1 t2 : Bool × Nat × Int} {K : Nat} (h1 : 0 ≤ t1.2.2 + K) (h2 : 0 ≤ t2.2.2 + K) (h : vz K t2.1 t2.2.1 t2.2.2 ≤ vz K t1.1 t1.2.1 t1.2.2) : 0 ≤ ordN t1.1 t1.2.1 t1.2.2 t2.1 t2.2.1 t2.2.2 := by
  rw [ordN_vz h1 h2]
  unfold cmpI
  split
  · omega
  · split <;> omega

theorem sq_le {q x k A C : Nat} (h : q * q ≤ x * 2 ^ k) (hC : C = k + A + A) : (q * 2 ^ A) * (q * 2 ^ A) ≤ x * 2 ^ C := by
  have e1 : (q * 2 ^ A) * (q * 2 ^ A) = (q * q) * (2 ^ A * 2 ^ A) := Nat.mul_mul_mul_comm _ _ _ _
  have e2 : x * 2 ^ C = (x * 2 ^ k) * (2 ^ A * 2 ^ A) := by rw [hC, Nat.pow_add, Nat.pow_add, Nat.mul_assoc, Nat.mul_assoc]
  rw [e1, e2]
  exact Nat.mul_le_mul_right _ h
theorem sq_ge {Z x k A C : Nat} (h : x * 2 ^ k ≤ Z * Z) (hC : C = k + A + A) : x * 2 ^ C ≤ (Z * 2 ^ A) * (Z * 2 ^ A) := by
  have e1 : (Z * 2 ^ A) * (Z * 2 ^ A) = (Z * Z) * (2 ^ A * 2 ^ A) := Nat.mul_mul_mul_comm _ _ _ _
  have e2 : x * 2 ^ C = (x * 2 ^ k) * (2 ^ A * 2 ^ A) := by rw [hC, Nat.pow_add, Nat.pow_add, Nat.mul_assoc, Nat.mul_assoc]
  rw [e1, e2]
  exact Nat.mul_le_mul_right _ h
theorem tf_pos {ex : Bool} {q : Nat} {h m : Int} (hm : 1 ≤ m ∧ m ≤ 3) (hq : 64 ≤ bl q) : neg (tfF false ex q h m) = false ∧ tfF false ex q h m < 18446744073709551616 := by
  refine ⟨?_, tfF_lt' hm⟩
  cases ex
  · rw [tf_sticky hq, tf_bdy hm]; exact (mag_sig (bdy_le _ _ _)).2.1
  · rw [tf_bdy hm]; exact (mag_sig (bdy_le _ _ _)).2.1
theorem bdy_602 : bdy 1 602 2 < 9218868437227405312 := by decide +kernel
/-- a value of no more than 2 ^ 600 rounds to a finite float -/
theorem tf_fin {ex : Bool} {q K : Nat} {h : Int} (hK : K = 70000) (hq : 64 ≤ bl q) (h1 : -40000 ≤ h) (hv : q * 2 ^ (h + K).toNat ≤ 2 ^ (600 + K)) : mag (tfF false ex q h 3) < 9218868437227405312 := by
  have key : ∀ (x : Nat) (e : Int), -65536 ≤ e → VA K x e ≤ 2 ^ (602 + K) → mag (tfF false true x e 3) < 9218868437227405312 := fun x e he hb => by
    rw [tf_bdy (by omega), show wyN false 3 = 2 from rfl, (mag_sig (bdy_le _ _ _)).1]
    have hm := bdy_mono (K := K) (by omega) (x := x) (y := 1) (e := e) (f := 602) (way := 2) he (by omega) (by omega) (by
      have : VA K 1 602 = 2 ^ (602 + K) := by unfold VA; rw [Nat.one_mul]; congr 1
      rw [this]; exact hb)
    exact Nat.lt_of_le_of_lt hm bdy_602
  have hq0 : 1 ≤ q := by
    rcases Nat.eq_zero_or_pos q with h | h
    · rw [h] at hq; simp [bl] at hq
    · exact h
  have e4 : 2 ^ (602 + K) = 4 * 2 ^ (600 + K) := by rw [show 602 + K = (600 + K) + 2 by omega, Nat.pow_add]; omega
  have hpp := Nat.two_pow_pos (600 + K)
  cases ex
  · rw [tf_sticky hq]
    refine key _ _ (by omega) ?_
    unfold VA
    obtain ⟨A, hA⟩ : ∃ A : Nat, (h + K).toNat = A + 1 := ⟨(h + K).toNat - 1, by omega⟩
    rw [show (h - 1 + (K : Int)).toNat = A by omega]
    rw [hA, Nat.pow_succ] at hv
    have hp := Nat.two_pow_pos A
    have h3 : (2 * q + 1) * 2 ^ A ≤ (4 * q) * 2 ^ A := Nat.mul_le_mul_right _ (by omega)
    have h4 : (4 * q) * 2 ^ A = 2 * (q * (2 ^ A * 2)) := by rw [Nat.mul_assoc 4 q, show q * (2 ^ A * 2) = 2 * (q * 2 ^ A) by rw [← Nat.mul_assoc]; omega]; omega
    omega
  · refine key _ _ (by omega) ?_
    unfold VA
    omega

/-- the root, rounded -/
def sqV (a q : Nat) (m : Int) : Nat := tfF false (decide (q * q = (tF a).2.1 * 2 ^ sqK (tF a))) q (((tF a).2.2 - (sqK (tF a) : Int)).tdiv 2) m

theorem sq_facts {a q : Nat} (ha : a < 18446744073709551616) (hp : pln a = true) (hn : neg a = false) (a1 : q * q ≤ (tF a).2.1 * 2 ^ sqK (tF a)) (a2 : (tF a).2.1 * 2 ^ sqK (tF a) < (q + 1) * (q + 1)) :
    mag (sqV a q 1) < 9218868437227405312 ∧ mag (sqV a q 3) < 9218868437227405312 ∧ stp (sqV a q 1) ≤ stp (sqV a q 3) ∧ stp (sqV a q 3) ≤ stp (sqV a q 1) + 1 ∧ isNaN (sqV a q 1) = false ∧ isNaN (sqV a q 3) = false ∧ neg (sqV a q 1) = false ∧ neg (sqV a q 3) = false ∧
    ordN (tM (tF (sqV a q 1)) (tF (sqV a q 1))).1 (tM (tF (sqV a q 1)) (tF (sqV a q 1))).2.1 (tM (tF (sqV a q 1)) (tF (sqV a q 1))).2.2 (tF a).1 (tF a).2.1 (tF a).2.2 ≤ 0 ∧
    0 ≤ ordN (tM (tF (sqV a q 3)) (tF (sqV a q 3))).1 (tM (tF (sqV a q 3)) (tF (sqV a q 3))).2.1 (tM (tF (sqV a q 3)) (tF (sqV a q 3))).2.2 (tF a).1 (tF a).2.1 (tF a).2.2 := by
  obtain ⟨hf, h0⟩ := pln_true.1 hp
  have hx0 := tF_ne h0
  have hok := tF_ok a
  have hF := tF_fits a
  have hev := sqK_even (tF a)
  have hbig := sqK_big (tF a)
  have fa := hok.facts
  have hs := tF_pos hn
  have bx := bl_le_dlen (tF a).2.1
  have hB : bl ((tF a).2.1 * 2 ^ sqK (tF a)) = bl (tF a).2.1 + sqK (tF a) := bl_shl' hx0
  have q1 := bl_root_lo a2
  have hq64 : 64 ≤ bl q := by omega
  have hFa : -1074 ≤ (tF a).2.2 ∧ (tF a).2.2 ≤ 1025 ∧ (tF a).2.1 < 2 ^ (1025 - (tF a).2.2).toNat := hF.resolve_left hx0
  have hsk : (sqK (tF a) : Int) ≤ 129 := by unfold sqK; split <;> omega
  unfold sqV
  generalize hx : (tF a).2.1 = x at *
  generalize he : (tF a).2.2 = e at *
  generalize sqK (tF a) = k at *
  generalize hh : (e - (k : Int)).tdiv 2 = h at *
  have hh1 : -40000 ≤ h := by omega
  have hh2 : h ≤ 70000 := by omega
  obtain ⟨d1, d2⟩ := tf_down (decide (q * q = x * 2 ^ k)) hq64 hh1 hh2
  obtain ⟨p1, p2, p3, p4⟩ := tf_pair (decide (q * q = x * 2 ^ k)) hq64 hh1
  obtain ⟨n1, l1⟩ := tf_pos (ex := decide (q * q = x * 2 ^ k)) (q := q) (h := h) (m := 1) (by omega) hq64
  obtain ⟨n3, l3⟩ := tf_pos (ex := decide (q * q = x * 2 ^ k)) (q := q) (h := h) (m := 3) (by omega) hq64
  obtain ⟨K, hK⟩ : ∃ K : Nat, K = 70000 := ⟨_, rfl⟩
  have hA0 : ((h + (K : Int)).toNat : Int) = h + K := by omega
  have hC : (e + ((K + K : Nat) : Int)).toNat = k + (h + (K : Int)).toNat + (h + (K : Int)).toNat := by omega
  have d3 : mag (tfF false (decide (q * q = x * 2 ^ k)) q h 3) < 9218868437227405312 := by
    refine tf_fin hK hq64 hh1 ?_
    rcases Nat.lt_or_ge (2 ^ (600 + K)) (q * 2 ^ (h + (K : Int)).toNat) with hlt | hge
    · exfalso
      have g1 := sq_le a1 hC
      have g2 : 2 ^ (600 + K) * 2 ^ (600 + K) ≤ (q * 2 ^ (h + (K : Int)).toNat) * (q * 2 ^ (h + (K : Int)).toNat) := Nat.mul_le_mul (Nat.le_of_lt hlt) (Nat.le_of_lt hlt)
      have g3 : x * 2 ^ (e + ((K + K : Nat) : Int)).toNat < 2 ^ (1025 - e).toNat * 2 ^ (e + ((K + K : Nat) : Int)).toNat := Nat.mul_lt_mul_of_pos_right hFa.2.2 (Nat.two_pow_pos _)
      rw [← Nat.pow_add] at g2 g3
      have g4 : 2 ^ ((1025 - e).toNat + (e + ((K + K : Nat) : Int)).toNat) ≤ 2 ^ (600 + K + (600 + K)) := Nat.pow_le_pow_right (by omega) (by omega)
      omega
    · exact hge
  have hov : (tF a).1 = false := hs
  have vA : vz (70000 + 70000) (tF a).1 (tF a).2.1 (tF a).2.2 = ((x * 2 ^ (e + ((K + K : Nat) : Int)).toNat : Nat) : Int) := by
    rw [hs, hx, he, vz_posG, hK]
  have o1 := tF_ok (tfF false (decide (q * q = x * 2 ^ k)) q h 1)
  have o3 := tF_ok (tfF false (decide (q * q = x * 2 ^ k)) q h 3)
  have v1 := vz_tM o1 o1
  have v3 := vz_tM o3 o3
  rw [vz_flt l1 d2 n1] at v1
  rw [vz_flt l3 d3 n3] at v3
  have u3 := tf_above (decide (q * q = x * 2 ^ k)) hq64 hh1 hh2 d3
  rw [← hK] at d1 u3 v1 v3 vA
  rw [show (70000 : Int) = (K : Int) by omega] at d1 u3
  have M1 := (tM_ok (tM_okR (tfF false (decide (q * q = x * 2 ^ k)) q h 1) (tfF false (decide (q * q = x * 2 ^ k)) q h 1))).facts
  have M3 := (tM_ok (tM_okR (tfF false (decide (q * q = x * 2 ^ k)) q h 3) (tfF false (decide (q * q = x * 2 ^ k)) q h 3))).facts
  rw [← hx, ← he] at *
  refine ⟨d2, d3, p1, p2, p3, p4, n1, n3, ordN_le (K := K + K) (by omega) (by omega) ?_, ordN_ge (K := K + K) (by omega) (by omega) ?_⟩
  · rw [v1, vA]
    have g1 := sq_le a1 hC
    have g2 := Nat.mul_le_mul d1 d1
    exact_mod_cast Nat.le_trans g2 g1
  · rw [v3, vA]
    have g2 := Nat.mul_le_mul u3 u3
    have g1 : (tF a).2.1 * 2 ^ ((tF a).2.2 + ((K + K : Nat) : Int)).toNat ≤ ((if decide (q * q = (tF a).2.1 * 2 ^ k) = true then q else q + 1) * 2 ^ (h + (K : Int)).toNat) * ((if decide (q * q = (tF a).2.1 * 2 ^ k) = true then q else q + 1) * 2 ^ (h + (K : Int)).toNat) := by
      refine sq_ge ?_ hC
      by_cases hex : q * q = (tF a).2.1 * 2 ^ k
      · rw [if_pos (decide_eq_true hex)]; omega
      · rw [if_neg (by simpa using hex)]; omega
    exact_mod_cast Nat.le_trans g1 g2

theorem mu_le {Q y x k A B C : Nat} (h : Q * y ≤ x * 2 ^ k) (hC : C = k + A + B) : (Q * 2 ^ A) * (y * 2 ^ B) ≤ x * 2 ^ C := by
  have e1 : (Q * 2 ^ A) * (y * 2 ^ B) = (Q * y) * (2 ^ A * 2 ^ B) := Nat.mul_mul_mul_comm _ _ _ _
  have e2 : x * 2 ^ C = (x * 2 ^ k) * (2 ^ A * 2 ^ B) := by rw [hC, Nat.pow_add, Nat.pow_add, Nat.mul_assoc, Nat.mul_assoc]
  rw [e1, e2]
  exact Nat.mul_le_mul_right _ h
theorem mu_ge {Q y x k A B C : Nat} (h : x * 2 ^ k ≤ Q * y) (hC : C = k + A + B) : x * 2 ^ C ≤ (Q * 2 ^ A) * (y * 2 ^ B) := by
  have e1 : (Q * 2 ^ A) * (y * 2 ^ B) = (Q * y) * (2 ^ A * 2 ^ B) := Nat.mul_mul_mul_comm _ _ _ _
  have e2 : x * 2 ^ C = (x * 2 ^ k) * (2 ^ A * 2 ^ B) := by rw [hC, Nat.pow_add, Nat.pow_add, Nat.mul_assoc, Nat.mul_assoc]
  rw [e1, e2]
  exact Nat.mul_le_mul_right _ h

theorem quo_facts {a b : Nat} (ha : a < 18446744073709551616) (hb : b < 18446744073709551616) (pa : pln a = true) (pb : pln b = true) (na : neg a = false) (nb : neg b = false) :
    mag (rtF (tF a) (tF b) 1) < 9218868437227405312 ∧ stp (rtF (tF a) (tF b) 1) ≤ stp (rtF (tF a) (tF b) 3) ∧ stp (rtF (tF a) (tF b) 3) ≤ stp (rtF (tF a) (tF b) 1) + 1 ∧ isNaN (rtF (tF a) (tF b) 1) = false ∧ isNaN (rtF (tF a) (tF b) 3) = false ∧
    ordN (tM (tF (rtF (tF a) (tF b) 1)) (tF b)).1 (tM (tF (rtF (tF a) (tF b) 1)) (tF b)).2.1 (tM (tF (rtF (tF a) (tF b) 1)) (tF b)).2.2 (tF a).1 (tF a).2.1 (tF a).2.2 ≤ 0 ∧
    (mag (rtF (tF a) (tF b) 3) < 9218868437227405312 → 0 ≤ ordN (tM (tF (rtF (tF a) (tF b) 3)) (tF b)).1 (tM (tF (rtF (tF a) (tF b) 3)) (tF b)).2.1 (tM (tF (rtF (tF a) (tF b) 3)) (tF b)).2.2 (tF a).1 (tF a).2.1 (tF a).2.2) := by
  obtain ⟨hfa, ha0⟩ := pln_true.1 pa
  obtain ⟨hfb, hb0⟩ := pln_true.1 pb
  have hx0 := tF_ne ha0
  have hy0 := tF_ne hb0
  have oa := tF_ok a
  have ob := tF_ok b
  have fa := oa.facts
  have fb := ob.facts
  have sa := tF_pos na
  have sb := tF_pos nb
  have bx := bl_le_dlen (tF a).2.1
  have by' := bl_le_dlen (tF b).2.1
  have hFa : -1074 ≤ (tF a).2.2 ∧ (tF a).2.2 ≤ 1025 ∧ (tF a).2.1 < 2 ^ (1025 - (tF a).2.2).toNat := (tF_fits a).resolve_left hx0
  have hFb : -1074 ≤ (tF b).2.2 ∧ (tF b).2.2 ≤ 1025 ∧ (tF b).2.1 < 2 ^ (1025 - (tF b).2.2).toNat := (tF_fits b).resolve_left hy0
  have bxl : bl (tF a).2.1 ≤ (1025 - (tF a).2.2).toNat := (bl_le _ _).2 hFa.2.2
  have byl : bl (tF b).2.1 ≤ (1025 - (tF b).2.2).toNat := (bl_le _ _).2 hFb.2.2
  have hk : max 0 (64 + (bl (tF b).2.1 : Int) - (bl (tF a).2.1 : Int)) = (rtK (tF a) (tF b) : Int) := by unfold rtK; omega
  have hN : bl ((tF a).2.1 * 2 ^ rtK (tF a) (tF b)) = bl (tF a).2.1 + rtK (tF a) (tF b) := bl_shl' hx0
  have q1 := bl_quo_lo (N := (tF a).2.1 * 2 ^ rtK (tF a) (tF b)) hy0
  have h64 : 64 ≤ bl ((tF a).2.1 * 2 ^ rtK (tF a) (tF b) / (tF b).2.1) := by omega
  have er : ∀ m, rtF (tF a) (tF b) m = tfF false (decide ((tF a).2.1 * 2 ^ rtK (tF a) (tF b) % (tF b).2.1 = 0)) ((tF a).2.1 * 2 ^ rtK (tF a) (tF b) / (tF b).2.1) ((tF a).2.2 - (tF b).2.2 - rtK (tF a) (tF b)) m := fun m => by unfold rtF; rw [sa, sb]; rfl
  have hg1 : -40000 ≤ (tF a).2.2 - (tF b).2.2 - (rtK (tF a) (tF b) : Int) := by omega
  have hg2 : (tF a).2.2 - (tF b).2.2 - (rtK (tF a) (tF b) : Int) ≤ 70000 := by omega
  rw [er 1, er 3]
  have hQ1 : (tF a).2.1 * 2 ^ rtK (tF a) (tF b) / (tF b).2.1 * (tF b).2.1 ≤ (tF a).2.1 * 2 ^ rtK (tF a) (tF b) := Nat.div_mul_le_self _ _
  have hQ2 : (tF a).2.1 * 2 ^ rtK (tF a) (tF b) ≤ (if decide ((tF a).2.1 * 2 ^ rtK (tF a) (tF b) % (tF b).2.1 = 0) = true then (tF a).2.1 * 2 ^ rtK (tF a) (tF b) / (tF b).2.1 else (tF a).2.1 * 2 ^ rtK (tF a) (tF b) / (tF b).2.1 + 1) * (tF b).2.1 := by
    have hd := Nat.div_add_mod ((tF a).2.1 * 2 ^ rtK (tF a) (tF b)) (tF b).2.1
    have hm := Nat.mod_lt ((tF a).2.1 * 2 ^ rtK (tF a) (tF b)) (Nat.pos_of_ne_zero hy0)
    rw [Nat.mul_comm (tF b).2.1] at hd
    by_cases h0 : (tF a).2.1 * 2 ^ rtK (tF a) (tF b) % (tF b).2.1 = 0
    · rw [if_pos (decide_eq_true h0)]; omega
    · rw [if_neg (by simpa using h0), Nat.add_mul, Nat.one_mul]; omega
  generalize (tF a).2.1 * 2 ^ rtK (tF a) (tF b) / (tF b).2.1 = Q at *
  generalize decide ((tF a).2.1 * 2 ^ rtK (tF a) (tF b) % (tF b).2.1 = 0) = ex at *
  generalize hk' : rtK (tF a) (tF b) = k at *
  generalize hg : (tF a).2.2 - (tF b).2.2 - (k : Int) = g at *
  obtain ⟨d1, d2⟩ := tf_down ex h64 hg1 hg2
  obtain ⟨p1, p2, p3, p4⟩ := tf_pair ex h64 hg1
  obtain ⟨n1, l1⟩ := tf_pos (ex := ex) (q := Q) (h := g) (m := 1) (by omega) h64
  obtain ⟨n3, l3⟩ := tf_pos (ex := ex) (q := Q) (h := g) (m := 3) (by omega) h64
  obtain ⟨K, hK⟩ : ∃ K : Nat, K = 70000 := ⟨_, rfl⟩
  have hC : ((tF a).2.2 + ((K + K : Nat) : Int)).toNat = k + (g + (K : Int)).toNat + ((tF b).2.2 + (K : Int)).toNat := by omega
  have vA : vz (K + K) (tF a).1 (tF a).2.1 (tF a).2.2 = (((tF a).2.1 * 2 ^ ((tF a).2.2 + ((K + K : Nat) : Int)).toNat : Nat) : Int) := by
    rw [sa, vz_posG]
  have vB : vz K (tF b).1 (tF b).2.1 (tF b).2.2 = (((tF b).2.1 * 2 ^ ((tF b).2.2 + (K : Int)).toNat : Nat) : Int) := by
    rw [sb, vz_posG]
  have v1 := vz_tM (tF_ok (tfF false ex Q g 1)) ob
  have v3 := vz_tM (tF_ok (tfF false ex Q g 3)) ob
  rw [vz_flt l1 d2 n1] at v1
  rw [← hK] at v1 v3 d1
  rw [show (70000 : Int) = (K : Int) by omega] at d1
  rw [vB] at v1 v3
  have M1 := (tM_ok (tM_okR (tfF false ex Q g 1) b)).facts
  have M3 := (tM_ok (tM_okR (tfF false ex Q g 3) b)).facts
  refine ⟨d2, p1, p2, p3, p4, ordN_le (K := K + K) (by omega) (by omega) ?_, fun d3 => ordN_ge (K := K + K) (by omega) (by omega) ?_⟩
  · rw [v1, vA]
    have g1 := mu_le hQ1 hC
    have g2 := Nat.mul_le_mul_right ((tF b).2.1 * 2 ^ ((tF b).2.2 + (K : Int)).toNat) d1
    exact_mod_cast Nat.le_trans g2 g1
  · have u3 := tf_above ex h64 hg1 hg2 d3
    rw [hK, vz_flt l3 d3 n3, ← hK] at v3
    rw [← hK, show (70000 : Int) = (K : Int) by omega] at u3
    rw [v3, vA]
    have g1 := mu_ge hQ2 hC
    have g2 := Nat.mul_le_mul_right ((tF b).2.1 * 2 ^ ((tF b).2.2 + (K : Int)).toNat) u3
    exact_mod_cast Nat.le_trans g1 g2
end Go.Proofs.YtlicjplmcepbnaaGreatDoor
/- Several values made at once and put into boxes, other assignments beside them. -/
namespace Go.Proofs.YtlicjplmcepbnaaGreatDoor
set_option linter.unusedVariables false
set_option linter.unusedSimpArgs false
open Go.RowKit

/-- What holds while such a region runs: operation pv j makes value j (in slot 'slot j', of which V j holds), pa k lays box k of type T, ps k stores number 'vs k' into it. -/
structure ParG (pv pa ps : Nat → Nat) (W0 : World) (a0 : Act) (m n : Nat) (slot bx : Nat → Tmp) (vs : Nat → Nat) (T : TypeId) (zs : Array Value) (V : Nat → World → Value → Prop) (listed : Array Bool) (a : Act) (w : World) : Prop where
  below : Below W0.heap.size W0 w
  size : a.tmps.size = a0.tmps.size
  defers : a.defers = a0.defers
  other : ∀ s, (∀ j, j < m → s ≠ slot j) → (∀ k, k < n → s ≠ bx k) → a.tmps[s]? = a0.tmps[s]?
  val : ∀ j, j < m → listed.getD (pv j) false = true → ∃ u, a.tmps[slot j]? = some u ∧ V j w u
  box : ∀ k, k < n → listed.getD (pa k) false = true → ∃ g cs, a.tmps[bx k]? = some (.pointer (some ⟨g, 0, none⟩)) ∧ W0.heap.size ≤ g ∧ w.heap[g]? = some (.cells cs T (0, 0)) ∧ cs.size = zs.size ∧
    (listed.getD (ps k) false = true → a.tmps[slot (vs k)]? = some (.agg cs)) ∧ (listed.getD (ps k) false = false → cs = zs)
  apart : ∀ k k', k < n → k' < n → k ≠ k' → listed.getD (pa k) false = true → listed.getD (pa k') false = true → a.tmps[bx k]? ≠ a.tmps[bx k']?
  stored : ∀ k, k < n → listed.getD (ps k) false = true → listed.getD (pa k) false = true ∧ listed.getD (pv (vs k)) false = true

theorem ordb_of {ops : Array Oper} (h : ((List.range ops.size).all fun i => match ops[i]? with | some o => o.after.all (fun e => !Region.binds .any e || decide (e.on < i)) | none => true) = true) (i : Nat) (o : Oper) (ho : ops[i]? = some o) : ∀ e ∈ o.after, Region.binds .any e = true → e.on < i := by
  intro e he hb
  have hi : i < ops.size := (Array.getElem?_eq_some_iff.1 ho).1
  have h1 := List.all_eq_true.1 h i (List.mem_range.2 hi)
  simp only [ho] at h1
  have h2 := Array.all_eq_true_iff_forall_mem.1 h1 e he
  rw [hb] at h2
  simpa using h2
theorem parg_region {P : Program} {ops : Array Oper} {Q : Exit → Act → World → Prop} {id : Nat} (hm : P.follows .mixedOrders = true) (pv pa ps : Nat → Nat) (m n : Nat) (slot bx : Nat → Tmp) (vs : Nat → Nat) (dep : Nat → List Nat) (T : TypeId) (zs : Array Value)
    (W0 : World) (a0 : Act) (V : Nat → World → Value → Prop) (hall' : ∀ i, i < ops.size → (∃ j, j < m ∧ i = pv j) ∨ (∃ k, k < n ∧ i = pa k) ∨ ∃ k, k < n ∧ i = ps k)
    (hpv : ∀ j, j < m → pv j < ops.size) (hpa : ∀ k, k < n → pa k < ops.size) (hps : ∀ k, k < n → ps k < ops.size)
    (dva : ∀ j k, j < m → k < n → pv j ≠ pa k) (dvs : ∀ j k, j < m → k < n → pv j ≠ ps k) (das : ∀ k k', k < n → k' < n → pa k ≠ ps k')
    (ivv : ∀ j j', j < m → j' < m → pv j = pv j' → j = j') (iaa : ∀ k k', k < n → k' < n → pa k = pa k' → k = k') (iss : ∀ k k', k < n → k' < n → ps k = ps k' → k = k')
    (hord : ∀ (i : Nat) (o : Oper), ops[i]? = some o → ∀ e ∈ o.after, Region.binds .any e = true → e.on < i)
    (hV1 : ∀ j w w' u, Below w.heap.size w w' → V j w u → V j w' u)
    (hV2 : ∀ j w u g cs', w.heap[g]? = some (.cells zs T (0, 0)) → V j w u → V j (w.setRow g cs') u)
    (hVs : ∀ k, k < n → ∀ w u, V (vs k) w u → ∃ cs : Array Value, u = .agg cs ∧ cs.size = zs.size ∧ cs.all (·.oneCell') = true)
    (hdep : ∀ j, j < m → ∀ j' ∈ dep j, j' < m ∧ ∀ o, ops[pv j]? = some o → ∃ e ∈ o.after, e.on = pv j' ∧ Region.binds .any e = true)
    (hA : ∀ j, j < m → ∀ (a : Act) (w : World), Below W0.heap.size W0 w → (∀ s, (∀ j, j < m → s ≠ slot j) → (∀ k, k < n → s ≠ bx k) → a.tmps[s]? = a0.tmps[s]?) →
      (∀ j' ∈ dep j, ∃ u, a.tmps[slot j']? = some u ∧ V j' w u) → wpOp P ops Q (pv j) (fun a' w' => ∃ u, a' = a.put (some (slot j)) u ∧ V j w' u ∧ Below w.heap.size w w') a w)
    (hal : ∀ k, k < n → ∃ o, ops[pa k]? = some o ∧ o.guard = none ∧ o.op = .alloc T ∧ o.dst = some (bx k))
    (hz : ∀ w, (zeroValue T).run P w = .ok (.agg zs) w) (hi : (P.info? T).map (·.size) = some zs.size)
    (hst : ∀ k, k < n → vs k < m ∧ ∃ o, ops[ps k]? = some o ∧ o.guard = none ∧ o.op = .store T (.tmp (bx k)) (.tmp (slot (vs k))) ∧ o.dst = none ∧ (∃ e ∈ o.after, e.on = pa k ∧ Region.binds .any e = true) ∧ (∃ e ∈ o.after, e.on = pv (vs k) ∧ Region.binds .any e = true))
    (hin : ∀ j, j < m → slot j < a0.tmps.size) (hbin : ∀ k, k < n → bx k < a0.tmps.size)
    (hinj : ∀ j j', j < m → j' < m → slot j = slot j' → j = j') (hbinj : ∀ k k', k < n → k' < n → bx k = bx k' → k = k') (hsb : ∀ j k, j < m → k < n → slot j ≠ bx k)
    (hQ : ∀ (u : Nat → Value) (g : Nat → Nat) (a : Act) (w : World), Below W0.heap.size W0 w → (∀ j, j < m → a.tmps[slot j]? = some (u j) ∧ V j w (u j)) →
      (∀ k, k < n → a.tmps[bx k]? = some (.pointer (some ⟨g k, 0, none⟩)) ∧ W0.heap.size ≤ g k ∧ ∃ cs, u (vs k) = .agg cs ∧ w.heap[g k]? = some (.cells cs T (0, 0))) →
      a.tmps.size = a0.tmps.size → a.defers = a0.defers → (∀ s, (∀ j, j < m → s ≠ slot j) → (∀ k, k < n → s ≠ bx k) → a.tmps[s]? = a0.tmps[s]?) → Q .normal a w) :
    (Code.region id ops true).wp P Q a0 W0 := by
  refine wp_region_any hm ?_
  refine wpAny_inv (ParG pv pa ps W0 a0 m n slot bx vs T zs V) ?_ ?_ ops.size _ a0 _ (by simp) ?_ (by simp)
  · -- a step
    intro listed a w i hl hI hr
    obtain ⟨hun, o, ho, hall⟩ := mem_ready.1 hr
    have hunf := not_listed hun
    have hio : i < ops.size := (Array.getElem?_eq_some_iff.1 ho).1
    have hil : i < listed.size := by omega
    have hset := listed_set hil
    have hne : ∀ x, x ≠ i → (listed.setIfInBounds i true).getD x false = listed.getD x false := fun x hx => getD_set_ne false (Ne.symm hx)
    rcases hall' i hio with ⟨jj, him, rfl⟩ | ⟨k, hk, rfl⟩ | ⟨k, hk, rfl⟩
    · have nA : ∀ k, k < n → pa k ≠ pv jj := fun k hk => Ne.symm (dva jj k him hk)
      have nS : ∀ k, k < n → ps k ≠ pv jj := fun k hk => Ne.symm (dvs jj k him hk)
      refine wpOp_mono ?_ (hA jj him a w hI.below hI.other fun j' hj' => ?_)
      · rintro a' w' ⟨u, rfl, hu, hb⟩
        have hlt : slot jj < a.tmps.size := by rw [hI.size]; exact hin jj him
        refine ⟨hI.below.trans (hb.mono hI.below.size), by rw [put_size]; exact hI.size, by rw [put_defers]; exact hI.defers, fun s h1 h2 => ?_, fun j hj h1 => ?_, fun k hk h1 => ?_, fun k k' hk hk' hkk h1 h2 => ?_, fun k hk h1 => ?_⟩
        · rw [put_get_ne (h1 jj him)]; exact hI.other s h1 h2
        · by_cases e : j = jj
          · subst e; exact ⟨u, put_get hlt, hu⟩
          · rw [hne _ (fun e' => e (ivv _ _ hj him e'))] at h1
            obtain ⟨u', g1, g2⟩ := hI.val j hj h1
            exact ⟨u', by rw [put_get_ne (fun e2 => e (hinj j jj hj him e2))]; exact g1, hV1 _ _ _ _ hb g2⟩
        · rw [hne _ (nA k hk)] at h1
          obtain ⟨g, cs, g1, g2, g3, g4, g5, g6⟩ := hI.box k hk h1
          refine ⟨g, cs, by rw [put_get_ne (Ne.symm (hsb jj k him hk))]; exact g1, g2, (hb.block g (Array.getElem?_eq_some_iff.1 g3).1).trans g3, g4, fun h2 => ?_, fun h2 => g6 (by rw [← hne _ (nS k hk)]; exact h2)⟩
          rw [hne _ (nS k hk)] at h2
          have h3 := (hI.stored k hk h2).2
          have h4 : vs k ≠ jj := fun e => by rw [e, hunf] at h3; cases h3
          rw [put_get_ne (fun e2 => h4 (hinj _ _ (hst k hk).1 him e2))]
          exact g5 h2
        · rw [hne _ (nA k hk)] at h1
          rw [hne _ (nA k' hk')] at h2
          rw [put_get_ne (Ne.symm (hsb jj k him hk)), put_get_ne (Ne.symm (hsb jj k' him hk'))]
          exact hI.apart k k' hk hk' hkk h1 h2
        · rw [hne _ (nS k hk)] at h1
          obtain ⟨h2, h3⟩ := hI.stored k hk h1
          exact ⟨by rw [hne _ (nA k hk)]; exact h2, getD_set_true h3⟩
      · obtain ⟨h1, h2⟩ := hdep jj him j' hj'
        obtain ⟨e, he, hon, hbd⟩ := h2 o ho
        have := hall e he hbd
        rw [hon] at this
        exact hI.val _ h1 this
    · have nV : ∀ j, j < m → pv j ≠ pa k := fun j hj => dva j k hj hk
      have nS : ∀ k1, k1 < n → ps k1 ≠ pa k := fun k1 hk1 => Ne.symm (das k k1 hk hk1)
      have nA : ∀ k1, k1 < n → k1 ≠ k → pa k1 ≠ pa k := fun k1 hk1 e e' => e (iaa _ _ hk1 hk e')
      obtain ⟨o', ho', hg, hop, hd⟩ := hal k hk
      refine step_alloc ho' hg hop hz ?_
      rw [hd]
      have hlt : bx k < a.tmps.size := by rw [hI.size]; exact hbin k hk
      have hbw : Below w.heap.size w (w.alloc (.cells zs T)) := (Below.refl _ _).alloc (Nat.le_refl _) _
      refine ⟨hI.below.trans (hbw.mono hI.below.size), by rw [put_size]; exact hI.size, by rw [put_defers]; exact hI.defers, fun s h1 h2 => ?_, fun j hj h1 => ?_, fun k1 hk1 h1 => ?_, fun k1 k2 hk1 hk2 hkk h1 h2 => ?_, fun k1 hk1 h1 => ?_⟩
      · rw [put_get_ne (h2 k hk)]; exact hI.other s h1 h2
      · rw [hne _ (nV j hj)] at h1
        obtain ⟨u', g1, g2⟩ := hI.val j hj h1
        exact ⟨u', by rw [put_get_ne (hsb j k hj hk)]; exact g1, hV1 _ _ _ _ hbw g2⟩
      · by_cases e : k1 = k
        · subst e
          refine ⟨w.heap.size, zs, put_get hlt, hI.below.size, heap_alloc_new _ _, rfl, fun h2 => ?_, fun _ => rfl⟩
          rw [hne _ (nS k1 hk1)] at h2
          have := (hI.stored k1 hk h2).1
          rw [hunf] at this
          cases this
        · rw [hne _ (nA k1 hk1 e)] at h1
          obtain ⟨g, cs, g1, g2, g3, g4, g5, g6⟩ := hI.box k1 hk1 h1
          refine ⟨g, cs, by rw [put_get_ne (fun e2 => e (hbinj _ _ hk1 hk e2))]; exact g1, g2, (hbw.block g (Array.getElem?_eq_some_iff.1 g3).1).trans g3, g4, fun h2 => ?_, fun h2 => g6 (by rw [← hne _ (nS k1 hk1)]; exact h2)⟩
          rw [hne _ (nS k1 hk1)] at h2
          rw [put_get_ne (hsb _ k (hst k1 hk1).1 hk)]
          exact g5 h2
      · have old : ∀ k1, k1 < n → k1 ≠ k → listed.getD (pa k1) false = true → a.tmps[bx k1]? ≠ some (.pointer (some ⟨w.heap.size, 0, none⟩)) := fun k1 hk1 e h1 h2 => by
          obtain ⟨g, cs, g1, g2, g3, g4, g5, g6⟩ := hI.box k1 hk1 h1
          have hlt := (Array.getElem?_eq_some_iff.1 g3).1
          rw [g1] at h2
          simp only [Option.some.injEq, Value.pointer.injEq, Addr.mk.injEq] at h2
          omega
        by_cases e1 : k1 = k
        · subst e1
          rw [hne _ (nA k2 hk2 (Ne.symm hkk))] at h2
          rw [put_get hlt, put_get_ne (fun e2 => hkk (hbinj _ _ hk hk2 e2.symm))]
          exact Ne.symm (old k2 hk2 (Ne.symm hkk) h2)
        · rw [hne _ (nA k1 hk1 e1)] at h1
          by_cases e2 : k2 = k
          · subst e2
            rw [put_get hlt, put_get_ne (fun e2 => e1 (hbinj _ _ hk1 hk e2))]
            exact old k1 hk1 e1 h1
          · rw [hne _ (nA k2 hk2 e2)] at h2
            rw [put_get_ne (fun e3 => e1 (hbinj _ _ hk1 hk e3)), put_get_ne (fun e3 => e2 (hbinj _ _ hk2 hk e3))]
            exact hI.apart k1 k2 hk1 hk2 hkk h1 h2
      · rw [hne _ (nS k1 hk1)] at h1
        obtain ⟨h2, h3⟩ := hI.stored k1 hk1 h1
        exact ⟨getD_set_true h2, getD_set_true h3⟩
    · have nV : ∀ j, j < m → pv j ≠ ps k := fun j hj => dvs j k hj hk
      have nA : ∀ k1, k1 < n → pa k1 ≠ ps k := fun k1 hk1 => das k1 k hk1 hk
      have nS : ∀ k1, k1 < n → k1 ≠ k → ps k1 ≠ ps k := fun k1 hk1 e e' => e (iss _ _ hk1 hk e')
      obtain ⟨hvm, o', ho', hg, hop, hd, ⟨e1, he1, hon1, hb1⟩, e2, he2, hon2, hb2⟩ := hst k hk
      obtain rfl : o' = o := Option.some.inj (ho'.symm.trans ho)
      have l1 := hall e1 he1 hb1
      have l2 := hall e2 he2 hb2
      rw [hon1] at l1
      rw [hon2] at l2
      obtain ⟨u, hu1, hu2⟩ := hI.val _ hvm l2
      obtain ⟨cs, rfl, hc1, hc2⟩ := hVs k hk w u hu2
      obtain ⟨g, old, g1, g2, g3, g4, g5, g6⟩ := hI.box k hk l1
      rw [g6 hunf] at g3 g4
      refine step_store ho' hg hop g1 hu1 g3 (by rw [hc1]; exact hi) (by omega) hc2 ?_
      rw [hd]
      show ParG pv pa ps W0 a0 m n slot bx vs T zs V _ a _
      refine ⟨below_row hI.below g2 _, hI.size, hI.defers, hI.other, fun j hj h1 => ?_, fun k1 hk1 h1 => ?_, fun k1 k2 hk1 hk2 hkk h1 h2 => ?_, fun k1 hk1 h1 => ?_⟩
      · rw [hne _ (nV j hj)] at h1
        obtain ⟨u', q1, q2⟩ := hI.val j hj h1
        exact ⟨u', q1, hV2 _ _ _ _ _ g3 q2⟩
      · rw [hne _ (nA k1 hk1)] at h1
        by_cases e : k1 = k
        · subst e
          exact ⟨g, cs, g1, g2, setRow_heap w g _ cs T _ g3, hc1, fun _ => hu1, fun h2 => by rw [hset] at h2; cases h2⟩
        · obtain ⟨g', cs', q1, q2, q3, q4, q5, q6⟩ := hI.box k1 hk1 h1
          have hgg : g' ≠ g := fun e2 => by
            subst e2
            exact hI.apart k1 k hk1 hk e h1 l1 (q1.trans g1.symm)
          refine ⟨g', cs', q1, q2, (setRow_other w g g' cs hgg).trans q3, q4, fun h2 => ?_, fun h2 => q6 (by rw [← hne _ (nS k1 hk1 e)]; exact h2)⟩
          rw [hne _ (nS k1 hk1 e)] at h2
          exact q5 h2
      · rw [hne _ (nA k1 hk1)] at h1
        rw [hne _ (nA k2 hk2)] at h2
        exact hI.apart k1 k2 hk1 hk2 hkk h1 h2
      · by_cases e : k1 = k
        · subst e
          exact ⟨getD_set_true l1, getD_set_true l2⟩
        · rw [hne _ (nS k1 hk1 e)] at h1
          obtain ⟨h2, h3⟩ := hI.stored k1 hk1 h1
          exact ⟨getD_set_true h2, getD_set_true h3⟩
  · -- the end: all have come up
    intro listed a w hl hI hr
    have hfull : ∀ i, i < ops.size → listed.getD i false = true := by
      intro i
      induction i using Nat.strongRecOn with
      | _ i ih =>
        intro hi
        cases hx : listed.getD i false with
        | true => rfl
        | false =>
          exfalso
          have ho : ops[i]? = some ops[i] := Array.getElem?_eq_getElem hi
          have : i ∈ Region.ready .any ops listed := by
            refine mem_ready.2 ⟨?_, ops[i], ho, fun e he hbd => ih e.on (hord i _ ho e he hbd) (Nat.lt_trans (hord i _ ho e he hbd) hi)⟩
            have hil : i < listed.size := by omega
            simp only [Array.getD_eq_getD_getElem?, Array.getElem?_eq_getElem hil, Option.getD_some] at hx ⊢
            exact hx
          rw [hr] at this
          cases this
    have hval : ∀ j, ∃ u, j < m → a.tmps[slot j]? = some u ∧ V j w u := fun j => by
      by_cases hj : j < m
      · obtain ⟨u, h1, h2⟩ := hI.val j hj (hfull _ (hpv j hj))
        exact ⟨u, fun _ => ⟨h1, h2⟩⟩
      · exact ⟨undef, fun h => absurd h hj⟩
    obtain ⟨u, hu⟩ := Classical.axiomOfChoice hval
    have hbox : ∀ k, ∃ g, k < n → a.tmps[bx k]? = some (.pointer (some ⟨g, 0, none⟩)) ∧ W0.heap.size ≤ g ∧ ∃ cs, u (vs k) = .agg cs ∧ w.heap[g]? = some (.cells cs T (0, 0)) := fun k => by
      by_cases hk : k < n
      · obtain ⟨g, cs, h1, h2, h3, h4, h5, -⟩ := hI.box k hk (hfull _ (hpa k hk))
        refine ⟨g, fun _ => ⟨h1, h2, cs, ?_, h3⟩⟩
        have h6 := h5 (hfull _ (hps k hk))
        rw [(hu _ (hst k hk).1).1] at h6
        exact Option.some.inj h6
      · exact ⟨0, fun h => absurd h hk⟩
    obtain ⟨g, hg⟩ := Classical.axiomOfChoice hbox
    exact hQ u g a w hI.below hu hg hI.size hI.defers hI.other
  · -- the start
    have h0 : ∀ x, (Array.replicate ops.size false).getD x false = true → False := fun x h => by
      simp [Array.getD_eq_getD_getElem?, Array.getElem?_replicate] at h
      split at h <;> simp at h
    exact ⟨(Below.refl _ _).drew, rfl, rfl, fun _ _ _ => rfl, fun j _ h => (h0 _ h).elim, fun k _ h => (h0 _ h).elim, fun k k' _ _ _ h => (h0 _ h).elim, fun k _ h => (h0 _ h).elim⟩
end Go.Proofs.YtlicjplmcepbnaaGreatDoor
/- Several values made at once and put into boxes, which hold their zero value till then. -/
namespace Go.Proofs.YtlicjplmcepbnaaGreatDoor
set_option linter.unusedVariables false
set_option linter.unusedSimpArgs false
open Go.RowKit

end Go.Proofs.YtlicjplmcepbnaaGreatDoor
/- Floats in order: not above, the lesser and the greater of two; intervals that may be. -/
namespace Go.Fl64
set_option linter.unusedVariables false
set_option linter.unusedSimpArgs false

/-- a ≤ b of floats -/
def le (a b : Nat) : Bool := !isNaN a && !isNaN b && decide (stp a ≤ stp b)

theorem ord_le (a b : Nat) (ha : a < 18446744073709551616) (hb : b < 18446744073709551616) : (FloatKind.f64.format.order a b == some Ordering.lt || FloatKind.f64.format.order a b == some Ordering.eq) = le a b := by
  rw [ord_lt a b ha hb, ord_eq a b ha hb]
  unfold lt eq le
  cases isNaN a <;> cases isNaN b <;> simp
  rw [← Bool.decide_or]
  exact decide_eq_decide.2 (by omega)
theorem ord_ge (a b : Nat) (ha : a < 18446744073709551616) (hb : b < 18446744073709551616) : (FloatKind.f64.format.order a b == some Ordering.gt || FloatKind.f64.format.order a b == some Ordering.eq) = le b a := by
  rw [ord_gt a b ha hb, ord_eq a b ha hb]
  unfold lt eq le
  cases isNaN a <;> cases isNaN b <;> simp
  rw [← Bool.decide_or]
  exact decide_eq_decide.2 (by omega)
theorem ord_ne (a b : Nat) (ha : a < 18446744073709551616) (hb : b < 18446744073709551616) : (FloatKind.f64.format.order a b != some Ordering.eq) = !eq a b := by
  rw [← ord_eq a b ha hb]; rfl

/-- the lesser, the greater of two floats that are no NaN -/
def fMin (x y : Nat) : Nat := if stp x < stp y then x else if stp y < stp x then y else if neg x then x else y
def fMax (x y : Nat) : Nat := if stp x < stp y then y else if stp y < stp x then x else if neg x then y else x

theorem dec_neg (a : Nat) (h : a < 18446744073709551616) (n : isNaN a = false) : (FloatKind.f64.decode a).neg = neg a := by
  unfold FloatKind.decode
  rw [f64]
  have n' : ¬ 9218868437227405312 < mag a := of_decide_eq_false n
  by_cases f : mag a < 9218868437227405312
  · obtain ⟨m, k, e, _⟩ := read_number a h f
    rw [e]; rfl
  · rw [read_infinity a h (by omega)]; rfl

theorem run_fmin {P : Program} (w : World) (ts : Array TypeId) (t : TypeId) (x y : Nat) (hx : x < 18446744073709551616) (hy : y < 18446744073709551616) (nx : isNaN x = false) (ny : isNaN y = false) :
    (Builtin.min_ ts t #[.float .f64 x, .float .f64 y]).run P w = .ok (.float .f64 (fMin x y)) w := by
  have ho := order_num x y hx hy nx ny
  have hd := dec_neg x hx nx
  rw [← f64] at ho
  unfold fMin
  rcases Int.lt_trichotomy (stp x) (stp y) with h | h | h
  · rw [cmp_lt h] at ho
    rw [if_pos h]
    simp [Builtin.min_, Builtin.min2, ho]
  · rw [cmp_eq h] at ho
    rw [if_neg (by omega), if_neg (by omega)]
    simp [Builtin.min_, Builtin.min2, ho, hd]
  · rw [cmp_gt h] at ho
    rw [if_neg (by omega), if_pos h]
    simp [Builtin.min_, Builtin.min2, ho]
theorem run_fmax {P : Program} (w : World) (ts : Array TypeId) (t : TypeId) (x y : Nat) (hx : x < 18446744073709551616) (hy : y < 18446744073709551616) (nx : isNaN x = false) (ny : isNaN y = false) :
    (Builtin.max_ ts t #[.float .f64 x, .float .f64 y]).run P w = .ok (.float .f64 (fMax x y)) w := by
  have ho := order_num x y hx hy nx ny
  have hd := dec_neg x hx nx
  rw [← f64] at ho
  unfold fMax
  rcases Int.lt_trichotomy (stp x) (stp y) with h | h | h
  · rw [cmp_lt h] at ho
    rw [if_pos h]
    simp [Builtin.max_, Builtin.max2, ho]
  · rw [cmp_eq h] at ho
    rw [if_neg (by omega), if_neg (by omega)]
    simp [Builtin.max_, Builtin.max2, ho, hd]
  · rw [cmp_gt h] at ho
    rw [if_neg (by omega), if_pos h]
    simp [Builtin.max_, Builtin.max2, ho]
theorem fMin_or (x y : Nat) : fMin x y = x ∨ fMin x y = y := by
  unfold fMin
  split
  · exact .inl rfl
  · split
    · exact .inr rfl
    · split
      · exact .inl rfl
      · exact .inr rfl
theorem fMax_or (x y : Nat) : fMax x y = x ∨ fMax x y = y := by
  unfold fMax
  split
  · exact .inr rfl
  · split
    · exact .inl rfl
    · split
      · exact .inr rfl
      · exact .inl rfl
theorem fMin_lt {x y : Nat} (hx : x < 18446744073709551616) (hy : y < 18446744073709551616) : fMin x y < 18446744073709551616 := by
  rcases fMin_or x y with h | h <;> rw [h] <;> assumption
theorem fMax_lt {x y : Nat} (hx : x < 18446744073709551616) (hy : y < 18446744073709551616) : fMax x y < 18446744073709551616 := by
  rcases fMax_or x y with h | h <;> rw [h] <;> assumption
theorem fMin_nn {x y : Nat} (hx : isNaN x = false) (hy : isNaN y = false) : isNaN (fMin x y) = false := by
  rcases fMin_or x y with h | h <;> rw [h] <;> assumption
theorem fMax_nn {x y : Nat} (hx : isNaN x = false) (hy : isNaN y = false) : isNaN (fMax x y) = false := by
  rcases fMax_or x y with h | h <;> rw [h] <;> assumption
theorem fMin_stp (x y : Nat) : stp (fMin x y) = min (stp x) (stp y) := by
  unfold fMin
  split
  · omega
  · split
    · omega
    · split <;> omega
theorem fMax_stp (x y : Nat) : stp (fMax x y) = max (stp x) (stp y) := by
  unfold fMax
  split
  · omega
  · split
    · omega
    · split <;> omega

/-- a nought as +0 -/
def pl (a : Nat) : Nat := if a = 9223372036854775808 then 0 else a
theorem pl_lt {a : Nat} (h : a < 18446744073709551616) : pl a < 18446744073709551616 := by unfold pl; split <;> omega
theorem pl_stp (a : Nat) : stp (pl a) = stp a := by
  unfold pl
  split
  · rename_i h; rw [h]; decide
  · rfl
theorem pl_nan (a : Nat) : isNaN (pl a) = isNaN a := by
  unfold pl
  split
  · rename_i h; rw [h]; decide
  · rfl
theorem stp_zero {a : Nat} (ha : a < 18446744073709551616) : stp a = 0 ↔ (a = 0 ∨ a = 9223372036854775808) := by
  unfold stp sgn neg mag
  constructor
  · intro h
    split at h <;> rename_i h1 <;> simp only [decide_eq_true_eq] at h1 <;> omega
  · rintro (rfl | rfl) <;> decide
/-- whether an interval may be -/
def vI (lo hi : Nat) : Bool := le lo hi && lt lo 9218868437227405312 && lt 18442240474082181120 hi && decide (lo ≠ 9223372036854775808) && decide (hi ≠ 9223372036854775808)

/-- floats are told apart by their place in the order and by the sign of noughts -/
theorem stp_inj {a b : Nat} (ha : a < 18446744073709551616) (hb : b < 18446744073709551616) (h : stp a = stp b) (h1 : a ≠ 9223372036854775808) (h2 : b ≠ 9223372036854775808) : a = b := by
  unfold stp sgn neg mag at h
  split at h <;> split at h <;> rename_i h3 h4 <;> simp only [decide_eq_true_eq] at h3 h4 <;> omega
end Go.Fl64
/- The small functions of span: noughts, infinities, what may be. -/
namespace Go.Proofs.YtlicjplmcepbnaaGreatDoor
set_option linter.unusedVariables false
set_option linter.unusedSimpArgs false
open Go.RowKit Go.Fl64

theorem eq_zero (a : Nat) (ha : a < 18446744073709551616) : eq a 0 = (decide (a = 0) || decide (a = 9223372036854775808)) := by
  rw [← Bool.decide_or]
  unfold eq
  rw [show isNaN 0 = false from rfl]
  have h := stp_zero ha
  rw [show stp 0 = 0 from rfl]
  by_cases h0 : stp a = 0
  · have h1 := h.1 h0
    rw [decide_eq_true h0, decide_eq_true h1]
    rcases h1 with rfl | rfl <;> rfl
  · rw [decide_eq_false h0, decide_eq_false fun h2 => h0 (h.2 h2), Bool.and_false]

theorem pmn (a : Nat) (ha : a < 18446744073709551616) (w : World) :
    Calls Tryz.prog 44 #[.float .f64 a] w fun r w' => r = .returned (.bool (decide (a = 9223372036854775808))) ∧ w' = w := by
  have k := Ie.c33 a ha
  have e := ord_eq a 0 ha (by omega)
  rw [eq_zero a ha] at e
  by_cases h : a = 0 ∨ a = 9223372036854775808
  · have e1 : (FloatKind.f64.format.order a 0 == some Ordering.eq) = true := by
      rw [e, ← Bool.decide_or]; exact decide_eq_true h
    have e2 : decide (a = 9223372036854775808) = neg a := by
      rcases h with rfl | rfl <;> rfl
    rw [e2]
    clear e e2 h
    go_enter Tryz.func44, Tryz.ntmps44
    go_wp2_with (first | (go_at_call 31; refine (k _).mono ?_; rintro r w' ⟨rfl, rfl⟩))
    go_ret
    exact ⟨rfl, rfl⟩
  · have e1 : (FloatKind.f64.format.order a 0 == some Ordering.eq) = false := by
      rw [e, ← Bool.decide_or]; exact decide_eq_false h
    rw [decide_eq_false fun h1 => h (.inr h1)]
    clear e h
    go_enter Tryz.func44, Tryz.ntmps44
    go_wp2
    go_ret
    exact ⟨rfl, rfl⟩
theorem ppl (a : Nat) (ha : a < 18446744073709551616) (w : World) :
    Calls Tryz.prog 46 #[.float .f64 a] w fun r w' => r = .returned (.float .f64 (pl a)) ∧ w' = w := by
  have e := ord_eq a 0 ha (by omega)
  rw [eq_zero a ha] at e
  by_cases h : a = 0 ∨ a = 9223372036854775808
  · have e1 : (FloatKind.f64.format.order a 0 == some Ordering.eq) = true := by
      rw [e, ← Bool.decide_or]; exact decide_eq_true h
    have e2 : pl a = 0 := by
      rcases h with rfl | rfl <;> rfl
    rw [e2]
    clear e e2 h
    go_enter Tryz.func46, Tryz.ntmps46
    go_wp2
    go_ret
    exact ⟨rfl, rfl⟩
  · have e1 : (FloatKind.f64.format.order a 0 == some Ordering.eq) = false := by
      rw [e, ← Bool.decide_or]; exact decide_eq_false h
    have e2 : pl a = a := if_neg fun h1 => h (.inr h1)
    rw [e2]
    clear e e2 h
    go_enter Tryz.func46, Tryz.ntmps46
    go_wp2
    go_ret
    exact ⟨rfl, rfl⟩
end Go.Proofs.YtlicjplmcepbnaaGreatDoor
/- Valid on both sides. -/
namespace Go.Proofs.YtlicjplmcepbnaaGreatDoor
set_option linter.unusedVariables false
set_option linter.unusedSimpArgs false
open Go.RowKit Go.Fl64

theorem box_cells2 {w : World} {g : Nat} {a b : Value} {T : TypeId} (h : w.heap[g]? = some (.cells #[a, b] T (0, 0))) : w.cell? ⟨g, 0, none⟩ = some a ∧ w.cell? ⟨g, 1, none⟩ = some b := by
  simp [World.cell?, h]
theorem bdrewN {B : Nat} {a w : World} (h : Below B a w) (n : Nat) : Below B a (w.drewN n) := h.trans ⟨rfl, rfl, rfl, Nat.le_refl _, fun _ _ => rfl⟩
theorem cinf_p (w : World) : Calls Tryz.prog 13 #[.int .i64 1] w fun r w' => r = .returned (.float .f64 9218868437227405312) ∧ w' = w := by
  have hb := Ie.run_frombits
  go_enter Tryz.func13, Tryz.ntmps13
  go_wp2
  go_ret
  exact ⟨rfl, rfl⟩
theorem isinf_p (a : Nat) (ha : a < 18446744073709551616) (w : World) :
    Calls Tryz.prog 35 #[.float .f64 a, .int .i64 1] w fun e w' => e = .returned (.bool (lt 9218868437227405311 a)) ∧ w' = w := by
  have h := ord_gt a 9218868437227405311 ha (by omega)
  have H : Hid ((FloatKind.f64.format.order a 9218868437227405311 == some Ordering.gt) = lt 9218868437227405311 a) := h
  clear h
  go_enter Tryz.func35, Tryz.ntmps35
  go_wp2
  go_ret
  exact ⟨congrArg Ending.returned (congrArg Value.bool H.out), rfl⟩
theorem run_negf8 (a : Nat) (w : World) : (Op.unary .neg (.float .f64 a)).run Tryz.prog w = .ok (.float .f64 (Op.negFloat .f64 a)) w := rfl
theorem isinf_m (a : Nat) (ha : a < 18446744073709551616) (w : World) :
    Calls Tryz.prog 35 #[.float .f64 a, .int .i64 (-1)] w fun e w' => e = .returned (.bool (lt 9218868437227405311 (ngt a))) ∧ w' = w := by
  have kn := run_negf8
  have h := ord_gt (ngt a) 9218868437227405311 (ngt_lt ha) (by omega)
  have hn := negF a ha
  generalize ngt a = b at *
  have H : Hid ((FloatKind.f64.format.order b 9218868437227405311 == some Ordering.gt) = lt 9218868437227405311 b) := h
  clear h
  go_enter Tryz.func35, Tryz.ntmps35
  go_wp2
  go_ret
  refine ⟨?_, rfl⟩
  rw [hn] at *
  exact congrArg Ending.returned (congrArg Value.bool H.out)

theorem ngt_stp {a : Nat} (ha : a < 18446744073709551616) : stp (ngt a) = - stp a := by
  unfold stp
  rw [ngt_mag ha, ngt_neg ha]
  cases neg a <;> simp [sgn]
theorem ngt_nan8 {a : Nat} (ha : a < 18446744073709551616) : isNaN (ngt a) = isNaN a := by
  unfold isNaN; rw [ngt_mag ha]
theorem nan_stp {a : Nat} (h : isNaN a = false) : -9218868437227405312 ≤ stp a ∧ stp a ≤ 9218868437227405312 := by
  have h' : ¬ 9218868437227405312 < mag a := of_decide_eq_false h
  unfold stp sgn
  split <;> omega
/-- what the program asks -/
theorem vI_p (lo hi : Nat) (h1 : lo < 18446744073709551616) (h2 : hi < 18446744073709551616) :
    vI lo hi = (le lo hi && !(lt 9218868437227405311 lo || lt 9218868437227405311 (ngt hi)) && (!decide (lo = 9223372036854775808) && !decide (hi = 9223372036854775808))) := by
  unfold vI
  cases hl : le lo hi
  · rfl
  · unfold le at hl
    simp only [Bool.and_eq_true, Bool.not_eq_true', decide_eq_true_eq] at hl
    obtain ⟨⟨n1, n2⟩, h3⟩ := hl
    have b1 := nan_stp n1
    have b2 := nan_stp n2
    have e1 : lt lo 9218868437227405312 = !lt 9218868437227405311 lo := by
      unfold lt
      rw [n1, show isNaN 9218868437227405312 = false by decide, show isNaN 9218868437227405311 = false by decide, show stp 9218868437227405312 = 9218868437227405312 by decide, show stp 9218868437227405311 = 9218868437227405311 by decide]
      rw [Bool.not_false, Bool.true_and, Bool.true_and, Bool.true_and, ← decide_not]
      exact decide_eq_decide.2 (by omega)
    have e2 : lt 18442240474082181120 hi = !lt 9218868437227405311 (ngt hi) := by
      unfold lt
      rw [ngt_nan8 h2, n2, ngt_stp h2, show isNaN 18442240474082181120 = false by decide, show isNaN 9218868437227405311 = false by decide, show stp 18442240474082181120 = -9218868437227405312 by decide, show stp 9218868437227405311 = 9218868437227405311 by decide]
      rw [Bool.not_false, Bool.true_and, Bool.true_and, Bool.true_and, ← decide_not]
      exact decide_eq_decide.2 (by omega)
    rw [e1, e2]
    simp [Bool.and_assoc]
set_option maxHeartbeats 1000000 in
theorem pvalid_1 (lo hi : Nat) (w : World)
    (h : (FloatKind.f64.format.order lo hi == some Ordering.lt || FloatKind.f64.format.order lo hi == some Ordering.eq) = false) :
    Calls Tryz.prog 24 #[.agg #[.float .f64 lo, .float .f64 hi]] w fun r w' => r = .returned (.bool false) ∧ Below w.heap.size w w' := by
  go_enter Tryz.func24, Tryz.ntmps24
  go_wp2_with (first | fail)
  go_ret
  exact ⟨rfl, (Below.refl _ _).alloc (Nat.le_refl _) _⟩
set_option maxHeartbeats 1000000 in
theorem pvalid_2 (lo hi : Nat) (w : World) (p q s : Bool)
    (h : (FloatKind.f64.format.order lo hi == some Ordering.lt || FloatKind.f64.format.order lo hi == some Ordering.eq) = true)
    (k1 : ∀ W, Calls Tryz.prog 35 #[.float .f64 lo, .int .i64 1] W fun e w' => e = .returned (.bool true) ∧ w' = W)
    (k2 : ∀ W, Calls Tryz.prog 35 #[.float .f64 hi, .int .i64 (-1)] W fun e w' => e = .returned (.bool p) ∧ w' = W)
    (k3 : ∀ W, Calls Tryz.prog 44 #[.float .f64 lo] W fun e w' => e = .returned (.bool q) ∧ w' = W)
    (k4 : ∀ W, Calls Tryz.prog 44 #[.float .f64 hi] W fun e w' => e = .returned (.bool s) ∧ w' = W) :
    Calls Tryz.prog 24 #[.agg #[.float .f64 lo, .float .f64 hi]] w fun r w' => r = .returned (.bool false) ∧ Below w.heap.size w w' := by
  go_enter Tryz.func24, Tryz.ntmps24
  go_wp2_with (first | (go_at_call 35; first | (with_reducible refine (k1 _).mono ?_; rintro r w' ⟨rfl, rfl⟩) | (with_reducible refine (k2 _).mono ?_; rintro r w' ⟨rfl, rfl⟩)) | (go_at_call 44; first | (with_reducible refine (k3 _).mono ?_; rintro r w' ⟨rfl, rfl⟩) | (with_reducible refine (k4 _).mono ?_; rintro r w' ⟨rfl, rfl⟩)))
  go_ret
  exact ⟨rfl, (Below.refl _ _).alloc (Nat.le_refl _) _⟩
set_option maxHeartbeats 1000000 in
theorem pvalid_3 (lo hi : Nat) (w : World) (q s : Bool)
    (h : (FloatKind.f64.format.order lo hi == some Ordering.lt || FloatKind.f64.format.order lo hi == some Ordering.eq) = true)
    (k1 : ∀ W, Calls Tryz.prog 35 #[.float .f64 lo, .int .i64 1] W fun e w' => e = .returned (.bool false) ∧ w' = W)
    (k2 : ∀ W, Calls Tryz.prog 35 #[.float .f64 hi, .int .i64 (-1)] W fun e w' => e = .returned (.bool true) ∧ w' = W)
    (k3 : ∀ W, Calls Tryz.prog 44 #[.float .f64 lo] W fun e w' => e = .returned (.bool q) ∧ w' = W)
    (k4 : ∀ W, Calls Tryz.prog 44 #[.float .f64 hi] W fun e w' => e = .returned (.bool s) ∧ w' = W) :
    Calls Tryz.prog 24 #[.agg #[.float .f64 lo, .float .f64 hi]] w fun r w' => r = .returned (.bool false) ∧ Below w.heap.size w w' := by
  go_enter Tryz.func24, Tryz.ntmps24
  go_wp2_with (first | (go_at_call 35; first | (with_reducible refine (k1 _).mono ?_; rintro r w' ⟨rfl, rfl⟩) | (with_reducible refine (k2 _).mono ?_; rintro r w' ⟨rfl, rfl⟩)) | (go_at_call 44; first | (with_reducible refine (k3 _).mono ?_; rintro r w' ⟨rfl, rfl⟩) | (with_reducible refine (k4 _).mono ?_; rintro r w' ⟨rfl, rfl⟩)))
  go_ret
  exact ⟨rfl, (Below.refl _ _).alloc (Nat.le_refl _) _⟩
set_option maxHeartbeats 1000000 in
theorem pvalid_4 (lo hi : Nat) (w : World) (s : Bool)
    (h : (FloatKind.f64.format.order lo hi == some Ordering.lt || FloatKind.f64.format.order lo hi == some Ordering.eq) = true)
    (k1 : ∀ W, Calls Tryz.prog 35 #[.float .f64 lo, .int .i64 1] W fun e w' => e = .returned (.bool false) ∧ w' = W)
    (k2 : ∀ W, Calls Tryz.prog 35 #[.float .f64 hi, .int .i64 (-1)] W fun e w' => e = .returned (.bool false) ∧ w' = W)
    (k3 : ∀ W, Calls Tryz.prog 44 #[.float .f64 lo] W fun e w' => e = .returned (.bool true) ∧ w' = W)
    (k4 : ∀ W, Calls Tryz.prog 44 #[.float .f64 hi] W fun e w' => e = .returned (.bool s) ∧ w' = W) :
    Calls Tryz.prog 24 #[.agg #[.float .f64 lo, .float .f64 hi]] w fun r w' => r = .returned (.bool false) ∧ Below w.heap.size w w' := by
  go_enter Tryz.func24, Tryz.ntmps24
  go_wp2_with (first | (go_at_call 35; first | (with_reducible refine (k1 _).mono ?_; rintro r w' ⟨rfl, rfl⟩) | (with_reducible refine (k2 _).mono ?_; rintro r w' ⟨rfl, rfl⟩)) | (go_at_call 44; first | (with_reducible refine (k3 _).mono ?_; rintro r w' ⟨rfl, rfl⟩) | (with_reducible refine (k4 _).mono ?_; rintro r w' ⟨rfl, rfl⟩)))
  go_ret
  exact ⟨rfl, (Below.refl _ _).alloc (Nat.le_refl _) _⟩
set_option maxHeartbeats 1000000 in
theorem pvalid_5 (lo hi : Nat) (w : World) (s : Bool)
    (h : (FloatKind.f64.format.order lo hi == some Ordering.lt || FloatKind.f64.format.order lo hi == some Ordering.eq) = true)
    (k1 : ∀ W, Calls Tryz.prog 35 #[.float .f64 lo, .int .i64 1] W fun e w' => e = .returned (.bool false) ∧ w' = W)
    (k2 : ∀ W, Calls Tryz.prog 35 #[.float .f64 hi, .int .i64 (-1)] W fun e w' => e = .returned (.bool false) ∧ w' = W)
    (k3 : ∀ W, Calls Tryz.prog 44 #[.float .f64 lo] W fun e w' => e = .returned (.bool false) ∧ w' = W)
    (k4 : ∀ W, Calls Tryz.prog 44 #[.float .f64 hi] W fun e w' => e = .returned (.bool s) ∧ w' = W) :
    Calls Tryz.prog 24 #[.agg #[.float .f64 lo, .float .f64 hi]] w fun r w' => r = .returned (.bool (!s)) ∧ Below w.heap.size w w' := by
  go_enter Tryz.func24, Tryz.ntmps24
  go_wp2_with (first | (go_at_call 35; first | (with_reducible refine (k1 _).mono ?_; rintro r w' ⟨rfl, rfl⟩) | (with_reducible refine (k2 _).mono ?_; rintro r w' ⟨rfl, rfl⟩)) | (go_at_call 44; first | (with_reducible refine (k3 _).mono ?_; rintro r w' ⟨rfl, rfl⟩) | (with_reducible refine (k4 _).mono ?_; rintro r w' ⟨rfl, rfl⟩)))
  go_ret
  exact ⟨rfl, (Below.refl _ _).alloc (Nat.le_refl _) _⟩
theorem svalid (lo hi : Nat) (h1 : lo < 18446744073709551616) (h2 : hi < 18446744073709551616) (w : World) :
    Calls Tryz.prog 24 #[.agg #[.float .f64 lo, .float .f64 hi]] w fun r w' => r = .returned (.bool (vI lo hi)) ∧ Below w.heap.size w w' := by
  have ho := ord_le lo hi h1 h2
  rw [vI_p lo hi h1 h2]
  have k1 := isinf_p lo h1
  have k2 := isinf_m hi h2
  have k3 := pmn lo h1
  have k4 := pmn hi h2
  cases hl : le lo hi
  · rw [hl] at ho
    exact pvalid_1 lo hi w ho
  · rw [hl] at ho
    cases hp : lt 9218868437227405311 lo
    · rw [hp] at k1
      cases hq : lt 9218868437227405311 (ngt hi)
      · rw [hq] at k2
        cases hs : decide (lo = 9223372036854775808)
        · rw [hs] at k3
          exact pvalid_5 lo hi w _ ho k1 k2 k3 k4
        · rw [hs] at k3
          exact pvalid_4 lo hi w _ ho k1 k2 k3 k4
      · rw [hq] at k2
        exact pvalid_3 lo hi w _ _ ho k1 k2 k3 k4
    · rw [hp] at k1
      exact pvalid_2 lo hi w _ _ _ ho k1 k2 k3 k4
theorem dclean (a : Nat) (ha : a < 18446744073709551616) (w : World) :
    Calls Tryz.prog 14 #[.float .f64 a] w fun r w' => r = .returned (.bool (!decide (a = 9223372036854775808))) ∧ w' = w := by
  have k := Ie.c33 a ha
  have e := ord_ne a 0 ha (by omega)
  rw [eq_zero a ha] at e
  by_cases h : a = 0 ∨ a = 9223372036854775808
  · have e1 : (FloatKind.f64.format.order a 0 != some Ordering.eq) = false := by
      rw [e, ← Bool.decide_or, decide_eq_true h]; rfl
    have e2 : decide (a = 9223372036854775808) = neg a := by
      rcases h with rfl | rfl <;> rfl
    rw [e2]
    clear e e2 h
    go_enter Tryz.func14, Tryz.ntmps14
    go_wp2_with (first | (go_at_call 31; refine (k _).mono ?_; rintro r w' ⟨rfl, rfl⟩))
    go_ret
    exact ⟨rfl, rfl⟩
  · have e1 : (FloatKind.f64.format.order a 0 != some Ordering.eq) = true := by
      rw [e, ← Bool.decide_or, decide_eq_false h]; rfl
    rw [decide_eq_false fun h1 => h (.inr h1)]
    clear e h
    go_enter Tryz.func14, Tryz.ntmps14
    go_wp2
    go_ret
    exact ⟨rfl, rfl⟩
set_option maxHeartbeats 4000000 in
theorem dvalid_1 (lo hi : Nat) (w : World) (p q r s : Bool)
    (o1 : (FloatKind.f64.format.order lo hi == some Ordering.lt || FloatKind.f64.format.order lo hi == some Ordering.eq) = false)
    (o2 : (FloatKind.f64.format.order lo 9218868437227405312 == some Ordering.lt) = p)
    (o3 : (FloatKind.f64.format.order hi 18442240474082181120 == some Ordering.gt) = q)
    (k3 : ∀ W, Calls Tryz.prog 14 #[.float .f64 lo] W fun e w' => e = .returned (.bool r) ∧ w' = W)
    (k4 : ∀ W, Calls Tryz.prog 14 #[.float .f64 hi] W fun e w' => e = .returned (.bool s) ∧ w' = W) :
    Calls Tryz.prog 5 #[.agg #[.float .f64 lo, .float .f64 hi]] w fun r w' => r = .returned (.bool false) ∧ Below w.heap.size w w' := by
  obtain ⟨W, hW⟩ : ∃ W, W = w.alloc (.cells #[.float .f64 lo, .float .f64 hi] 24) := ⟨_, rfl⟩
  have HX : Hid (Below w.heap.size w W) := by rw [hW]; exact (Below.refl _ _).alloc (Nat.le_refl _) _
  have hcl : W.cell? ⟨w.heap.size, 0, none⟩ = some (.float .f64 lo) ∧ W.cell? ⟨w.heap.size, 1, none⟩ = some (.float .f64 hi) := by rw [hW]; exact box_cells2 (heap_alloc_new _ _)
  obtain ⟨c0, c1⟩ := hcl
  go_enter Tryz.func5, Tryz.ntmps5
  go_upto_region 1 with fail
  rw [← hW]
  clear hW
  go_quiet (first | (go_at_call 13; first | (with_reducible refine Calls.quiet_of_same (cinf_p _)) | (with_reducible refine Calls.quiet_of_same (cinf_m _))) | (go_at_call 14; first | (with_reducible refine Calls.quiet_of_same (k3 _)) | (with_reducible refine Calls.quiet_of_same (k4 _))))
  go_wp2
  go_ret
  exact ⟨rfl, bdrewN HX.out _⟩
set_option maxHeartbeats 4000000 in
theorem dvalid_2 (lo hi : Nat) (w : World) (q r s : Bool)
    (o1 : (FloatKind.f64.format.order lo hi == some Ordering.lt || FloatKind.f64.format.order lo hi == some Ordering.eq) = true)
    (o2 : (FloatKind.f64.format.order lo 9218868437227405312 == some Ordering.lt) = false)
    (o3 : (FloatKind.f64.format.order hi 18442240474082181120 == some Ordering.gt) = q)
    (k3 : ∀ W, Calls Tryz.prog 14 #[.float .f64 lo] W fun e w' => e = .returned (.bool r) ∧ w' = W)
    (k4 : ∀ W, Calls Tryz.prog 14 #[.float .f64 hi] W fun e w' => e = .returned (.bool s) ∧ w' = W) :
    Calls Tryz.prog 5 #[.agg #[.float .f64 lo, .float .f64 hi]] w fun r w' => r = .returned (.bool false) ∧ Below w.heap.size w w' := by
  obtain ⟨W, hW⟩ : ∃ W, W = w.alloc (.cells #[.float .f64 lo, .float .f64 hi] 24) := ⟨_, rfl⟩
  have HX : Hid (Below w.heap.size w W) := by rw [hW]; exact (Below.refl _ _).alloc (Nat.le_refl _) _
  have hcl : W.cell? ⟨w.heap.size, 0, none⟩ = some (.float .f64 lo) ∧ W.cell? ⟨w.heap.size, 1, none⟩ = some (.float .f64 hi) := by rw [hW]; exact box_cells2 (heap_alloc_new _ _)
  obtain ⟨c0, c1⟩ := hcl
  go_enter Tryz.func5, Tryz.ntmps5
  go_upto_region 1 with fail
  rw [← hW]
  clear hW
  go_quiet (first | (go_at_call 13; first | (with_reducible refine Calls.quiet_of_same (cinf_p _)) | (with_reducible refine Calls.quiet_of_same (cinf_m _))) | (go_at_call 14; first | (with_reducible refine Calls.quiet_of_same (k3 _)) | (with_reducible refine Calls.quiet_of_same (k4 _))))
  go_wp2
  go_ret
  exact ⟨rfl, bdrewN HX.out _⟩
set_option maxHeartbeats 4000000 in
theorem dvalid_3 (lo hi : Nat) (w : World) (r s : Bool)
    (o1 : (FloatKind.f64.format.order lo hi == some Ordering.lt || FloatKind.f64.format.order lo hi == some Ordering.eq) = true)
    (o2 : (FloatKind.f64.format.order lo 9218868437227405312 == some Ordering.lt) = true)
    (o3 : (FloatKind.f64.format.order hi 18442240474082181120 == some Ordering.gt) = false)
    (k3 : ∀ W, Calls Tryz.prog 14 #[.float .f64 lo] W fun e w' => e = .returned (.bool r) ∧ w' = W)
    (k4 : ∀ W, Calls Tryz.prog 14 #[.float .f64 hi] W fun e w' => e = .returned (.bool s) ∧ w' = W) :
    Calls Tryz.prog 5 #[.agg #[.float .f64 lo, .float .f64 hi]] w fun r w' => r = .returned (.bool false) ∧ Below w.heap.size w w' := by
  obtain ⟨W, hW⟩ : ∃ W, W = w.alloc (.cells #[.float .f64 lo, .float .f64 hi] 24) := ⟨_, rfl⟩
  have HX : Hid (Below w.heap.size w W) := by rw [hW]; exact (Below.refl _ _).alloc (Nat.le_refl _) _
  have hcl : W.cell? ⟨w.heap.size, 0, none⟩ = some (.float .f64 lo) ∧ W.cell? ⟨w.heap.size, 1, none⟩ = some (.float .f64 hi) := by rw [hW]; exact box_cells2 (heap_alloc_new _ _)
  obtain ⟨c0, c1⟩ := hcl
  go_enter Tryz.func5, Tryz.ntmps5
  go_upto_region 1 with fail
  rw [← hW]
  clear hW
  go_quiet (first | (go_at_call 13; first | (with_reducible refine Calls.quiet_of_same (cinf_p _)) | (with_reducible refine Calls.quiet_of_same (cinf_m _))) | (go_at_call 14; first | (with_reducible refine Calls.quiet_of_same (k3 _)) | (with_reducible refine Calls.quiet_of_same (k4 _))))
  go_wp2
  go_ret
  exact ⟨rfl, bdrewN HX.out _⟩
set_option maxHeartbeats 4000000 in
theorem dvalid_4 (lo hi : Nat) (w : World) (s : Bool)
    (o1 : (FloatKind.f64.format.order lo hi == some Ordering.lt || FloatKind.f64.format.order lo hi == some Ordering.eq) = true)
    (o2 : (FloatKind.f64.format.order lo 9218868437227405312 == some Ordering.lt) = true)
    (o3 : (FloatKind.f64.format.order hi 18442240474082181120 == some Ordering.gt) = true)
    (k3 : ∀ W, Calls Tryz.prog 14 #[.float .f64 lo] W fun e w' => e = .returned (.bool false) ∧ w' = W)
    (k4 : ∀ W, Calls Tryz.prog 14 #[.float .f64 hi] W fun e w' => e = .returned (.bool s) ∧ w' = W) :
    Calls Tryz.prog 5 #[.agg #[.float .f64 lo, .float .f64 hi]] w fun r w' => r = .returned (.bool false) ∧ Below w.heap.size w w' := by
  obtain ⟨W, hW⟩ : ∃ W, W = w.alloc (.cells #[.float .f64 lo, .float .f64 hi] 24) := ⟨_, rfl⟩
  have HX : Hid (Below w.heap.size w W) := by rw [hW]; exact (Below.refl _ _).alloc (Nat.le_refl _) _
  have hcl : W.cell? ⟨w.heap.size, 0, none⟩ = some (.float .f64 lo) ∧ W.cell? ⟨w.heap.size, 1, none⟩ = some (.float .f64 hi) := by rw [hW]; exact box_cells2 (heap_alloc_new _ _)
  obtain ⟨c0, c1⟩ := hcl
  go_enter Tryz.func5, Tryz.ntmps5
  go_upto_region 1 with fail
  rw [← hW]
  clear hW
  go_quiet (first | (go_at_call 13; first | (with_reducible refine Calls.quiet_of_same (cinf_p _)) | (with_reducible refine Calls.quiet_of_same (cinf_m _))) | (go_at_call 14; first | (with_reducible refine Calls.quiet_of_same (k3 _)) | (with_reducible refine Calls.quiet_of_same (k4 _))))
  go_wp2
  go_ret
  exact ⟨rfl, bdrewN HX.out _⟩
set_option maxHeartbeats 4000000 in
theorem dvalid_5 (lo hi : Nat) (w : World) (s : Bool)
    (o1 : (FloatKind.f64.format.order lo hi == some Ordering.lt || FloatKind.f64.format.order lo hi == some Ordering.eq) = true)
    (o2 : (FloatKind.f64.format.order lo 9218868437227405312 == some Ordering.lt) = true)
    (o3 : (FloatKind.f64.format.order hi 18442240474082181120 == some Ordering.gt) = true)
    (k3 : ∀ W, Calls Tryz.prog 14 #[.float .f64 lo] W fun e w' => e = .returned (.bool true) ∧ w' = W)
    (k4 : ∀ W, Calls Tryz.prog 14 #[.float .f64 hi] W fun e w' => e = .returned (.bool s) ∧ w' = W) :
    Calls Tryz.prog 5 #[.agg #[.float .f64 lo, .float .f64 hi]] w fun r w' => r = .returned (.bool s) ∧ Below w.heap.size w w' := by
  obtain ⟨W, hW⟩ : ∃ W, W = w.alloc (.cells #[.float .f64 lo, .float .f64 hi] 24) := ⟨_, rfl⟩
  have HX : Hid (Below w.heap.size w W) := by rw [hW]; exact (Below.refl _ _).alloc (Nat.le_refl _) _
  have hcl : W.cell? ⟨w.heap.size, 0, none⟩ = some (.float .f64 lo) ∧ W.cell? ⟨w.heap.size, 1, none⟩ = some (.float .f64 hi) := by rw [hW]; exact box_cells2 (heap_alloc_new _ _)
  obtain ⟨c0, c1⟩ := hcl
  go_enter Tryz.func5, Tryz.ntmps5
  go_upto_region 1 with fail
  rw [← hW]
  clear hW
  go_quiet (first | (go_at_call 13; first | (with_reducible refine Calls.quiet_of_same (cinf_p _)) | (with_reducible refine Calls.quiet_of_same (cinf_m _))) | (go_at_call 14; first | (with_reducible refine Calls.quiet_of_same (k3 _)) | (with_reducible refine Calls.quiet_of_same (k4 _))))
  go_wp2
  go_ret
  exact ⟨rfl, bdrewN HX.out _⟩
theorem d8valid (lo hi : Nat) (h1 : lo < 18446744073709551616) (h2 : hi < 18446744073709551616) (w : World) :
    Calls Tryz.prog 5 #[.agg #[.float .f64 lo, .float .f64 hi]] w fun r w' => r = .returned (.bool (vI lo hi)) ∧ Below w.heap.size w w' := by
  have o1 := ord_le lo hi h1 h2
  have o2 := ord_lt lo 9218868437227405312 h1 (by omega)
  have o3 := ord_gt hi 18442240474082181120 h2 (by omega)
  have k3 := dclean lo h1
  have k4 := dclean hi h2
  unfold vI
  rw [decide_not, decide_not]
  cases hl : le lo hi
  · rw [hl] at o1
    exact dvalid_1 lo hi w _ _ _ _ o1 o2 o3 k3 k4
  · rw [hl] at o1
    cases hp : lt lo 9218868437227405312
    · rw [hp] at o2
      exact dvalid_2 lo hi w _ _ _ o1 o2 o3 k3 k4
    · rw [hp] at o2
      cases hq : lt 18442240474082181120 hi
      · rw [hq] at o3
        exact dvalid_3 lo hi w _ _ o1 o2 o3 k3 k4
      · rw [hq] at o3
        cases hs : decide (lo = 9223372036854775808)
        · rw [hs] at k3
          exact dvalid_5 lo hi w _ o1 o2 o3 k3 k4
        · rw [hs] at k3
          exact dvalid_4 lo hi w _ o1 o2 o3 k3 k4
end Go.Proofs.YtlicjplmcepbnaaGreatDoor
/- mayBe, of two intervals; between, All. -/
namespace Go.Proofs.YtlicjplmcepbnaaGreatDoor
set_option linter.unusedVariables false
set_option linter.unusedSimpArgs false
open Go.RowKit Go.Fl64

theorem run_store_flt (P : Program) (w : World) (a : Addr) (m : Mode) (k : FloatKind) (n : Nat) : (store a (.float k n) m).run P w = stored P w a (.float k n) m := run_store P w a _ m rfl
attribute [local go_sem] run_store_flt

set_option maxRecDepth 200000 in
theorem smaybe_1 (g k : Nat) (lo hi : Nat → Nat) (w : World) (hk : k ≤ 3)
    (h0 : ∀ i, i < k → w.cell? ⟨g, i * 2, none⟩ = some (.float .f64 (lo i))) (h1 : ∀ i, i < k → w.cell? ⟨g, i * 2 + 1, none⟩ = some (.float .f64 (hi i)))
    (b0 : ∀ i, lo i < 18446744073709551616) (b1 : ∀ i, hi i < 18446744073709551616) :
    Calls Tryz.prog 12 #[.slice (some ⟨g, 0, none⟩) k k] w fun r w' => r = .returned (.bool (decide (∀ i, i < k → vI (lo i) (hi i) = true))) ∧ Below w.heap.size w w' := by
  generalize hans : decide (∀ i, i < k → vI (lo i) (hi i) = true) = ans
  have HA : Hid (ans = decide (∀ i, i < k → vI (lo i) (hi i) = true)) := hans.symm
  clear hans
  go_enter Tryz.func12, Tryz.ntmps12
  go_wp2
  go_loopw [7] (fun i wr => ∃ j : Nat, j ≤ k ∧ i = .int .i64 j ∧ Hid (Below w.heap.size w wr) ∧ Hid (∀ i, i < j → vI (lo i) (hi i) = true)) (fun i _ => k - (intOf i).toNat)
  case atStart => exact ⟨0, Nat.zero_le _, rfl, Below.refl _ _, (fun i hi' => absurd hi' (Nat.not_lt_zero _) : ∀ i, i < 0 → vI (lo i) (hi i) = true)⟩
  case round =>
    obtain ⟨j, hj, rfl, hB, hok⟩ := hrel
    by_cases hjk : j < k
    · have a0 : wr.cell? ⟨g, j * 2, none⟩ = some (.float .f64 (lo j)) := (hB.out.cell (World.block_lt_of_cell? _ _ (h0 j hjk))).trans (h0 j hjk)
      have a1 : wr.cell? ⟨g, j * 2 + 1, none⟩ = some (.float .f64 (hi j)) := (hB.out.cell (World.block_lt_of_cell? _ _ (h1 j hjk))).trans (h1 j hjk)
      have hg : g < wr.heap.size := World.block_lt_of_cell? _ _ a0
      have hji : (j : Int) < (k : Int) := by omega
      clear h0 h1
      have k18 := svalid (lo j) (hi j) (b0 j) (b1 j) (wr.alloc (.cells #[.float .f64 (lo j), .float .f64 (hi j)] 24))
      generalize hokj : vI (lo j) (hi j) = okj at *
      have HOK : Hid (vI (lo j) (hi j) = okj) := hokj
      clear hokj b0 b1
      go_wp2_with fail
      refine k18.mono ?_
      rintro r w1 ⟨rfl, hw1⟩
      have HB1 : Hid (Below w.heap.size w w1) := (hB.out.alloc hB.out.size _).trans (hw1.mono (by have := hB.out.size; simp; omega))
      clear hw1 k18
      cases okj
      · go_wp2
        go_ret
        refine ⟨congrArg Ending.returned (congrArg Value.bool ?_), HB1.out⟩
        rw [HA.out, decide_eq_false]
        intro h
        have := h j hjk
        rw [HOK.out] at this
        exact absurd this (by decide)
      · go_wp2
        exact ⟨⟨j + 1, by omega, by simp, HB1, (fun i hi' => by
          by_cases e1 : i = j
          · subst e1; exact HOK.out
          · exact hok.out i (by omega) : ∀ i, i < j + 1 → vI (lo i) (hi i) = true)⟩, by simp [intOf]; omega⟩
    · obtain rfl : j = k := by omega
      clear h0 h1
      go_wp2
      go_ret
      refine ⟨congrArg Ending.returned (congrArg Value.bool ?_), hB.out⟩
      rw [HA.out, decide_eq_true hok.out]
theorem box_cells_2x2 {w : World} {g : Nat} {a b c d : Value} {T : TypeId} (h : w.heap[g]? = some (.cells #[a, b, c, d] T (0, 0))) : w.cell? ⟨g, 0, none⟩ = some a ∧ w.cell? ⟨g, 1, none⟩ = some b ∧ w.cell? ⟨g, 2, none⟩ = some c ∧ w.cell? ⟨g, 3, none⟩ = some d := by
  simp [World.cell?, h]
/-- mayBe of two intervals that lie in a new row -/
theorem smaybe {a b c d g : Nat} {T : TypeId} {w : World} (h : w.heap[g]? = some (.cells #[.float .f64 a, .float .f64 b, .float .f64 c, .float .f64 d] T (0, 0)))
    (ha : a < 18446744073709551616) (hb : b < 18446744073709551616) (hc : c < 18446744073709551616) (hd : d < 18446744073709551616) :
    Calls Tryz.prog 12 #[.slice (some ⟨g, 0, none⟩) 2 2] w fun r w' => r = .returned (.bool (vI a b && vI c d)) ∧ Below w.heap.size w w' := by
  obtain ⟨x0, x1, x2, x3⟩ := box_cells_2x2 h
  have k := smaybe_1 g 2 (fun i => if i = 0 then a else c) (fun i => if i = 0 then b else d) w (by omega)
    (fun i hi => by rcases (show i = 0 ∨ i = 1 by omega) with rfl | rfl; exact x0; exact x2)
    (fun i hi => by rcases (show i = 0 ∨ i = 1 by omega) with rfl | rfl; exact x1; exact x3)
    (fun i => by split <;> assumption) (fun i => by split <;> assumption)
  have e : decide (∀ i, i < 2 → vI (if i = 0 then a else c) (if i = 0 then b else d) = true) = (vI a b && vI c d) := by
    rw [Bool.eq_iff_iff, decide_eq_true_eq, Bool.and_eq_true]
    constructor
    · intro h
      exact ⟨h 0 (by omega), h 1 (by omega)⟩
    · rintro ⟨h1, h2⟩ i hi
      rcases (show i = 0 ∨ i = 1 by omega) with rfl | rfl
      · exact h1
      · exact h2
  rw [e] at k
  exact k

theorem iv_info : (Tryz.prog.info? 24).map (·.size) = some 2 := by kernel_rfl
theorem sall (w : World) : Calls Tryz.prog 18 #[] w fun r w' => r = .returned (.agg #[.float .f64 18442240474082181120, .float .f64 9218868437227405312]) ∧ Below w.heap.size w w' := by
  go_enter Tryz.func18, Tryz.ntmps18
  go_wp2_with (first | (go_at_call 13; first | (with_reducible refine (cinf_p _).mono ?_; rintro r w' ⟨rfl, rfl⟩) | (with_reducible refine (cinf_m _).mono ?_; rintro r w' ⟨rfl, rfl⟩)))
  refine bodyPost_ret (results_cell_row rfl _ _ w.heap.size 24 #[.float .f64 18442240474082181120, .float .f64 9218868437227405312] (0, 0) _ rfl (heap_alloc_new _ _) Tryz.underlying24 rfl iv_info) rfl ?_
  exact ⟨rfl, (Below.refl _ _).alloc (Nat.le_refl _) _⟩
theorem sbetween (a b : Nat) (w : World) (ha : a < 18446744073709551616) (hb : b < 18446744073709551616) : Calls Tryz.prog 26 #[.float .f64 a, .float .f64 b] w fun r w' => r = .returned (.agg #[.float .f64 (pl a), .float .f64 (pl b)]) ∧ Below w.heap.size w w' := by
  have k1 := ppl a ha
  have k2 := ppl b hb
  generalize pl a = A at *
  generalize pl b = C at *
  go_enter Tryz.func26, Tryz.ntmps26
  go_wp2_with (first | (go_at_call 46; first | (with_reducible refine (k1 _).mono ?_; rintro r w' ⟨rfl, rfl⟩) | (with_reducible refine (k2 _).mono ?_; rintro r w' ⟨rfl, rfl⟩)))
  refine bodyPost_ret (results_cell_row rfl _ _ w.heap.size 24 #[.float .f64 A, .float .f64 C] (0, 0) _ rfl (heap_alloc_new _ _) Tryz.underlying24 rfl iv_info) rfl ?_
  exact ⟨rfl, (Below.refl _ _).alloc (Nat.le_refl _) _⟩
end Go.Proofs.YtlicjplmcepbnaaGreatDoor
