/- Own work: contracts of the program's functions, part 7: L10 L17 L14 W51 W52 FM FM2 F1 F6 F7 FM3 L6 L8 FM4 FM5 RT0 RT1 RT3 RT4 RT5 RT6 RT7 RY1 RY2 RY3 RY4 FM6 FM7 FM8 RY5 SA7 SA8 SA9 UA1 UA2 UA3 UA4 UA5. -/
import Derived.Test.YtdfkpjagnndfdaaGreatDoorA6
import Derived.Test.YtdfkpjagnndfdaaGreatDoorA4
import Derived.Test.YtdfkpjagnndfdaaGreatDoorA1
import Derived.Test.YtdfkpjagnndfdaaGreatDoorA3
import Derived.Test.YtdfkpjagnndfdaaGreatDoorA5
import Derived.RangeFuncNested
import Derived.RangeFuncBound
import Derived.RangeFuncCalls
import Derived.RangeFuncLeaves
import Derived.Test.YtdfkpjagnndfdaaGreatDoorA2
import Derived.Shelf.Abstract
import Derived.Shelf.RegionOpen
import Derived.WalkKit
import Derived.OwnWalkIn
import Derived.TacticsInMore
import Derived.LoopNIn
import Derived.LoopIn

/- DyadSums. -/
namespace Go.Proofs.YtdfkpjagnndfdaaGreatDoor
set_option linter.unusedVariables false
set_option linter.unusedSimpArgs false
open Go.RowKit

theorem Ans.len {V : Bool} {t : Bool × Nat × Int} (h : V = true → dlen t.2.1 ≤ 35184372088832) : dlen (Ans V t).2.1 ≤ 35184372088832 := by
  unfold Ans
  cases V
  · rw [if_neg (by simp)]; show dlen 0 ≤ _; rw [dlen_zero]; omega
  · rw [if_pos rfl]; exact h rfl
end Go.Proofs.YtdfkpjagnndfdaaGreatDoor
/- DyadCuts. -/
namespace Go.Proofs.YtdfkpjagnndfdaaGreatDoor
set_option linter.unusedVariables false
set_option linter.unusedSimpArgs false
open Go.RowKit

end Go.Proofs.YtdfkpjagnndfdaaGreatDoor
/- DyadOrder: the law's walk. -/
namespace Go.Proofs.YtdfkpjagnndfdaaGreatDoor
set_option linter.unusedVariables false
set_option linter.unusedSimpArgs false
open Go.RowKit

end Go.Proofs.YtdfkpjagnndfdaaGreatDoor
/- The program's Sqrt. -/
namespace Go.Proofs.YtdfkpjagnndfdaaGreatDoor
set_option linter.unusedVariables false
set_option linter.unusedSimpArgs false
open Go.RowKit

end Go.Proofs.YtdfkpjagnndfdaaGreatDoor
/- The program's Ratio. -/
namespace Go.Proofs.YtdfkpjagnndfdaaGreatDoor
set_option linter.unusedVariables false
set_option linter.unusedSimpArgs false
open Go.RowKit

end Go.Proofs.YtdfkpjagnndfdaaGreatDoor
/- The values of floats by their bodies, and how values are rounded: plain facts. -/
namespace Go.Proofs.YtdfkpjagnndfdaaGreatDoor
set_option linter.unusedVariables false
set_option linter.unusedSimpArgs false

/-- the value of a float's body (its bits without the sign), in units of 2^-1074 -/
def bv (b : Nat) : Nat := if b < 4503599627370496 then b else (4503599627370496 + b % 4503599627370496) * 2 ^ (b / 4503599627370496 - 1)
theorem bv_at {j q : Nat} (h : (j = 0 ∧ q ≤ 9007199254740992) ∨ (4503599627370496 ≤ q ∧ q ≤ 9007199254740992)) : bv (j * 4503599627370496 + q) = q * 2 ^ j := by
  unfold bv
  by_cases h1 : j * 4503599627370496 + q < 4503599627370496
  · have hj : j = 0 := by omega
    subst hj
    rw [if_pos h1]; simp
  · rw [if_neg h1]
    by_cases h2 : q = 9007199254740992
    · subst h2
      rw [show (j * 4503599627370496 + 9007199254740992) % 4503599627370496 = 0 by omega, show (j * 4503599627370496 + 9007199254740992) / 4503599627370496 - 1 = j + 1 by omega, Nat.pow_succ]
      omega
    · have h3 : 4503599627370496 ≤ q := by omega
      rw [show (j * 4503599627370496 + q) % 4503599627370496 = q - 4503599627370496 by omega, show (j * 4503599627370496 + q) / 4503599627370496 - 1 = j by omega]
      rw [show 4503599627370496 + (q - 4503599627370496) = q by omega]
theorem bv_form (b : Nat) : ∃ j q, b = j * 4503599627370496 + q ∧ bv b = q * 2 ^ j ∧ bv (b + 1) = (q + 1) * 2 ^ j := by
  by_cases h : b < 4503599627370496
  · refine ⟨0, b, by omega, ?_, ?_⟩
    · have := bv_at (j := 0) (q := b) (.inl ⟨rfl, by omega⟩); simpa using this
    · have := bv_at (j := 0) (q := b + 1) (.inl ⟨rfl, by omega⟩); simpa using this
  · have e : b = (b / 4503599627370496 - 1) * 4503599627370496 + (4503599627370496 + b % 4503599627370496) := by omega
    refine ⟨_, _, e, ?_, ?_⟩
    · have := bv_at (j := b / 4503599627370496 - 1) (q := 4503599627370496 + b % 4503599627370496) (.inr ⟨by omega, by omega⟩)
      rw [← e] at this; exact this
    · have := bv_at (j := b / 4503599627370496 - 1) (q := 4503599627370496 + b % 4503599627370496 + 1) (.inr ⟨by omega, by omega⟩)
      rw [← Nat.add_assoc, ← e] at this; exact this
theorem bv_succ (b : Nat) : bv b < bv (b + 1) := by
  obtain ⟨j, q, -, h1, h2⟩ := bv_form b
  rw [h1, h2]
  exact Nat.mul_lt_mul_of_pos_right (by omega) (Nat.two_pow_pos j)
theorem bv_lt {a b : Nat} (h : a < b) : bv a < bv b := by
  induction b with
  | zero => omega
  | succ b ih =>
    by_cases h1 : a < b
    · exact Nat.lt_trans (ih h1) (bv_succ b)
    · obtain rfl : a = b := by omega
      exact bv_succ a
theorem bv_le {a b : Nat} (h : a ≤ b) : bv a ≤ bv b := by
  by_cases h1 : a = b
  · rw [h1]; exact Nat.le_refl _
  · exact Nat.le_of_lt (bv_lt (by omega))
theorem bv_inj_lt {a b : Nat} (h : bv a < bv b) : a < b := by
  apply Decidable.byContradiction
  intro h1
  have := bv_le (a := b) (b := a) (by omega)
  omega

/-- the number x·2^e (x' / 2^k units of the body's rung j) -/
structure IsR (x : Nat) (e : Int) (j X k : Nat) : Prop where
  eq : ∀ K : Nat, 0 ≤ e + K → 0 ≤ (j : Int) - 1074 - k + K → X * 2 ^ ((j : Int) - 1074 - k + K).toNat = x * 2 ^ (e + K).toNat
  lt : X / 2 ^ k < 9007199254740992
  ge : j = 0 ∨ 4503599627370496 ≤ X / 2 ^ k

/-- how a value A (in units u of 2^-1074) lies at the bodies b and b + 1, by what is left over -/
structure Lies (A u b : Nat) (r m : Nat) : Prop where
  lo : bv b * u ≤ A
  hi : A < bv (b + 1) * u
  ex : r = 0 ↔ A = bv b * u
  half_lt : 2 * r < m ↔ 2 * A < (bv b + bv (b + 1)) * u
  half_eq : 2 * r = m ↔ 2 * A = (bv b + bv (b + 1)) * u
theorem IsR.lies {x : Nat} {e : Int} {j X k : Nat} (h : IsR x e j X k) {K : Nat} (hK : 1074 ≤ K) (h1 : 0 ≤ e + K) (h2 : 0 ≤ (j : Int) - 1074 - k + K) :
    Lies (x * 2 ^ (e + K).toNat) (2 ^ (K - 1074)) (j * 4503599627370496 + X / 2 ^ k) (X % 2 ^ k) (2 ^ k) := by
  have eq := h.eq K h1 h2
  have hl := h.lt
  have hg := h.ge
  have b0 : bv (j * 4503599627370496 + X / 2 ^ k) = X / 2 ^ k * 2 ^ j := bv_at (j := j) (q := X / 2 ^ k) (by
    generalize X / 2 ^ k = q at *
    rcases hg with g | g
    · exact .inl ⟨g, by omega⟩
    · exact .inr ⟨g, by omega⟩)
  have b1 : bv (j * 4503599627370496 + X / 2 ^ k + 1) = (X / 2 ^ k + 1) * 2 ^ j := by
    have := bv_at (j := j) (q := X / 2 ^ k + 1) (by
      generalize X / 2 ^ k = q at *
      rcases hg with g | g
      · exact .inl ⟨g, by omega⟩
      · exact .inr ⟨by omega, by omega⟩)
    rw [← Nat.add_assoc] at this
    exact this
  have hu : 2 ^ j * 2 ^ (K - 1074) = 2 ^ k * 2 ^ ((j : Int) - 1074 - k + K).toNat := by
    rw [← Nat.pow_add, ← Nat.pow_add, show j + (K - 1074) = k + ((j : Int) - 1074 - k + K).toNat by omega]
  have hX : X = 2 ^ k * (X / 2 ^ k) + X % 2 ^ k := (Nat.div_add_mod X (2 ^ k)).symm
  have hr : X % 2 ^ k < 2 ^ k := Nat.mod_lt _ (Nat.two_pow_pos k)
  have hU : 0 < 2 ^ ((j : Int) - 1074 - k + K).toNat := Nat.two_pow_pos _
  rw [← eq]
  generalize 2 ^ ((j : Int) - 1074 - k + K).toNat = U at *
  generalize X / 2 ^ k = q at *
  generalize X % 2 ^ k = r at *
  generalize 2 ^ k = M at *
  generalize 2 ^ j = J at *
  generalize 2 ^ (K - 1074) = u at *
  have e0 : bv (j * 4503599627370496 + q) * u = q * (M * U) := by rw [b0, Nat.mul_assoc, hu]
  have e1 : bv (j * 4503599627370496 + q + 1) * u = (q + 1) * (M * U) := by rw [b1, Nat.mul_assoc, hu]
  have eA : X * U = q * (M * U) + r * U := by rw [hX, Nat.add_mul]; congr 1; rw [← Nat.mul_assoc, Nat.mul_comm q M]
  have e1' : (q + 1) * (M * U) = q * (M * U) + M * U := by rw [Nat.add_mul, Nat.one_mul]
  have hrU : r * U < M * U := Nat.mul_lt_mul_of_pos_right hr hU
  have hr0 : r = 0 ↔ r * U = 0 := by
    constructor
    · rintro rfl; simp
    · intro h; rcases Nat.mul_eq_zero.1 h with h | h
      · exact h
      · omega
  have hh1 : 2 * r < M ↔ 2 * (r * U) < M * U := by
    rw [← Nat.mul_assoc]
    exact (Nat.mul_lt_mul_right hU).symm
  have hh2 : 2 * r = M ↔ 2 * (r * U) = M * U := by
    rw [← Nat.mul_assoc]
    exact (Nat.mul_left_inj (by omega)).symm
  refine ⟨?_, ?_, ?_, ?_, ?_⟩
  · rw [e0, eA]; omega
  · rw [e1, eA, e1']; omega
  · rw [hr0, e0, eA]; omega
  · rw [hh1, Nat.add_mul, e0, e1, eA, e1']; omega
  · rw [hh2, Nat.add_mul, e0, e1, eA, e1']; omega

/-- a value rounded by a way: 0 inward, 1 to the nearest, 2 outward; no greatest one -/
structure Rounds (A u b way : Nat) : Prop where
  fl : ∃ b0, (bv b0 * u ≤ A ∧ A < bv (b0 + 1) * u) ∧ (way = 0 → b = b0) ∧ (way = 2 → b = if A = bv b0 * u then b0 else b0 + 1) ∧ (way = 1 → b = if 2 * A < (bv b0 + bv (b0 + 1)) * u then b0 else if 2 * A = (bv b0 + bv (b0 + 1)) * u then b0 + b0 % 2 else b0 + 1)
theorem floor_mono {A A' u b b' : Nat} (h : A ≤ A') (h1 : bv b * u ≤ A) (h2 : A' < bv (b' + 1) * u) : b ≤ b' := by
  have h3 : bv b * u < bv (b' + 1) * u := by omega
  have h4 : bv b < bv (b' + 1) := Nat.lt_of_mul_lt_mul_right h3
  have := bv_inj_lt h4
  omega
theorem Rounds.mono {A A' u b b' way : Nat} (hw : way = 0 ∨ way = 1 ∨ way = 2) (h : Rounds A u b way) (h' : Rounds A' u b' way) (hle : A ≤ A') : b ≤ b' := by
  obtain ⟨b0, ⟨l, g⟩, w0, w2, w1⟩ := h.fl
  obtain ⟨b1, ⟨l', g'⟩, w0', w2', w1'⟩ := h'.fl
  have hb := floor_mono hle l g'
  rcases hw with hw | hw | hw
  · rw [w0 hw, w0' hw]; exact hb
  · rw [w1 hw, w1' hw]
    by_cases he : b0 = b1
    · subst he
      split
      · split
        · exact Nat.le_refl _
        · split <;> omega
      · split
        · split
          · omega
          · split
            · exact Nat.le_refl _
            · have : b0 % 2 < 2 := Nat.mod_lt _ (by omega)
              omega
        · rw [if_neg (by omega), if_neg (by omega)]; exact Nat.le_refl _
    · have hlt : b0 < b1 := by omega
      have h1 : (if 2 * A < (bv b0 + bv (b0 + 1)) * u then b0 else if 2 * A = (bv b0 + bv (b0 + 1)) * u then b0 + b0 % 2 else b0 + 1) ≤ b0 + 1 := by
        split
        · omega
        · split <;> omega
      have h2 : b1 ≤ (if 2 * A' < (bv b1 + bv (b1 + 1)) * u then b1 else if 2 * A' = (bv b1 + bv (b1 + 1)) * u then b1 + b1 % 2 else b1 + 1) := by
        split
        · omega
        · split <;> omega
      omega
  · rw [w2 hw, w2' hw]
    by_cases he : b0 = b1
    · subst he
      split
      · split <;> omega
      · rw [if_neg (by omega)]; exact Nat.le_refl _
    · split
      · split <;> omega
      · split <;> omega
/-- inward is not above nearest, nor that above outward; inward and outward hold the value -/
theorem Rounds.order {A u b0 b1 b2 : Nat} (h0 : Rounds A u b0 0) (h1 : Rounds A u b1 1) (h2 : Rounds A u b2 2) : b0 ≤ b1 ∧ b1 ≤ b2 ∧ bv b0 * u ≤ A ∧ A ≤ bv b2 * u ∧ (b0 = b2 → A = bv b0 * u) := by
  obtain ⟨c0, ⟨l0, g0⟩, w0, -, -⟩ := h0.fl
  obtain ⟨c1, ⟨l1, g1⟩, -, -, w1⟩ := h1.fl
  obtain ⟨c2, ⟨l2, g2⟩, -, w2, -⟩ := h2.fl
  have e1 : c1 = c0 := by
    have := floor_mono (Nat.le_refl A) l1 g0
    have := floor_mono (Nat.le_refl A) l0 g1
    omega
  have e2 : c2 = c0 := by
    have := floor_mono (Nat.le_refl A) l2 g0
    have := floor_mono (Nat.le_refl A) l0 g2
    omega
  subst e1; subst e2
  have r0 := w0 rfl
  have r1 := w1 rfl
  have r2 := w2 rfl
  subst r0
  have hu : 0 < u := by
    apply Decidable.byContradiction
    intro h
    have : u = 0 := by omega
    subst this
    simp at g0
  have hs : bv b0 * u < bv (b0 + 1) * u := Nat.mul_lt_mul_of_pos_right (bv_succ b0) hu
  have hm : (bv b0 + bv (b0 + 1)) * u = bv b0 * u + bv (b0 + 1) * u := Nat.add_mul ..
  have hp : b0 % 2 < 2 := Nat.mod_lt _ (by omega)
  refine ⟨?_, ?_, l0, ?_, ?_⟩
  · rw [r1]
    split
    · omega
    · split <;> omega
  · rw [r1, r2]
    by_cases he : A = bv b0 * u
    · rw [if_pos he, if_pos (by omega)]; exact Nat.le_refl _
    · rw [if_neg he]
      split
      · omega
      · split <;> omega
  · rw [r2]
    split
    · omega
    · omega
  · intro h
    rw [r2] at h
    split at h
    · assumption
    · omega
end Go.Proofs.YtdfkpjagnndfdaaGreatDoor
/- The program's rounding rounds: the body that Make makes of toFloat's digits. -/
namespace Go.Proofs.YtdfkpjagnndfdaaGreatDoor
set_option linter.unusedVariables false
set_option linter.unusedSimpArgs false
open Go.RowKit Go.Fl64
open Ie

theorem or_one_half (y : Nat) : (y ||| 1) / 2 = y / 2 := by rw [Nat.or_div_two]; simp
theorem or_one_odd (y : Nat) : (y ||| 1) % 2 = 1 := Nat.or_mod_two_eq_one.2 (.inr rfl)
theorem or_one_eq (y : Nat) : y ||| 1 = 2 * (y / 2) + 1 := by
  have h1 := or_one_half y
  have h2 := or_one_odd y
  omega
/-- what was left out, told by an odd last digit, is rounded as it is -/
theorem rnd_sticky {x D k y m : Nat} {way : Int} (hk : 2 ≤ k) (hy : y = x / 2 ^ D) (hm : (x % 2 ^ D = 0 ∧ m = y) ∨ (x % 2 ^ D ≠ 0 ∧ m = 2 * (y / 2) + 1)) : rnd m k way = rnd x (D + k) way := by
  obtain ⟨h, rfl⟩ : ∃ h, k = h + 2 := ⟨k - 2, by omega⟩
  have e2 : (2 : Nat) ^ (h + 2) = 2 * (2 * 2 ^ h) := by rw [Nat.pow_succ, Nat.pow_succ]; omega
  have eD : (2 : Nat) ^ (D + (h + 2)) = 2 ^ D * 2 ^ (h + 2) := Nat.pow_add ..
  have hq : m / 2 ^ (h + 2) = x / 2 ^ (D + (h + 2)) := by
    rw [eD, ← Nat.div_div_eq_div_mul, ← hy]
    rcases hm with ⟨-, hm⟩ | ⟨-, hm⟩
    · rw [hm]
    · have hd : ∀ z, z / (2 * (2 * 2 ^ h)) = z / 2 / (2 * 2 ^ h) := fun z => (Nat.div_div_eq_div_mul ..).symm
      rw [e2, hd, hd, hm, show (2 * (y / 2) + 1) / 2 = y / 2 by omega]
  have hR : x % 2 ^ (D + (h + 2)) = (y % 2 ^ (h + 2)) * 2 ^ D + x % 2 ^ D := by
    rw [eD, Nat.mod_mul, hy, Nat.mul_comm]; omega
  have hM : (x % 2 ^ D = 0 ∧ m % 2 ^ (h + 2) = y % 2 ^ (h + 2)) ∨ (x % 2 ^ D ≠ 0 ∧ m % 2 ^ (h + 2) = 2 * (y % 2 ^ (h + 2) / 2) + 1) := by
    rcases hm with ⟨h1, hm⟩ | ⟨h1, hm⟩
    · exact .inl ⟨h1, by rw [hm]⟩
    · refine .inr ⟨h1, ?_⟩
      rw [hm, e2]
      generalize 2 ^ h = H
      rw [Nat.mod_mul, Nat.mod_mul (x := y), show (2 * (y / 2) + 1) % 2 = 1 by omega, show (2 * (y / 2) + 1) / 2 = y / 2 by omega]
      generalize y / 2 % (2 * H) = t
      omega
  have hrx : x % 2 ^ D < 2 ^ D := Nat.mod_lt _ (Nat.two_pow_pos D)
  have hp : 0 < 2 ^ D := Nat.two_pow_pos D
  have i0 : m % 2 ^ (h + 2) = 0 ↔ x % 2 ^ (D + (h + 2)) = 0 := by
    rw [hR]
    rcases hM with ⟨h1, h2⟩ | ⟨h1, h2⟩
    · rw [h1, h2, Nat.add_zero]
      constructor
      · intro e; rw [e, Nat.zero_mul]
      · intro e; rcases Nat.mul_eq_zero.1 e with e | e
        · exact e
        · omega
    · rw [h2]; omega
  have key : ∀ c : Nat, c = 2 * 2 ^ h → (2 ^ (h + 2) < 2 * (m % 2 ^ (h + 2)) ↔ 2 ^ (D + (h + 2)) < 2 * (x % 2 ^ (D + (h + 2)))) ∧ (2 * (m % 2 ^ (h + 2)) = 2 ^ (h + 2) ↔ 2 * (x % 2 ^ (D + (h + 2))) = 2 ^ (D + (h + 2))) := by
    intro c hc
    rw [hR, eD]
    have e3 : (2 : Nat) ^ (h + 2) = 2 * c := by rw [e2, hc]
    rw [e3] at hM ⊢
    have hc2 : c % 2 = 0 := by omega
    generalize y % (2 * c) = ry at *
    generalize m % (2 * c) = rm at *
    generalize x % 2 ^ D = rx at *
    generalize 2 ^ D = T at *
    have a1 : T * (2 * c) = 2 * (c * T) := by rw [Nat.mul_comm T, Nat.mul_assoc]
    rw [a1]
    rcases hM with ⟨h1, h2⟩ | ⟨h1, h2⟩
    · subst h1
      rw [h2, Nat.add_zero]
      constructor
      · constructor
        · intro g; have := Nat.mul_lt_mul_of_pos_right (show c < ry by omega) hp; omega
        · intro g; have : c * T < ry * T := by omega
          have := Nat.lt_of_mul_lt_mul_right this; omega
      · constructor
        · intro g; rw [show ry = c by omega]
        · intro g; have := Nat.eq_of_mul_eq_mul_right hp (show ry * T = c * T by omega); omega
    · have hlt : ry < c → ry * T + rx < c * T := by
        intro g
        have := Nat.mul_le_mul_right T (show ry + 1 ≤ c by omega)
        rw [Nat.add_mul, Nat.one_mul] at this
        omega
      have hge : c ≤ ry → c * T < ry * T + rx := by
        intro g
        have := Nat.mul_le_mul_right T g
        omega
      by_cases g : ry < c
      · have a2 := hlt g
        have a3 : rm < c := by omega
        clear hlt hge
        refine ⟨⟨fun g2 => ?_, fun g2 => ?_⟩, ⟨fun g2 => ?_, fun g2 => ?_⟩⟩
        · omega
        · omega
        · omega
        · omega
      · have a2 := hge (by omega)
        have a3 : c < rm := by omega
        clear hlt hge
        refine ⟨⟨fun g2 => ?_, fun g2 => ?_⟩, ⟨fun g2 => ?_, fun g2 => ?_⟩⟩
        · omega
        · omega
        · omega
        · omega
  have k1 := key _ rfl
  unfold rnd
  have hrup : Ie.rup m (h + 2) way = Ie.rup x (D + (h + 2)) way := by
    unfold Ie.rup
    rw [hq]
    simp only [k1.1, k1.2, ne_eq, i0]
  rw [hrup, hq]
theorem tz_iff {x n : Nat} (h0 : x ≠ 0) : tz x < n ↔ x % 2 ^ n ≠ 0 := by
  obtain ⟨h1, h2⟩ := tz_spec x x (Nat.le_refl _) h0
  constructor
  · intro hlt he
    have hd : 2 ^ (tz x + 1) ∣ x := Nat.dvd_trans (Nat.pow_dvd_pow 2 (by omega)) (Nat.dvd_of_mod_eq_zero he)
    obtain ⟨c, hc⟩ := hd
    have h3 : x / 2 ^ tz x = 2 * c := by
      rw [Nat.pow_succ, Nat.mul_assoc] at hc
      exact Nat.div_eq_of_eq_mul_right (Nat.two_pow_pos _) hc
    omega
  · intro hne
    apply Decidable.byContradiction
    intro hge
    apply hne
    have : 2 ^ n ∣ x := by rw [← h1]; exact Nat.dvd_trans (Nat.pow_dvd_pow 2 (by omega)) (Nat.dvd_mul_right _ _)
    exact Nat.mod_eq_zero_of_dvd this
theorem raw_of {x : Nat} {e : Int} {X m j k k1 : Nat} {s P : Int} {e' : Int} (hs : s = e' - (nz m : Int)) (hP : P = pl m e') (hk1 : (k1 : Int) = P - s) (hj : (j : Int) = P + 1074) (hr : ∀ way, rnd (tp m) k1 way = rnd X k way) (way : Int) : raw m e' way = ((j * 4503599627370496 + rnd X k way : Nat) : Int) := by
  unfold raw
  rw [← hP, ← hs, show (P - s).toNat = k1 by omega, hr]
  omega
/-- Make's body of a number is what its value is rounded to -/
theorem raw_is {x : Nat} {e : Int} (h0 : x ≠ 0) : ∃ j X k, IsR x e j X k ∧ (∀ way, raw (tfM true x) (e + (tfD x : Int)) way = ((j * 4503599627370496 + rnd X k way : Nat) : Int)) ∧ (k : Int) ≤ j + 1074 + (if e < 0 then -e else 0) + 64 ∧ -64 + min e (-1074) ≤ (j : Int) - 1074 - k := by
  by_cases hD : bl x ≤ 64
  · have eD : tfD x = 0 := by unfold tfD; omega
    have eM : tfM true x = x := by unfold tfM; rw [eD]; simp
    rw [eM, eD]
    have hx64 : x < 18446744073709551616 := (bl_le x 64).1 hD
    obtain ⟨n1, n2, n3⟩ := nz_facts x hx64 h0
    obtain ⟨P, hP⟩ : ∃ P, P = pl x (e + ((0 : Nat) : Int)) := ⟨_, rfl⟩
    have hPl := hP
    unfold pl at hPl
    have hPc : (P = -1074 ∧ e - nz x + 11 < -1074) ∨ (P = e - nz x + 11 ∧ -1074 ≤ P) := by
      split at hPl
      · exact .inl ⟨hPl, by omega⟩
      · exact .inr ⟨by omega, by omega⟩
    refine ⟨(P + 1074).toNat, tp x, (P - (e - nz x)).toNat, ⟨?_, ?_, ?_⟩, fun way => raw_of (x := x) (e := e) (m := x) (s := e - nz x) (P := P) (k1 := (P - (e - nz x)).toNat) (by omega) hP (by omega) (by omega) (fun _ => rfl) way, ?_, ?_⟩
    · intro K hK1 hK2
      unfold tp
      rw [Nat.mul_assoc, ← Nat.pow_add]
      congr 2
      omega
    · have : 2 ^ 11 ≤ 2 ^ (P - (e - nz x)).toNat := Nat.pow_le_pow_right (by omega) (by omega)
      refine Nat.div_lt_of_lt_mul ?_
      have : 2 ^ 11 * 9007199254740992 ≤ 2 ^ (P - (e - nz x)).toNat * 9007199254740992 := Nat.mul_le_mul_right _ this
      omega
    · rcases hPc with h | h
      · exact .inl (by omega)
      · refine .inr ?_
        rw [show (P - (e - nz x)).toNat = 11 by omega]
        omega
    · split <;> omega
    · omega
  · have eD : bl x = tfD x + 64 := by unfold tfD; omega
    obtain ⟨D, hDD⟩ : ∃ D, D = tfD x := ⟨_, rfl⟩
    rw [← hDD] at eD ⊢
    have hx1 : x < 2 ^ (D + 64) := by rw [← eD]; exact lt_bl x
    have hx2 : 2 ^ (D + 63) ≤ x := by have := le_bl h0; rw [eD] at this; exact this
    have hp : 0 < 2 ^ D := Nat.two_pow_pos D
    obtain ⟨y, hy⟩ : ∃ y, y = x / 2 ^ D := ⟨_, rfl⟩
    have hy1 : y < 18446744073709551616 := by rw [hy]; refine Nat.div_lt_of_lt_mul ?_; rw [Nat.pow_add] at hx1; exact hx1
    have hy2 : 9223372036854775808 ≤ y := by rw [hy, Nat.le_div_iff_mul_le hp, Nat.mul_comm]; rw [Nat.pow_add] at hx2; exact hx2
    have hm : (x % 2 ^ D = 0 ∧ tfM true x = y) ∨ (x % 2 ^ D ≠ 0 ∧ tfM true x = 2 * (y / 2) + 1) := by
      unfold tfM
      rw [← hDD, ← hy]
      by_cases hz : tz x < D
      · exact .inr ⟨(tz_iff h0).1 hz, by rw [decide_eq_true hz]; exact or_one_eq y⟩
      · refine .inl ⟨?_, by rw [decide_eq_false hz]; rfl⟩
        apply Decidable.byContradiction
        intro h
        exact hz ((tz_iff h0).2 h)
    obtain ⟨m, hmm⟩ : ∃ m, m = tfM true x := ⟨_, rfl⟩
    rw [← hmm] at hm ⊢
    have hm1 : m < 18446744073709551616 := by rcases hm with h | h <;> omega
    have hm2 : 9223372036854775808 ≤ m := by rcases hm with h | h <;> omega
    have hbm : bl m = 64 := bl_eq (n := 64) hm1 (.inr hm2)
    have hnz : nz m = 0 := by unfold nz; rw [← bl_bitLen, hbm]
    have htp : tp m = m := by unfold tp; rw [hnz]; simp
    obtain ⟨P, hP⟩ : ∃ P, P = pl m (e + (D : Int)) := ⟨_, rfl⟩
    have hPl := hP
    unfold pl at hPl
    rw [hnz] at hPl
    have hPc : (P = -1074 ∧ e + D + 11 < -1074) ∨ (P = e + D + 11 ∧ -1074 ≤ P) := by
      split at hPl
      · exact .inl ⟨hPl, by omega⟩
      · exact .inr ⟨by omega, by omega⟩
    have hq : ∀ k1, 11 ≤ k1 → x / 2 ^ (D + k1) = y / 2 ^ k1 := fun k1 _ => by rw [Nat.pow_add, ← Nat.div_div_eq_div_mul, hy]
    refine ⟨(P + 1074).toNat, x, D + (P - (e + D)).toNat, ⟨?_, ?_, ?_⟩, fun way => raw_of (x := x) (e := e) (m := m) (s := e + D) (P := P) (k1 := (P - (e + D)).toNat) (by rw [hnz]; omega) hP (by omega) (by omega) (fun way => by rw [htp]; exact rnd_sticky (by omega) hy hm) way, ?_, ?_⟩
    · intro K hK1 hK2
      congr 2
      omega
    · rw [hq _ (by omega)]
      have : 2 ^ 11 ≤ 2 ^ (P - (e + D)).toNat := Nat.pow_le_pow_right (by omega) (by omega)
      refine Nat.div_lt_of_lt_mul ?_
      have : 2 ^ 11 * 9007199254740992 ≤ 2 ^ (P - (e + D)).toNat * 9007199254740992 := Nat.mul_le_mul_right _ this
      omega
    · rcases hPc with h | h
      · exact .inl (by omega)
      · refine .inr ?_
        rw [hq _ (by omega), show (P - (e + D)).toNat = 11 by omega]
        omega
    · split <;> omega
    · omega
end Go.Proofs.YtdfkpjagnndfdaaGreatDoor
/- A float is made anew of its odd part and its exponent, whatever the way of rounding. -/
namespace Go.Proofs.YtdfkpjagnndfdaaGreatDoor.Ie
set_option linter.unusedVariables false
set_option linter.unusedSimpArgs false
open Go.RowKit Go.Fl64

end Go.Proofs.YtdfkpjagnndfdaaGreatDoor.Ie
/- DyadFloats: the law's walk. -/
namespace Go.Proofs.YtdfkpjagnndfdaaGreatDoor
set_option linter.unusedVariables false
set_option linter.unusedSimpArgs false
open Go.RowKit Go.Fl64

end Go.Proofs.YtdfkpjagnndfdaaGreatDoor
/- DyadFloats answers true, whatever the two floats are. -/
namespace Go.Proofs.YtdfkpjagnndfdaaGreatDoor
set_option linter.unusedVariables false
set_option linter.unusedSimpArgs false
open Go.RowKit Go.Fl64

/-- the parts of a finite float's number -/
def nN (a : Nat) : Bool := if mag a = 0 then false else neg a
def nM (a : Nat) : Nat := (Ie.sM a).toNat

theorem val_mant (a : Nat) (hf : mag a < 9218868437227405312) : val (mag a) = Ie.mant a * 2 ^ (Ie.lp a + 1074).toNat ∧ -1074 ≤ Ie.lp a ∧ Ie.lp a ≤ 972 := by
  unfold val Ie.mant Ie.lp
  by_cases h : mag a < 4503599627370496
  · rw [if_pos h, if_pos h]
    have : (-1075 + max 1 ((mag a / 4503599627370496 : Nat) : Int) + 1074).toNat = 0 := by omega
    rw [this, Nat.pow_zero, Nat.mul_one]
    exact ⟨rfl, by omega, by omega⟩
  · rw [if_neg h, if_neg h]
    have : (-1075 + max 1 ((mag a / 4503599627370496 : Nat) : Int) + 1074).toNat = mag a / 4503599627370496 - 1 := by omega
    rw [this]
    exact ⟨rfl, by omega, by omega⟩

theorem num_zero {a : Nat} (h0 : mag a = 0) : nM a = 0 ∧ Ie.sE a = 0 := by
  constructor
  · unfold nM Ie.sM
    rw [if_neg (by omega), if_pos h0]
    rfl
  · unfold Ie.sE
    rw [if_neg (by omega), if_pos h0]
theorem num_parts {a : Nat} (hf : mag a < 9218868437227405312) (h0 : mag a ≠ 0) :
    nM a % 2 = 1 ∧ nM a < 9007199254740992 ∧ -1074 ≤ Ie.sE a ∧ Ie.sE a ≤ 1100 ∧ nM a * 2 ^ (Ie.sE a + 1074).toNat = val (mag a) := by
  obtain ⟨v1, v2, v3⟩ := val_mant a hf
  have hb := Ie.mant_bound a
  have hne := Ie.mant_ne h0
  have hct : Lib.ctz 64 (Ie.mant a) = tz (Ie.mant a) := tz_ctz hne (by omega)
  obtain ⟨h1, h2⟩ := tz_spec _ (Ie.mant a) (Nat.le_refl _) hne
  have e1 : nM a = Ie.mant a / 2 ^ tz (Ie.mant a) := by
    unfold nM Ie.sM
    rw [if_neg (by omega), if_neg h0, hct]
    have : (Ie.mant a : Int) / 2 ^ tz (Ie.mant a) = ((Ie.mant a / 2 ^ tz (Ie.mant a) : Nat) : Int) := by simp
    rw [this, Int.toNat_natCast]
  have e2 : Ie.sE a = Ie.lp a + (tz (Ie.mant a) : Int) := by
    unfold Ie.sE
    rw [if_neg (by omega), if_neg h0, hct]
  rw [v1]
  generalize Ie.mant a = M at *
  generalize tz M = t at *
  generalize Ie.lp a = p at *
  have hq : M / 2 ^ t ≤ M := Nat.div_le_self ..
  have ht : t ≤ 53 := by
    apply Nat.le_of_not_lt
    intro h
    have h3 : 1 ≤ M / 2 ^ t := Nat.pos_of_ne_zero fun e0 => by rw [e0] at h2; simp at h2
    have h4 := Nat.mul_le_mul_left (2 ^ t) h3
    have h5 : 2 ^ 53 ≤ 2 ^ t := Nat.pow_le_pow_right (by omega) (by omega)
    have h6 : (2 : Nat) ^ 53 = 9007199254740992 := by decide
    omega
  refine ⟨by rw [e1]; exact h2, by rw [e1]; omega, by omega, by omega, ?_⟩
  rw [e1, e2, show (p + (t : Int) + 1074).toNat = t + (p + 1074).toNat by omega, Nat.pow_add, ← Nat.mul_assoc, Nat.mul_comm (M / 2 ^ t), h1]

end Go.Proofs.YtdfkpjagnndfdaaGreatDoor
/- What a number is rounded to, by its value. -/
namespace Go.Proofs.YtdfkpjagnndfdaaGreatDoor
set_option linter.unusedVariables false
set_option linter.unusedSimpArgs false
open Go.RowKit Go.Fl64
open Ie

theorem rnd0 (X k : Nat) : rnd X k ((0 : Nat) : Int) = X / 2 ^ k := by
  have h1 : ¬ (((0 : Nat) : Int) = 1) := by decide
  have h2 : ¬ (((0 : Nat) : Int) = 2) := by decide
  simp only [rnd, Ie.rup, if_neg h1, if_neg h2, Bool.false_eq_true, if_false]
theorem rnd2 (X k : Nat) : rnd X k ((2 : Nat) : Int) = if X % 2 ^ k = 0 then X / 2 ^ k else X / 2 ^ k + 1 := by
  have h1 : ¬ (((2 : Nat) : Int) = 1) := by decide
  have h2 : ((2 : Nat) : Int) = 2 := by decide
  simp only [rnd, Ie.rup, if_neg h1, if_pos h2]
  by_cases h : X % 2 ^ k = 0
  · rw [if_pos h, decide_eq_false (by simpa using h)]; rfl
  · rw [if_neg h, decide_eq_true h]; rfl
theorem rnd1 (X k : Nat) : rnd X k ((1 : Nat) : Int) = if 2 * (X % 2 ^ k) < 2 ^ k then X / 2 ^ k else if 2 * (X % 2 ^ k) = 2 ^ k then X / 2 ^ k + X / 2 ^ k % 2 else X / 2 ^ k + 1 := by
  have h0 : ((1 : Nat) : Int) = 1 := by decide
  simp only [rnd, Ie.rup, if_pos h0]
  by_cases h1 : 2 * (X % 2 ^ k) < 2 ^ k
  · rw [if_pos h1, decide_eq_false (show ¬ 2 ^ k < 2 * (X % 2 ^ k) by omega), decide_eq_false (show ¬ 2 * (X % 2 ^ k) = 2 ^ k by omega)]; rfl
  · rw [if_neg h1]
    by_cases h2 : 2 * (X % 2 ^ k) = 2 ^ k
    · rw [if_pos h2, decide_eq_false (show ¬ 2 ^ k < 2 * (X % 2 ^ k) by omega), decide_eq_true h2]
      by_cases h3 : X / 2 ^ k % 2 = 1
      · rw [decide_eq_true h3, h3]; rfl
      · rw [decide_eq_false h3, show X / 2 ^ k % 2 = 0 by omega]; rfl
    · rw [if_neg h2, decide_eq_true (show 2 ^ k < 2 * (X % 2 ^ k) by omega)]; rfl
/-- the body that x·2^e is rounded to, with no greatest one -/
def rwb (x : Nat) (e : Int) (way : Nat) : Nat := (raw (tfM true x) (e + (tfD x : Int)) (way : Int)).toNat
theorem rwb_rounds {x : Nat} {e : Int} (h0 : x ≠ 0) {K : Nat} (hK : 1200 ≤ K) (hK2 : 64 - e ≤ K) {way : Nat} : Rounds (x * 2 ^ (e + K).toNat) (2 ^ (K - 1074)) (rwb x e way) way := by
  obtain ⟨j, X, k, hR, hr, -, hl⟩ := raw_is (e := e) h0
  have L := hR.lies (K := K) (by omega) (by omega) (by omega)
  refine ⟨⟨j * 4503599627370496 + X / 2 ^ k, ⟨L.lo, L.hi⟩, ?_, ?_, ?_⟩⟩
  · intro h; subst h
    unfold rwb
    rw [hr, Int.toNat_natCast, rnd0]
  · intro h; subst h
    unfold rwb
    rw [hr, Int.toNat_natCast, rnd2]
    by_cases hx : X % 2 ^ k = 0
    · rw [if_pos hx, if_pos (L.ex.1 hx)]
    · rw [if_neg hx, if_neg (fun h => hx (L.ex.2 h)), Nat.add_assoc]
  · intro h; subst h
    unfold rwb
    rw [hr, Int.toNat_natCast, rnd1]
    have hpar : (j * 4503599627370496 + X / 2 ^ k) % 2 = X / 2 ^ k % 2 := by omega
    by_cases h1 : 2 * (X % 2 ^ k) < 2 ^ k
    · rw [if_pos h1, if_pos (L.half_lt.1 h1)]
    · rw [if_neg h1, if_neg (fun h => h1 (L.half_lt.2 h))]
      by_cases h2 : 2 * (X % 2 ^ k) = 2 ^ k
      · rw [if_pos h2, if_pos (L.half_eq.1 h2), hpar, Nat.add_assoc]
      · rw [if_neg h2, if_neg (fun h => h2 (L.half_eq.2 h)), Nat.add_assoc]
/-- the body as it is held in bounds -/
def bdy (x : Nat) (e : Int) (way : Nat) : Nat := if x = 0 then 0 else if rwb x e way < 9218868437227405312 then rwb x e way else if way = 0 then 9218868437227405311 else 9218868437227405312
theorem raw_nn {x : Nat} {e : Int} (h0 : x ≠ 0) (way : Nat) : raw (tfM true x) (e + (tfD x : Int)) (way : Int) = (rwb x e way : Int) := by
  obtain ⟨j, X, k, -, hr, -, -⟩ := raw_is (e := e) h0
  unfold rwb
  rw [hr]; rfl
theorem bod_eq {x : Nat} {e : Int} (h0 : x ≠ 0) (way : Nat) : (bod (tfM true x) (e + (tfD x : Int)) (way : Int)).toNat = bdy x e way := by
  unfold bod bdy
  rw [if_neg h0, raw_nn h0]
  by_cases h1 : rwb x e way < 9218868437227405312
  · rw [if_pos (by omega), if_pos h1]; rfl
  · rw [if_neg (by omega), if_neg h1]
    by_cases h2 : way = 0
    · subst h2; rfl
    · rw [if_neg h2]
      have : ((way : Int) == 0) = false := by simp; omega
      rw [this]; rfl
end Go.Proofs.YtdfkpjagnndfdaaGreatDoor
/- DyadRing answers true. -/
namespace Go.Proofs.YtdfkpjagnndfdaaGreatDoor
set_option linter.unusedVariables false
set_option linter.unusedSimpArgs false
open Go.RowKit Go.Fl64

end Go.Proofs.YtdfkpjagnndfdaaGreatDoor
/- DyadLeast answers true. -/
namespace Go.Proofs.YtdfkpjagnndfdaaGreatDoor
set_option linter.unusedVariables false
set_option linter.unusedSimpArgs false
open Go.RowKit Go.Fl64

theorem cmp_gt {a b : Int} (h : b < a) : 0 < cmpI a b := by
  rcases cmpI_cases a b with ⟨h1, h2⟩ | ⟨h1, h2⟩ | ⟨h1, h2⟩ <;> omega

end Go.Proofs.YtdfkpjagnndfdaaGreatDoor
/- Numbers with their signs, rounded each way. -/
namespace Go.Proofs.YtdfkpjagnndfdaaGreatDoor
set_option linter.unusedVariables false
set_option linter.unusedSimpArgs false
open Go.RowKit Go.Fl64
open Ie

/-- a value in units of 2^-K -/
def VA (K x : Nat) (e : Int) : Nat := x * 2 ^ (e + (K : Int)).toNat
def UU (K : Nat) : Nat := 2 ^ (K - 1074)
theorem UU_pos (K : Nat) : 0 < UU K := Nat.two_pow_pos _
theorem VA_rounds {K : Nat} (hK : 70000 ≤ K) {x : Nat} {e : Int} (h0 : x ≠ 0) (he : -65536 ≤ e) {way : Nat} : Rounds (VA K x e) (UU K) (rwb x e way) way := rwb_rounds h0 (by omega) (by omega)
theorem VA_zero (K : Nat) (e : Int) : VA K 0 e = 0 := by unfold VA; rw [Nat.zero_mul]
theorem VA_ne {K x : Nat} {e : Int} (h0 : x ≠ 0) : 0 < VA K x e := Nat.mul_pos (by omega) (Nat.two_pow_pos _)
theorem bv_zero : bv 0 = 0 := rfl
theorem bdy_le (x : Nat) (e : Int) (way : Nat) : bdy x e way ≤ 9218868437227405312 := by
  unfold bdy
  split
  · omega
  · split
    · omega
    · split <;> omega
theorem bdy_mono {K : Nat} (hK : 70000 ≤ K) {x y : Nat} {e f : Int} (he : -65536 ≤ e) (hf : -65536 ≤ f) {way : Nat} (hw : way = 0 ∨ way = 1 ∨ way = 2) (h : VA K x e ≤ VA K y f) : bdy x e way ≤ bdy y f way := by
  by_cases hx : x = 0
  · unfold bdy; rw [if_pos hx]; omega
  · by_cases hy : y = 0
    · subst hy
      rw [VA_zero] at h
      have := VA_ne (K := K) (e := e) hx
      omega
    · have hm := Rounds.mono hw (VA_rounds hK hx he) (VA_rounds hK hy hf) h
      unfold bdy
      rw [if_neg hx, if_neg hy]
      split
      · split
        · exact hm
        · split <;> omega
      · rw [if_neg (show ¬ rwb y f way < 9218868437227405312 by omega)]
        exact Nat.le_refl _
/-- the way of a mode: 0 inward, 1 to the nearest, 2 outward -/
def wyN (s : Bool) (m : Int) : Nat := if m = 2 then 1 else if (s == (m == 1)) then 2 else 0
theorem wyN_eq (s : Bool) (m : Int) : ((wyN s m : Nat) : Int) = wy s m := by
  unfold wyN wy
  split
  · rfl
  · split <;> rfl
theorem tfM_zero : tfM true 0 = 0 := by unfold tfM; rw [show tfD 0 = 0 from rfl]; simp
theorem tfM_ne {x : Nat} (h0 : x ≠ 0) : tfM true x ≠ 0 := by
  unfold tfM
  split
  · have h1 := le_bl h0
    have hp : 2 ^ tfD x ≤ x := Nat.le_trans (Nat.pow_le_pow_right (by omega) (by unfold tfD; omega)) h1
    have := (Nat.le_div_iff_mul_le (Nat.two_pow_pos (tfD x))).2 (show 1 * 2 ^ tfD x ≤ x by omega)
    omega
  · rw [or_one_eq]; omega
/-- toFloat's answer by its body -/
theorem tf_bdy {s : Bool} {x : Nat} {e m : Int} (hm : 1 ≤ m ∧ m ≤ 3) : tfF s true x e m = sig s (bdy x e (wyN s m)) := by
  unfold tfF mk
  rw [if_pos (by omega)]
  congr 1
  by_cases h0 : x = 0
  · subst h0
    rw [tfM_zero, if_pos rfl]
    unfold bdy; rw [if_pos rfl]
  · rw [if_neg (tfM_ne h0), ← wyN_eq, bod_eq h0]
theorem mag_sig {s : Bool} {b : Nat} (h : b ≤ 9218868437227405312) : mag (sig s b) = b ∧ neg (sig s b) = s ∧ sig s b < 18446744073709551616 := by
  unfold mag neg sig
  cases s
  · exact ⟨by show b % _ = b; omega, decide_eq_false (by show ¬ _ ≤ b; omega), by show b < _; omega⟩
  · exact ⟨by show (b + 9223372036854775808) % _ = b; omega, decide_eq_true (by show _ ≤ b + _; omega), by show b + 9223372036854775808 < _; omega⟩
theorem vz_VA (K : Nat) (s : Bool) (x : Nat) (e : Int) : vz K s x e = sv s (VA K x e) := by
  unfold vz VA sv
  cases s <;> simp [Int.neg_mul]
/-- a finite float's number -/
theorem vz_num {K : Nat} (hK : 70000 ≤ K) {a : Nat} (hf : mag a < 9218868437227405312) : vz K (nN a) (nM a) (Ie.sE a) = sv (neg a) (bv (mag a) * UU K) := by
  rw [vz_VA]
  by_cases h0 : mag a = 0
  · rw [(num_zero h0).1, VA_zero, sv_zero, h0, bv_zero, Nat.zero_mul, sv_zero]
  · obtain ⟨-, -, h3, h4, h5⟩ := num_parts hf h0
    have hn : nN a = neg a := by unfold nN; rw [if_neg h0]
    have e1 : VA K (nM a) (Ie.sE a) = bv (mag a) * UU K := by
      show _ = val (mag a) * UU K
      rw [← h5]
      unfold VA UU
      rw [Nat.mul_assoc, ← Nat.pow_add, show (Ie.sE a + (K : Int)).toNat = (Ie.sE a + 1074).toNat + (K - 1074) by omega]
    rw [hn, e1]
end Go.Proofs.YtdfkpjagnndfdaaGreatDoor
/- The document's ways to round a number come to the same body. -/
namespace Go.Proofs.YtdfkpjagnndfdaaGreatDoor
set_option linter.unusedVariables false
set_option linter.unusedSimpArgs false
open Go.RowKit Go.Fl64
open Ie

theorem rnd_rounds {x : Nat} {e : Int} {j X k : Nat} (hR : IsR x e j X k) {K : Nat} (hK : 1074 ≤ K) (h1 : 0 ≤ e + K) (h2 : 0 ≤ (j : Int) - 1074 - k + K) (way : Nat) : Rounds (x * 2 ^ (e + K).toNat) (2 ^ (K - 1074)) (j * 4503599627370496 + rnd X k (way : Int)) way := by
  have L := hR.lies hK h1 h2
  refine ⟨⟨j * 4503599627370496 + X / 2 ^ k, ⟨L.lo, L.hi⟩, ?_, ?_, ?_⟩⟩
  · intro h; subst h
    rw [rnd0]
  · intro h; subst h
    rw [rnd2]
    by_cases hx : X % 2 ^ k = 0
    · rw [if_pos hx, if_pos (L.ex.1 hx)]
    · rw [if_neg hx, if_neg (fun h => hx (L.ex.2 h)), Nat.add_assoc]
  · intro h; subst h
    rw [rnd1]
    have hpar : (j * 4503599627370496 + X / 2 ^ k) % 2 = X / 2 ^ k % 2 := by omega
    by_cases h1 : 2 * (X % 2 ^ k) < 2 ^ k
    · rw [if_pos h1, if_pos (L.half_lt.1 h1)]
    · rw [if_neg h1, if_neg (fun h => h1 (L.half_lt.2 h))]
      by_cases h2 : 2 * (X % 2 ^ k) = 2 ^ k
      · rw [if_pos h2, if_pos (L.half_eq.1 h2), hpar, Nat.add_assoc]
      · rw [if_neg h2, if_neg (fun h => h2 (L.half_eq.2 h)), Nat.add_assoc]
/-- whatever the rung's number is taken to be, the body is the same -/
theorem IsR.rwb {x : Nat} {e : Int} {j X k : Nat} (hR : IsR x e j X k) (h0 : x ≠ 0) {way : Nat} (hw : way = 0 ∨ way = 1 ∨ way = 2) : rwb x e way = j * 4503599627370496 + rnd X k (way : Int) := by
  obtain ⟨K, hK⟩ : ∃ K : Nat, K = 1200 + (64 - e).toNat + (1074 + k) := ⟨_, rfl⟩
  have a := rwb_rounds (e := e) h0 (K := K) (by omega) (by omega) (way := way)
  have b := rnd_rounds hR (K := K) (by omega) (by omega) (by omega) way
  have h1 := Rounds.mono hw a b (Nat.le_refl _)
  have h2 := Rounds.mono hw b a (Nat.le_refl _)
  omega
end Go.Proofs.YtdfkpjagnndfdaaGreatDoor
/- What the document's rounding comes to, in numbers. -/
namespace Go.Proofs.YtdfkpjagnndfdaaGreatDoor
set_option linter.unusedVariables false
set_option linter.unusedSimpArgs false
open Go.RowKit Go.Fl64
open Ie

end Go.Proofs.YtdfkpjagnndfdaaGreatDoor
/- The document's build, small and sign. -/
namespace Go.Proofs.YtdfkpjagnndfdaaGreatDoor
set_option linter.unusedVariables false
set_option linter.unusedSimpArgs false
open Go.RowKit Go.Fl64
open Ie

end Go.Proofs.YtdfkpjagnndfdaaGreatDoor
/- The document's rounding, walked. -/
namespace Go.Proofs.YtdfkpjagnndfdaaGreatDoor
set_option linter.unusedVariables false
set_option linter.unusedSimpArgs false
open Go.RowKit Go.Fl64
open Ie

end Go.Proofs.YtdfkpjagnndfdaaGreatDoor
/- The document's rounding, walked. -/
namespace Go.Proofs.YtdfkpjagnndfdaaGreatDoor
set_option linter.unusedVariables false
set_option linter.unusedSimpArgs false
open Go.RowKit Go.Fl64
open Ie

end Go.Proofs.YtdfkpjagnndfdaaGreatDoor
/- The document's rounding, walked. -/
namespace Go.Proofs.YtdfkpjagnndfdaaGreatDoor
set_option linter.unusedVariables false
set_option linter.unusedSimpArgs false
open Go.RowKit Go.Fl64
open Ie

end Go.Proofs.YtdfkpjagnndfdaaGreatDoor
/- The document's rounding, walked. -/
namespace Go.Proofs.YtdfkpjagnndfdaaGreatDoor
set_option linter.unusedVariables false
set_option linter.unusedSimpArgs false
open Go.RowKit Go.Fl64
open Ie

end Go.Proofs.YtdfkpjagnndfdaaGreatDoor
/- The document's rounding, joined. -/
namespace Go.Proofs.YtdfkpjagnndfdaaGreatDoor
set_option linter.unusedVariables false
set_option linter.unusedSimpArgs false
open Go.RowKit Go.Fl64
open Ie

end Go.Proofs.YtdfkpjagnndfdaaGreatDoor
/- The document's mode, Round, Between. -/
namespace Go.Proofs.YtdfkpjagnndfdaaGreatDoor
set_option linter.unusedVariables false
set_option linter.unusedSimpArgs false
open Go.RowKit Go.Fl64
open Ie

end Go.Proofs.YtdfkpjagnndfdaaGreatDoor
/- The document's Between. -/
namespace Go.Proofs.YtdfkpjagnndfdaaGreatDoor
set_option linter.unusedVariables false
set_option linter.unusedSimpArgs false
open Go.RowKit

end Go.Proofs.YtdfkpjagnndfdaaGreatDoor
/- The document's SqrtTo. -/
namespace Go.Proofs.YtdfkpjagnndfdaaGreatDoor
set_option linter.unusedVariables false
set_option linter.unusedSimpArgs false
open Go.RowKit

end Go.Proofs.YtdfkpjagnndfdaaGreatDoor
/- The document's RatioTo. -/
namespace Go.Proofs.YtdfkpjagnndfdaaGreatDoor
set_option linter.unusedVariables false
set_option linter.unusedSimpArgs false
open Go.RowKit

end Go.Proofs.YtdfkpjagnndfdaaGreatDoor
/- What is cut off finely enough rounds the same way: the digits below the highest 64 tell only whether there are any. -/
namespace Go.Proofs.YtdfkpjagnndfdaaGreatDoor
set_option linter.unusedVariables false
set_option linter.unusedSimpArgs false
open Go.RowKit Go.Fl64
open Ie

end Go.Proofs.YtdfkpjagnndfdaaGreatDoor
/- A quotient rounded: the program's digits and the document's come to the same float. -/
namespace Go.Proofs.YtdfkpjagnndfdaaGreatDoor
set_option linter.unusedVariables false
set_option linter.unusedSimpArgs false
open Go.RowKit Go.Fl64
open Ie

end Go.Proofs.YtdfkpjagnndfdaaGreatDoor
/- A root rounded: the program's digits and the document's come to the same float. -/
namespace Go.Proofs.YtdfkpjagnndfdaaGreatDoor
set_option linter.unusedVariables false
set_option linter.unusedSimpArgs false
open Go.RowKit Go.Fl64
open Ie

end Go.Proofs.YtdfkpjagnndfdaaGreatDoor
/- The document's numbers between two cuts, rounded. -/
namespace Go.Proofs.YtdfkpjagnndfdaaGreatDoor
set_option linter.unusedVariables false
set_option linter.unusedSimpArgs false
open Go.RowKit Go.Fl64
open Ie

end Go.Proofs.YtdfkpjagnndfdaaGreatDoor
/- The document's Add and Sub of finite floats. -/
namespace Go.Proofs.YtdfkpjagnndfdaaGreatDoor
set_option linter.unusedVariables false
set_option linter.unusedSimpArgs false
open Go.RowKit Go.Fl64

end Go.Proofs.YtdfkpjagnndfdaaGreatDoor
/- Add and Sub of floats: the program and the document answer alike. -/
namespace Go.Proofs.YtdfkpjagnndfdaaGreatDoor
set_option linter.unusedVariables false
set_option linter.unusedSimpArgs false
open Go.RowKit Go.Fl64

theorem tF_fits (a : Nat) : Fits (-1074) 1025 (tF a).2.1 (tF a).2.2 := by
  refine Fits.cn (.inr ⟨(Ie.lp_bound a).1, by have := (Ie.lp_bound a).2; omega, ?_⟩)
  have h := Ie.mant_bound a
  have h2 := (Ie.lp_bound a).2
  have : 2 ^ 53 ≤ 2 ^ (1025 - Ie.lp a).toNat := Nat.pow_le_pow_right (by decide) (by omega)
  omega
theorem tF_ok (a : Nat) : Ok (tF a) := by
  refine ok_cn (Fits.ok (lo := -1074) (hi := 1025) (.inr ⟨(Ie.lp_bound a).1, by have := (Ie.lp_bound a).2; omega, ?_⟩) (by omega) (by omega) (by omega))
  have h := Ie.mant_bound a
  have h2 := (Ie.lp_bound a).2
  have : 2 ^ 53 ≤ 2 ^ (1025 - Ie.lp a).toNat := Nat.pow_le_pow_right (by decide) (by omega)
  omega
theorem cn_parts (a m : Nat) (ha : a < 18446744073709551616) (hf : mag a < 9218868437227405312) (hm : Ie.sM a = (m : Int)) : cn (neg a) m (Ie.sE a) = tF a := by
  unfold tF cn
  rcases of_parts a m ha hf hm with ⟨h1, h2⟩ | ⟨h1, h2, -, h3, h4⟩
  · rw [if_pos h1, if_pos h2]
  · rw [if_neg h1, if_neg h2, h3, h4]
theorem exact_ok (a : Nat) (ha : a < 18446744073709551616) (hf : mag a < 9218868437227405312) (w : World) (hT : Tab32 w) (hI : Ie.Tab w) : Calls Tryz.prog 86 #[.float .f64 a] w fun r w' => OutA w (tF a) r w' := by
  obtain ⟨m, hm, hml⟩ := sM_lt a ha
  refine exact_1 a (tF a) w fun W hW => (of_fin a m ha W (hT.later hW) (Tab.later hI hW) hf hm).mono ?_
  rintro r w' ⟨A, rfl, hN, hb⟩
  have hp := hN.pn
  rw [cn_parts a m ha hf hm] at hp
  obtain ⟨s, ao, n, cap, e, rfl⟩ := hp.shape
  exact ⟨s, ao, n, cap, e, rfl, hp, hb⟩

/-- the sum of two numbers, in its one form -/
def tS (t1 t2 : Bool × Nat × Int) : Bool × Nat × Int := cn (sumN t1.1 t1.2.1 t1.2.2 t2.1 t2.2.1 t2.2.2).1 (sumN t1.1 t1.2.1 t1.2.2 t2.1 t2.2.1 t2.2.2).2.1 (sumN t1.1 t1.2.1 t1.2.2 t2.1 t2.2.1 t2.2.2).2.2
theorem tS_fits {lo hi : Int} {t1 t2 : Bool × Nat × Int} (h1 : Fits lo hi t1.2.1 t1.2.2) (h2 : Fits lo hi t2.2.1 t2.2.2) : Fits lo (hi + 1) (tS t1 t2).2.1 (tS t1 t2).2.2 := Fits.cn (Fits.sum h1 h2)
theorem tS_okR {lo hi : Int} {t1 t2 : Bool × Nat × Int} (h1 : Fits lo hi t1.2.1 t1.2.2) (h2 : Fits lo hi t2.2.1 t2.2.2) (hb : hi + 1 - lo ≤ 65536) (hlo : -65536 ≤ lo) (hhi : hi + 1 ≤ 65536) : okR (sumN t1.1 t1.2.1 t1.2.2 t2.1 t2.2.1 t2.2.2).1 (sumN t1.1 t1.2.1 t1.2.2 t2.1 t2.2.1 t2.2.2).2.1 (sumN t1.1 t1.2.1 t1.2.2 t2.1 t2.2.1 t2.2.2).2.2 = true := (Fits.sum h1 h2).ok hb hlo hhi
theorem plus_dn {t1 t2 : Bool × Nat × Int} {X Y : Value} {w : World} (o1 : Ok t1) (o2 : Ok t2) (h1 : DN w X t1) (h2 : DN w Y t2) : Calls Tryz.prog 8 #[X, Y] w fun r w' => ∃ A, r = .returned A ∧ DN w' A (tS t1 t2) ∧ Below w.heap.size w w' := by
  obtain ⟨ao, cap, rfl, a1⟩ := h1
  obtain ⟨ao', cap', rfl, a2⟩ := h2
  obtain ⟨f1, f2, f3, -, -⟩ := o1.facts
  obtain ⟨g1, g2, g3, -, -⟩ := o2.facts
  exact (rplusG a1 a2 (cn_ok o1) (cn_ok o2) (by omega) (by omega) (by omega) (by omega) (by omega) (by omega)).mono fun r w' ⟨A, e, h, hb⟩ => ⟨A, e, h.dn, hb⟩
theorem psign {t : Bool × Nat × Int} {A : Value} {w : World} (ok : Ok t) (h : PN w A t) : Calls Tryz.prog 54 #[A] w fun r w' => r = .returned (.int .i64 (sgI t.1 (dlen t.2.1))) ∧ Below w.heap.size w w' := by
  obtain ⟨ao, cap, rfl, h1⟩ := h
  obtain ⟨f1, -, -, -, -⟩ := ok.facts
  exact sign_ok h1 (by omega) ok
theorem sgI_nought {s : Bool} {x : Nat} : (sgI s (dlen x) == 0) = decide (x = 0) := by
  unfold sgI
  by_cases h : x = 0
  · rw [if_pos (dlen_eq_zero.2 h), decide_eq_true h]; rfl
  · rw [if_neg (fun e => h (dlen_eq_zero.1 e)), decide_eq_false h]; cases s <;> rfl
theorem sig_lt {s : Bool} {n : Nat} (h : n ≤ 9218868437227405312) : sig s n < 18446744073709551616 := by
  unfold sig; cases s <;> simp <;> omega
theorem tfF_lt {s : Bool} {x : Nat} {e m : Int} (hm : 1 ≤ m ∧ m ≤ 3) : tfF s true x e m < 18446744073709551616 := by
  rw [tf_bdy hm]; exact sig_lt (bdy_le _ _ _)
theorem fin_false {a : Nat} : fin a = false ↔ ¬ mag a < 9218868437227405312 := by unfold fin; simp
theorem addX_lt {a b : Nat} (ha : a < 18446744073709551616) (hb : b < 18446744073709551616) : addX a b < 18446744073709551616 := by
  unfold addX
  repeat' split
  all_goals first | exact ha | exact hb | decide

/-- what a call of floats answers, alike X -/
def OutF2 (W : World) (X : Nat) (r : Ending) (w' : World) : Prop := ∃ n, r = .returned (.float .f64 n) ∧ lk n X ∧ Below W.heap.size W w'
end Go.Proofs.YtdfkpjagnndfdaaGreatDoor
/- Sub of floats, and the walk of RoundSums. -/
namespace Go.Proofs.YtdfkpjagnndfdaaGreatDoor
set_option linter.unusedVariables false
set_option linter.unusedSimpArgs false
open Go.RowKit Go.Fl64

end Go.Proofs.YtdfkpjagnndfdaaGreatDoor
/- A range over a function whose rounds are told of the memory that they are handed. -/
namespace Go.Proofs.YtdfkpjagnndfdaaGreatDoor
set_option linter.unusedVariables false
set_option linter.unusedSimpArgs false
open Go Go.RowKit

theorem range_pre {F : Fence} {n : Nat} {P : Program} {g : Operand} {ps : Array Tmp} {assign body : Code} {Q : Exit → Act → World → Prop} {a : Act} {w : World}
    (hro : F.round = none) (h1 : 1 ≤ n) {gf : Nat} {lb : Array Value} (hg : a.eval g = .func (.func gf) #[] lb) (hFg : F.fn gf) (eg : ∀ args w, (callFunc gf args).run P w = .ok (.enter gf args) w)
    (hps : ps.size = 1) {N n₀ : Nat} (hn₀ : n₀ ≤ w.heap.size) {Pre : Nat → Value → World → Prop}
    (hseq : ∀ (l : Nat) (J : Nat → World → Prop) (W : World), Below n₀ w W → (∀ k A B, J k A → Below A.heap.size A B → J k B) →
      (∀ k v W', J k W' → k < N → Pre k v W' → YieldAt F (n - 1 - 1) P l #[v] W' fun e W'' => e = .returned (.bool true) ∧ J (k + 1) W'' ∧ Below n₀ W' W'') → J 0 W →
      CallsIn F (n - 1) P gf (#[.func (.yield l) #[] #[]] ++ lb) W fun e W' => (∃ v, e = .returned v) ∧ J N W')
    (I : Nat → World → Prop) (hIb : ∀ k A B, I k A → Below A.heap.size A B → I k B)
    (hIp : ∀ k A l o o', I k A → w.heap.size ≤ l → A.heap[l]? = some o → o.isCells = false → I k (A.putObj l o')) (h0 : I 0 w)
    (Ax : Nat → Act → World → Prop) (hAp : ∀ k a' A l o o', Ax k a' A → w.heap.size ≤ l → A.heap[l]? = some o → o.isCells = false → Ax k a' (A.putObj l o'))
    (hassign : ∀ (l k : Nat) (v : Value) (W : World) (K : Act → World → Prop), I k W → k < N → Pre k v W → (∀ a' W', Below W.heap.size W W' → Ax k a' W' → K a' W') →
      assign.wpIn (F.inRound l) (n - 1 - 1) P (Exit.then K (fun _ _ _ => False)) { tmps := (ps.zip #[v]).foldl (fun t (p, v) => t.setIfInBounds p v) a.tmps, defers := [] } W)
    (hbody : ∀ (l k : Nat) (a' : Act) (W : World), I k W → k < N → Ax k a' W → body.wpIn (F.inRound l) (n - 1 - 1) P (fun e _ W' => e = .normal ∧ KeepsFrom w.heap.size W W' ∧ Below n₀ W W' ∧ I (k + 1) W') a' W)
    (hdone : ∀ (D : Nat) (W : World), w.heap.size ≤ D → I N W → W.heap[D]? = some (.deferred (some [])) → Q .normal { a with defers := { target := .collected D, args := #[] } :: a.defers } W) :
    (Code.rangeFunc g ps assign body).wpIn F n P Q a w := by
  refine wpIn_rangeFunc ?_
  intro fn hfn
  rw [hro]
  obtain ⟨rec, hrec⟩ : ∃ rec : LoopState → Option Code → Loop, rec = fun st pe => { state := st, pending := pe, fn, tmps := a.tmps, params := ps, assign, body, defers := w.heap.size } := ⟨_, rfl⟩
  obtain ⟨W1, hW1⟩ : ∃ W1, (w.alloc (.deferred (some []))).alloc (.loop (rec .ready none)) = W1 := ⟨_, rfl⟩
  have hL1 : W1.heap[w.heap.size + 1]? = some (.loop (rec .ready none)) := by
    rw [← hW1]; have := World.alloc_heap_new (w.alloc (.deferred (some []))) (.loop (rec .ready none)); rwa [World.size_alloc] at this
  have hK1 : W1.heap[w.heap.size]? = some (.deferred (some [])) := by
    rw [← hW1]; exact (Below.heap_alloc _ _ _ (by simp)).trans (World.alloc_heap_new w _)
  have hb1 : Below w.heap.size w W1 := by
    rw [← hW1]; exact (((Below.refl _ w).alloc (Nat.le_refl _) _).alloc (by simp) _)
  have hI1 : I 0 W1 := hIb 0 w W1 h0 hb1
  have put : ∀ (W : World) (o' : Obj) (o : Obj) (l : Nat), w.heap.size ≤ l → W.heap[l]? = some o → Below n₀ W (W.putObj l o') := fun W o' o l hl h =>
    (Below.refl n₀ W).grown (grownBy_putObj' W l o') (by have := (Array.getElem?_eq_some_iff.1 h).1; omega) (fun k e => by cases e; omega)
  refine ⟨w.heap.size + 1, [{ target := .collected w.heap.size, args := #[] }], W1, { target := .fn (.func gf) lb, args := #[.func (.yield (w.heap.size + 1)) #[] #[]] }, W1, gf,
    #[.func (.yield (w.heap.size + 1)) #[] #[]] ++ lb, W1, ?_, ?_, ?_, ?_, fun _ => h1, ?_⟩
  · rw [← hW1, hrec]; exact run_enterLoop_outer _ _ _ _ _
  · simp only [resolve, hg]
    simp [go_sem]
  · intro f' hf'; simp [Target.leads] at hf'; subst hf'; exact hFg
  · simp [invoke, go_sem, eg]
  · refine (hseq (w.heap.size + 1)
      (fun k W => I k W ∧ W.heap[w.heap.size + 1]? = some (.loop (rec .ready none)) ∧ W.heap[w.heap.size]? = some (.deferred (some [])))
      W1 (hb1.mono hn₀)
      (fun k A B hs hb => ⟨hIb k A B hs.1 hb, box_later hs.2.1 hb (Array.getElem?_eq_some_iff.1 hs.2.1).1, box_later hs.2.2 hb (Array.getElem?_eq_some_iff.1 hs.2.2).1⟩)
      ?_ ⟨hI1, hL1, hK1⟩).mono ?_
    · rintro k v W ⟨hi, hl, hk⟩ hlen hpre
      have hy := run_yield (P := P) (args := #[v]) hl (by rw [hrec]; show 1 = ps.size; omega)
      rw [hrec] at hy
      refine ⟨fn, _, assign, body, hy, roundIn_of_wpIn hfn (hassign _ k v W _ hi hlen hpre ?_)⟩
      clear hy
      intro a' Wa hba hax
      have hla := box_later hl hba (Array.getElem?_eq_some_iff.1 hl).1
      have hka := box_later hk hba (Array.getElem?_eq_some_iff.1 hk).1
      have hlt : w.heap.size + 1 < Wa.heap.size := (Array.getElem?_eq_some_iff.1 hla).1
      have hia := hIb k W Wa hi hba
      refine ⟨_, run_beginRound hla (by rw [hrec]), ?_⟩
      have hl2 : (Wa.putObj (w.heap.size + 1) (.loop { rec .ready none with state := .busy })).heap[w.heap.size + 1]? = some (.loop { rec .ready none with state := .busy }) := World.putObj_heap_same hlt
      have hk2 : (Wa.putObj (w.heap.size + 1) (.loop { rec .ready none with state := .busy })).heap[w.heap.size]? = some (.deferred (some [])) := (World.putObj_heap_other (by omega)).trans hka
      have hw2 := put Wa (.loop { rec .ready none with state := .busy }) _ (w.heap.size + 1) (by omega) hla
      refine wpIn_mono (hbody _ k a' _ (hIp k Wa _ _ _ hia (by omega) hla rfl) hlen (hAp k a' Wa _ _ _ hax (by omega) hla rfl)) ?_
      rintro e a3 W3 ⟨rfl, hk3, hb3, hi3⟩
      have hl3 := hk3.same _ _ (by omega) hl2 rfl
      have hd3 := hk3.same _ _ (Nat.le_refl _) hk2 rfl
      have hr := run_endRound (P := P) none hl3
      rw [hrec] at hr hl3
      have hl4 := World.putObj_heap_same (o := Obj.loop (rec .ready none)) (Array.getElem?_eq_some_iff.1 hl3).1
      have hb0 : Below n₀ W Wa := hba.mono (by have := (Array.getElem?_eq_some_iff.1 hl).1; omega)
      refine ⟨_, _, hr, rfl, ⟨hIp (k + 1) W3 _ _ _ hi3 (by omega) hl3 rfl, ?_, (World.putObj_heap_other (by omega)).trans hd3⟩, ((hb0.trans hw2).trans hb3).trans (put W3 _ _ _ (by omega) hl3)⟩
      rw [hrec] at hl4 ⊢
      exact hl4
    · rintro e W2 ⟨⟨v, rfl⟩, hi, hl, hk⟩
      exact ⟨none, _, by have := run_endLoop (P := P) hl (by rw [hrec]; simp); rw [hrec] at this; exact this, hdone _ _ (Nat.le_refl _) (hIp N W2 _ _ _ hi (by omega) hl rfl) ((World.putObj_heap_other (by omega)).trans hk)⟩
end Go.Proofs.YtdfkpjagnndfdaaGreatDoor
/- The small functions of sums: exact, rounded. -/
namespace Go.Proofs.YtdfkpjagnndfdaaGreatDoor
set_option linter.unusedVariables false
set_option linter.unusedSimpArgs false
open Go.RowKit Go.Fl64

set_option maxHeartbeats 4000000 in
set_option maxRecDepth 200000 in
theorem uexact_1 (a : Nat) (t : Bool × Nat × Int) (w : World)
    (k : ∀ W, Below w.heap.size w W → Calls Tryz.prog 68 #[.float .f64 a] W fun r w' => ∃ s ao n cap e, r = .returned (.tuple #[.agg #[.bool s, .slice ao n cap, .int .i64 e], .int .i64 0]) ∧ PN w' (.agg #[.bool s, .slice ao n cap, .int .i64 e]) t ∧ Below W.heap.size W w') :
    Calls Tryz.prog 50 #[.float .f64 a] w fun r w' => OutA w t r w' := by
  obtain ⟨W, hW⟩ : ∃ W, W = w.alloc (.cells #[.bool false, .slice none 0 0, .int .i64 0] 43) := ⟨_, rfl⟩
  have HX : Hid (Below w.heap.size w W ∧ W.heap[w.heap.size]? = some (.cells #[.bool false, .slice none 0 0, .int .i64 0] 43 (0, 0))) := ⟨by rw [hW]; exact (Below.refl _ _).alloc (Nat.le_refl _) _, by rw [hW]; exact heap_alloc_new _ _⟩
  have k1 := k W HX.out.1
  clear k
  go_enter Tryz.func50, Tryz.ntmps50
  go_wp2_with fail
  rw [← hW]
  clear hW
  refine k1.mono ?_
  rintro r w1 ⟨s1, ao1, n1, cap1, ex1, rfl, hA, hb1⟩
  obtain ⟨W1, hW1⟩ : ∃ W1, W1 = w1.alloc (.cells #[.bool s1, .slice ao1 n1 cap1, .int .i64 ex1] 43) := ⟨_, rfl⟩
  have hb2 : Below W.heap.size W W1 := by rw [hW1]; exact hb1.alloc hb1.size _
  have HY : Hid (PN W1 (.agg #[.bool s1, .slice ao1 n1 cap1, .int .i64 ex1]) t ∧ Below w.heap.size w W1 ∧ W1.heap[w1.heap.size]? = some (.cells #[.bool s1, .slice ao1 n1 cap1, .int .i64 ex1] 43 (0, 0)) ∧ W1.heap[w.heap.size]? = some (.cells #[.bool false, .slice none 0 0, .int .i64 0] 43 (0, 0))) :=
    ⟨by rw [hW1]; exact hA.later ((Below.refl _ _).alloc (Nat.le_refl _) _), HX.out.1.trans (hb2.mono HX.out.1.size), by rw [hW1]; exact heap_alloc_new _ _, box_later HX.out.2 hb2 (lt_of_box HX.out.2)⟩
  clear k1 hA hb1 hb2
  go_upto_region 2 with fail
  rw [← hW1]
  clear hW1
  generalize w1.heap.size = g1 at *
  obtain ⟨⟨a0, a1, a2⟩, -⟩ := box_cells HY.out.2.2.1
  obtain ⟨⟨x1, x2, x3⟩, x4, x5, x6⟩ := box_cells HY.out.2.2.2
  go_wp2
  refine bodyPost_ret (results_cell_row rfl _ _ w.heap.size 43 #[.bool s1, .slice ao1 n1 cap1, .int .i64 ex1] (0, 0) _ rfl (store3 _ _ _ HY.out.2.2.2) Tryz.underlying43 rfl Tryz.info43) rfl ?_
  exact ⟨_, _, _, _, _, rfl, pn_store HY.out.1 HY.out.2.2.2 _ _ _, below_store3 HY.out.2.1 (Nat.le_refl _) _ _ _⟩

set_option maxHeartbeats 4000000 in
set_option maxRecDepth 200000 in
theorem urounded_1 (na : Bool) (ua : Option Addr) (un uc F : Nat) (ea m : Int) (w : World)
    (k : ∀ W, Below w.heap.size w W → Calls Tryz.prog 46 #[.agg #[.bool na, .slice ua un uc, .int .i64 ea], .int .i64 m] W fun r w' => r = .returned (.tuple #[.float .f64 F, .int .i64 0]) ∧ Below W.heap.size W w') :
    Calls Tryz.prog 17 #[.agg #[.bool na, .slice ua un uc, .int .i64 ea], .int .i64 m] w fun r w' => r = .returned (.float .f64 F) ∧ Below w.heap.size w w' := by
  obtain ⟨W, hW⟩ : ∃ W, W = w.alloc (.cells #[.bool na, .slice ua un uc, .int .i64 ea] 43) := ⟨_, rfl⟩
  have HX : Hid (Below w.heap.size w W) := (by rw [hW]; exact (Below.refl _ _).alloc (Nat.le_refl _) _ : Below w.heap.size w W)
  have hA : W.heap[w.heap.size]? = some (.cells #[.bool na, .slice ua un uc, .int .i64 ea] 43 (0, 0)) := by rw [hW]; exact heap_alloc_new _ _
  obtain ⟨⟨a0, a1, a2⟩, -⟩ := box_cells hA
  have k1 := k W HX.out
  clear k hA
  rw [hW] at a0 a1 a2
  go_enter Tryz.func17, Tryz.ntmps17
  go_wp2_with fail
  rw [← hW]
  clear hW a0 a1 a2
  refine k1.mono ?_
  rintro r w1 ⟨rfl, hb1⟩
  have HY : Hid (Below w.heap.size w w1) := HX.out.trans (hb1.mono HX.out.size)
  clear k1 hb1
  go_wp2
  go_ret
  exact ⟨rfl, HY.out⟩

theorem urounded {t : Bool × Nat × Int} {A : Value} {m : Int} {w : World} (hT : Tab32 w) (ok : Ok t) (h : PN w A t) (hm : 1 ≤ m ∧ m ≤ 3) :
    Calls Tryz.prog 17 #[A, .int .i64 m] w fun r w' => r = .returned (.float .f64 (tfF t.1 true t.2.1 t.2.2 m)) ∧ Below w.heap.size w w' := by
  obtain ⟨s, ao, n, cap, e, rfl⟩ := h.shape
  exact urounded_1 s ao n cap _ e m w fun W hW => pround (hT.later hW) ok (h.later hW) hm
theorem uexact_ok (a : Nat) (ha : a < 18446744073709551616) (hf : mag a < 9218868437227405312) (w : World) (hT : Tab32 w) (hI : Ie.Tab w) : Calls Tryz.prog 50 #[.float .f64 a] w fun r w' => OutA w (tF a) r w' := by
  obtain ⟨m, hm, hml⟩ := sM_lt a ha
  refine uexact_1 a (tF a) w fun W hW => (of_fin a m ha W (hT.later hW) (Tab.later hI hW) hf hm).mono ?_
  rintro r w' ⟨A, rfl, hN, hb⟩
  have hp := hN.pn
  rw [cn_parts a m ha hf hm] at hp
  obtain ⟨s, ao, n, cap, e, rfl⟩ := hp.shape
  exact ⟨s, ao, n, cap, e, rfl, hp, hb⟩
end Go.Proofs.YtdfkpjagnndfdaaGreatDoor
/- The iterator over a list's floats, as exact numbers. -/
namespace Go.Proofs.YtdfkpjagnndfdaaGreatDoor
set_option linter.unusedVariables false
set_option linter.unusedSimpArgs false
open Go Go.RowKit Go.Fl64 Go.Shelf
attribute [local go_sem] Oper.semAt_some

/-- a list of floats in memory -/
def FAt (w : World) (ao : Option Addr) (len : Nat) (xs : Nat → Nat) : Prop := ∃ b off, (0 < len → ao = some ⟨b, off, none⟩) ∧ ∀ j, j < len → w.cell? ⟨b, off + j, none⟩ = some (.float .f64 (xs j))
theorem FAt.later {w w' : World} {ao : Option Addr} {len : Nat} {xs : Nat → Nat} (h : FAt w ao len xs) (hb : Below w.heap.size w w') : FAt w' ao len xs := by
  obtain ⟨b, off, h1, h2⟩ := h
  refine ⟨b, off, h1, fun j hj => ?_⟩
  have := h2 j hj
  have hlt : b < w.heap.size := by
    unfold World.cell? at this
    rcases Nat.lt_or_ge b w.heap.size with h | h
    · exact h
    · rw [Array.getElem?_eq_none h] at this
      simp at this
  exact (hb.cell (p := ⟨b, off + j, none⟩) hlt).trans this

set_option maxRecDepth 200000 in
set_option maxHeartbeats 4000000 in
theorem floats1_in (n l Bs len cap : Nat) (ao : Option Addr) (xs : Nat → Nat) (w W : World) (J : Nat → World → Prop) (hreach : len * 8 ≤ 140737488351232)
    (hfin : ∀ i, i < len → xs i < 18446744073709551616 ∧ mag (xs i) < 9218868437227405312) (hT : Tab32 w) (hI : Ie.Tab w) (hl : FAt w ao len xs)
    (hJb : ∀ k A B, J k A → Below A.heap.size A B → J k B)
    (hY : ∀ k v W', J k W' → k < len → PN W' v (tF (xs k)) → YieldAt Fence.wide (n - 1) Tryz.prog l #[v] W' fun e W'' => e = .returned (.bool true) ∧ J (k + 1) W'' ∧ Below w.heap.size W' W'')
    (hbW : Below w.heap.size w W) (hBs : W.cell? ⟨Bs, 0, none⟩ = some (.slice ao len cap)) (h0 : J 0 W) :
    CallsIn Fence.wide n Tryz.prog 49 #[.func (.yield l) #[] #[], .pointer (some ⟨Bs, 0, none⟩)] W fun e W' => (∃ v, e = .returned v) ∧ J len W' := by
  obtain ⟨b, off, hao, hcell⟩ := hl
  refine callsIn_of_wp Tryz.func49 rfl trivial ?_ rfl
  simp only [Tryz.ntmps49, List.size_toArray, List.length_cons, List.length_nil, Nat.reduceAdd, Nat.reduceSub, Array.replicate_succ, Array.replicate_zero, List.push_toArray, List.append_toArray, List.nil_append, List.cons_append]
  gi_wp2
  gi_loopw [7] (fun i wr => ∃ k : Nat, k ≤ len ∧ i = .int .i64 k ∧ J k wr ∧ Below w.heap.size w wr)
    (fun i _ => len - (intOf i).toNat)
  case atStart => exact ⟨0, Nat.zero_le _, rfl, h0, hbW⟩
  case round =>
    obtain ⟨k, hk, rfl, hJs, hnx⟩ := hrel
    by_cases hlt : k < len
    · obtain rfl := hao (by omega)
      have hck := hcell k hlt
      have hblt : b < w.heap.size := by
        unfold World.cell? at hck
        rcases Nat.lt_or_ge b w.heap.size with h | h
        · exact h
        · rw [Array.getElem?_eq_none h] at hck
          simp at hck
      have hcx : wr.cell? ⟨b, off + k, none⟩ = some (.float .f64 (xs k)) := (hnx.cell (p := ⟨b, off + k, none⟩) hblt).trans hck
      have kx := uexact_ok (xs k) (hfin k hlt).1 (hfin k hlt).2 wr (hT.later hnx) (Tab.later hI hnx)
      have HY : Hid (∀ w3 v, Below wr.heap.size wr w3 → PN w3 v (tF (xs k)) → YieldAt Fence.wide (n - 1) Tryz.prog l #[v] w3 fun e W'' => e = .returned (.bool true) ∧ J (k + 1) W'' ∧ Below w.heap.size w W'') := fun w3 v hb h => by
        obtain ⟨fn, tmps, assign, body, hy, hR⟩ := hY k v w3 (hJb k wr w3 hJs hb) hlt h
        refine ⟨fn, tmps, assign, body, hy, hR.mono ?_⟩
        rintro e W3 ⟨rfl, hJ3, hk3⟩
        exact ⟨rfl, hJ3, (hnx.trans (hb.mono hnx.size)).trans hk3⟩
      clear hY hck hcell hao hfin hJb hT hI hJs hnx hbW h0 hBs
      gi_wp2
      refine ⟨trivial, fun h => (by cases h), ?_⟩
      refine (callsIn_wide.2 kx).mono ?_
      rintro r w3 ⟨s3, ao3, n3, cap3, ex3, rfl, hP3, hb3⟩
      obtain ⟨fn, tmps, assign, body, hy, hR⟩ := HY.out w3 _ hb3 hP3
      gi_wp2
      refine ⟨fun h => (by cases h), hR.mono ?_⟩
      rintro e W3 ⟨rfl, hJ3, hk3⟩
      clear HY kx hy hR hP3 hb3
      gi_wp2
      go_roundw
      case rel => exact ⟨k + 1, by omega, by simp, hJ3, hk3⟩
      case measure => simp [intOf]; omega
    · obtain rfl : k = len := by omega
      gi_wp2
      go_end0
      exact ⟨⟨_, rfl⟩, hJs⟩
end Go.Proofs.YtdfkpjagnndfdaaGreatDoor
/- The exact sum of a list's floats. -/
namespace Go.Proofs.YtdfkpjagnndfdaaGreatDoor
set_option linter.unusedVariables false
set_option linter.unusedSimpArgs false
open Go Go.RowKit Go.Fl64 Go.Shelf
attribute [local go_sem] Oper.semAt_some

/-- the sum of the first floats of a list, in its one form -/
def tSum (xs : Nat → Nat) : Nat → Bool × Nat × Int
  | 0 => (false, 0, 0)
  | k + 1 => tS (tSum xs k) (tF (xs k))

theorem whole0_pn (w : World) (hT : Tab32 w) : Calls Tryz.prog 47 #[.int .i64 0] w fun r w' => OutA w (false, 0, 0) r w' := by
  refine (c12_1 0 0 w hT (by omega) (by omega) (by decide)).mono ?_
  rintro r w' ⟨A, rfl, hN, hb⟩
  have hp := hN.pn
  obtain ⟨s, ao, n, cap, e, rfl⟩ := hp.shape
  exact ⟨s, ao, n, cap, e, rfl, hp, hb⟩

theorem cell_put {W : World} {l : Nat} {o o' : Obj} {p : Addr} {v : Value} (h : W.cell? p = some v) (hl : W.heap[l]? = some o) (ho : o.isCells = false) : (W.putObj l o').cell? p = some v := by
  unfold World.cell? at *
  by_cases e : p.block = l
  · rw [e, hl] at h
    cases o <;> simp_all [Obj.isCells]
  · rw [World.putObj_heap_other e]; exact h
theorem pn_put {W : World} {l : Nat} {o o' : Obj} {A : Value} {t : Bool × Nat × Int} (h : PN W A t) (hl : W.heap[l]? = some o) (ho : o.isCells = false) : PN (W.putObj l o') A t := by
  obtain ⟨ao, cap, h1, ao', cap', h2, h3, h4, b, off, h5, h6⟩ := h
  exact ⟨ao, cap, h1, ao', cap', h2, h3, h4, b, off, h5, fun i hi => cell_put (h6 i hi) hl ho⟩
theorem box_put {W : World} {l g : Nat} {o o' : Obj} {c : Array Value} {ty : TypeId} {z : Nat × Nat} (h : W.heap[g]? = some (.cells c ty z)) (hl : W.heap[l]? = some o) (ho : o.isCells = false) : (W.putObj l o').heap[g]? = some (.cells c ty z) := by
  have e : g ≠ l := by
    intro e
    rw [e, hl] at h
    cases h
    cases ho
  rw [World.putObj_heap_other e]; exact h
theorem pn_storeG {w : World} {A : Value} {t : Bool × Nat × Int} {g : Nat} {s : Bool} {ao : Option Addr} {n cap : Nat} {e : Int} (h : PN w A t) (hg : w.heap[g]? = some (.cells #[.bool s, .slice ao n cap, .int .i64 e] 43 (0, 0))) (a b c : Value) : PN (((w.setCell ⟨g, 0, none⟩ a).setCell ⟨g, 1, none⟩ b).setCell ⟨g, 2, none⟩ c) A t := by
  obtain ⟨oo, cc, h1, ao', cap', h2, h3, h4, h5⟩ := h
  exact ⟨oo, cc, h1, ao', cap', h2, h3, h4, at_boxP h5 hg (by simp) (by simp) (by simp) a b c⟩

/-- what holds between two rounds: the result's box is empty, the sum's box holds the sum so far -/
def TotI (w : World) (B g3 : Nat) (xs : Nat → Nat) (k : Nat) (W : World) : Prop :=
  Below w.heap.size w W ∧ B ≤ W.heap.size ∧ W.heap[w.heap.size]? = some (.cells #[.bool false, .slice none 0 0, .int .i64 0] 43 (0, 0)) ∧ ∃ s ao n cap e, W.heap[g3]? = some (.cells #[.bool s, .slice ao n cap, .int .i64 e] 43 (0, 0)) ∧ PN W (.agg #[.bool s, .slice ao n cap, .int .i64 e]) (tSum xs k)
theorem TotI.later {w : World} {B g3 : Nat} {xs : Nat → Nat} {k : Nat} {A C : World} (h : TotI w B g3 xs k A) (hb : Below A.heap.size A C) : TotI w B g3 xs k C := by
  obtain ⟨h1, h2, h3, s, ao, n, cap, e, h4, h5⟩ := h
  exact ⟨h1.trans (hb.mono h1.size), Nat.le_trans h2 hb.size, box_later h3 hb (lt_of_box h3), s, ao, n, cap, e, box_later h4 hb (lt_of_box h4), h5.later hb⟩
theorem TotI.put {w : World} {B g3 : Nat} {xs : Nat → Nat} {k l : Nat} {A : World} {o o' : Obj} (h : TotI w B g3 xs k A) (hB : w.heap.size ≤ B) (hl : B ≤ l) (ho : A.heap[l]? = some o) (hc : o.isCells = false) : TotI w B g3 xs k (A.putObj l o') := by
  obtain ⟨h1, h2, h3, s, ao, n, cap, e, h4, h5⟩ := h
  have hb : Below w.heap.size A (A.putObj l o') := (Below.refl w.heap.size A).grown (grownBy_putObj' A l o') (by have := (Array.getElem?_eq_some_iff.1 ho).1; omega) (fun k e => by cases e; omega)
  exact ⟨h1.trans hb, Nat.le_trans h2 hb.size, box_put h3 ho hc, s, ao, n, cap, e, box_put h4 ho hc, pn_put h5 ho hc⟩
theorem KeepsFrom.below {B : Nat} {W W' : World} (h : Below W.heap.size W W') : KeepsFrom B W W' := ⟨h.size, fun k o _ hk _ => box_later hk h (Array.getElem?_eq_some_iff.1 hk).1⟩

set_option maxRecDepth 200000 in
set_option maxHeartbeats 4000000 in
theorem total_floats (Bs len cap : Nat) (ao : Option Addr) (xs : Nat → Nat) (w : World) (hreach : len * 8 ≤ 140737488351232)
    (hfin : ∀ i, i < len → xs i < 18446744073709551616 ∧ mag (xs i) < 9218868437227405312) (hadd : ∀ k, k < len → Op2 48 (tSum xs k) (tF (xs k)) (tSum xs (k + 1)))
    (hT : Tab32 w) (hI : Ie.Tab w) (hl : FAt w ao len xs) (hBs : w.cell? ⟨Bs, 0, none⟩ = some (.slice ao len cap)) :
    Calls Tryz.prog 18 #[.func (.func 49) #[] #[.pointer (some ⟨Bs, 0, none⟩)]] w fun r w' => OutA w (tSum xs len) r w' := by
  obtain ⟨W, hW⟩ : ∃ W, W = w.alloc (.cells #[.bool false, .slice none 0 0, .int .i64 0] 43) := ⟨_, rfl⟩
  have HX : Hid (Below w.heap.size w W ∧ W.heap[w.heap.size]? = some (.cells #[.bool false, .slice none 0 0, .int .i64 0] 43 (0, 0))) := ⟨by rw [hW]; exact (Below.refl _ _).alloc (Nat.le_refl _) _, by rw [hW]; exact heap_alloc_new _ _⟩
  have k1 := whole0_pn W (hT.later HX.out.1)
  refine (callsIn_wide (n := 3)).1 ?_
  refine callsIn_of_wp_marks Tryz.func18 rfl trivial ?_ rfl
  simp only [Tryz.ntmps18, List.size_toArray, List.length_cons, List.length_nil, Nat.reduceAdd, Nat.reduceSub, Array.replicate_succ, Array.replicate_zero, List.push_toArray, List.append_toArray, List.nil_append, List.cons_append]
  gi_wp2
  rw [← hW]
  refine ⟨trivial, ?_⟩
  refine (callsIn_wide.2 k1).mono ?_
  rintro r w1 ⟨s1, ao1, n1, cap1, ex1, rfl, hP1, hb1⟩
  obtain ⟨V, hV⟩ : ∃ V, V = w1.alloc (.cells #[.bool s1, .slice ao1 n1 cap1, .int .i64 ex1] 43) := ⟨_, rfl⟩
  have hbV : Below W.heap.size W V := by rw [hV]; exact hb1.alloc hb1.size _
  have hg3 : w.heap.size < w1.heap.size := Nat.lt_of_lt_of_le (lt_of_box HX.out.2) hb1.size
  have hsz : V.heap.size = w1.heap.size + 1 := by rw [hV]; simp
  have HI : Hid (TotI w V.heap.size w1.heap.size xs 0 V) := ⟨HX.out.1.trans (hbV.mono HX.out.1.size), Nat.le_refl _, box_later HX.out.2 hbV (lt_of_box HX.out.2), s1, ao1, n1, cap1, ex1, by rw [hV]; exact heap_alloc_new _ _, by rw [hV]; exact hP1.later ((Below.refl _ _).alloc (Nat.le_refl _) _)⟩
  have hwV : w.heap.size ≤ V.heap.size := HI.out.1.size
  clear k1 hP1 hb1 hbV HX hW
  gi_wp2
  rw [← hV]
  clear hV
  generalize w1.heap.size = g3 at *
  have hblt : Bs < w.heap.size := World.block_lt_of_cell? _ _ hBs
  refine range_pre rfl (by omega) (gf := 49) (lb := #[.pointer (some ⟨Bs, 0, none⟩)]) rfl trivial (enters_of Tryz.func49 (by kernel_rfl) rfl) rfl (N := len) (n₀ := w.heap.size) hwV
    (Pre := fun k v W' => PN W' v (tF (xs k))) ?seq (TotI w V.heap.size g3 xs) (fun k A B h hb => h.later hb) (fun k A l o o' h hl ho hc => h.put hwV hl ho hc) HI.out
    (fun k a' W' => ∃ g4 s ao n cap e, V.heap.size ≤ g4 ∧ a' = { tmps := #[.func (.func 49) #[] #[.pointer (some ⟨Bs, 0, none⟩)], undef, .pointer (some ⟨w.heap.size, 0, none⟩), .pointer (some ⟨g3, 0, none⟩), .pointer (some ⟨g4, 0, none⟩), .agg #[.bool s1, .slice ao1 n1 cap1, .int .i64 ex1], .func (.func 49) #[] #[.pointer (some ⟨Bs, 0, none⟩)], .agg #[.bool s, .slice ao n cap, .int .i64 e], undef, undef, undef, undef, undef, undef, undef], defers := [] } ∧ W'.heap[g4]? = some (.cells #[.bool s, .slice ao n cap, .int .i64 e] 43 (0, 0)) ∧ PN W' (.agg #[.bool s, .slice ao n cap, .int .i64 e]) (tF (xs k)))
    ?put ?assign ?body ?done
  case seq =>
    intro l J W' hbW hJb hY h0
    exact floats1_in 2 l Bs len cap ao xs w W' J hreach hfin hT hI hl hJb hY (HI.out.1.trans hbW) (((HI.out.1.trans hbW).cell (p := ⟨Bs, 0, none⟩) hblt).trans hBs) h0
  case put =>
    rintro k a' A l o o' ⟨g4, s, ao, n, cap, e, h1, h2, h3, h4⟩ hl ho hc
    exact ⟨g4, s, ao, n, cap, e, h1, h2, box_put h3 ho hc, pn_put h4 ho hc⟩
  case assign =>
    intro l k v W' K hi hk hpre hK
    obtain ⟨s, ao, n, cap, e, rfl⟩ := hpre.shape
    have hB : V.heap.size ≤ W'.heap.size := hi.2.1
    have hq := hK { tmps := #[.func (.func 49) #[] #[.pointer (some ⟨Bs, 0, none⟩)], undef, .pointer (some ⟨w.heap.size, 0, none⟩), .pointer (some ⟨g3, 0, none⟩), .pointer (some ⟨W'.heap.size, 0, none⟩), .agg #[.bool s1, .slice ao1 n1 cap1, .int .i64 ex1], .func (.func 49) #[] #[.pointer (some ⟨Bs, 0, none⟩)], .agg #[.bool s, .slice ao n cap, .int .i64 e], undef, undef, undef, undef, undef, undef, undef], defers := [] } (W'.alloc (.cells #[.bool s, .slice ao n cap, .int .i64 e] 43)) ((Below.refl _ _).alloc (Nat.le_refl _) _)
      ⟨W'.heap.size, s, ao, n, cap, e, hB, rfl, heap_alloc_new _ _, hpre.later ((Below.refl _ _).alloc (Nat.le_refl _) _)⟩
    clear hK hi hpre
    gi_wp2
    exact hq
  case body =>
    rintro l k a' W' hi hk ⟨g4, s, ao, n, cap, e, hg4, rfl, hb4, hp4⟩
    obtain ⟨i1, i2, i3, s2, ao2, n2, cap2, ex2, i4, i5⟩ := hi
    obtain ⟨⟨a0, a1, a2⟩, -⟩ := box_cells i4
    obtain ⟨⟨b0, b1, b2⟩, -⟩ := box_cells hb4
    have ka := hadd k hk W' _ _ (hT.later i1) i5 hp4
    gi_wp2
    refine ⟨trivial, ?_⟩
    refine (CallsIn.inRound l (callsIn_wide.2 ka)).mono ?_
    rintro r w6 ⟨s6, ao6, n6, cap6, ex6, rfl, hP6, hb6⟩
    have z3 := box_later i4 hb6 (lt_of_box i4)
    obtain ⟨⟨y0, y1, y2⟩, y3, y4, y5⟩ := box_cells z3
    have hbx : Below (w.heap.size + 1) W' (((w6.setCell ⟨g3, 0, none⟩ (.bool s6)).setCell ⟨g3, 1, none⟩ (.slice ao6 n6 cap6)).setCell ⟨g3, 2, none⟩ (.int .i64 ex6)) := below_store3 (hb6.mono (by omega)) (by omega) _ _ _
    have HF : Hid (KeepsFrom V.heap.size W' (((w6.setCell ⟨g3, 0, none⟩ (.bool s6)).setCell ⟨g3, 1, none⟩ (.slice ao6 n6 cap6)).setCell ⟨g3, 2, none⟩ (.int .i64 ex6)) ∧ Below w.heap.size W' (((w6.setCell ⟨g3, 0, none⟩ (.bool s6)).setCell ⟨g3, 1, none⟩ (.slice ao6 n6 cap6)).setCell ⟨g3, 2, none⟩ (.int .i64 ex6)) ∧ TotI w V.heap.size g3 xs (k + 1) (((w6.setCell ⟨g3, 0, none⟩ (.bool s6)).setCell ⟨g3, 1, none⟩ (.slice ao6 n6 cap6)).setCell ⟨g3, 2, none⟩ (.int .i64 ex6))) :=
      ⟨(KeepsFrom.below hb6).trans ((((KeepsOthers.setCell _ _ _).trans (KeepsOthers.setCell _ _ _)).trans (KeepsOthers.setCell _ _ _)).from _), hbx.mono (by omega), i1.trans (hbx.mono (by omega)), Nat.le_trans i2 hbx.size, box_later i3 hbx (by omega), s6, ao6, n6, cap6, ex6, store3 _ _ _ z3, pn_storeG hP6 z3 _ _ _⟩
    clear ka a0 a1 a2 b0 b1 b2 hP6 hb6 z3 hbx i1 i2 i3 i4 i5 hb4 hp4 HI hfin hadd hT hI hl hBs hsz
    gi_wp2
    exact HF.out
  case done =>
    intro D W' hD hi hK
    obtain ⟨i1, i2, i3, s2, ao2, n2, cap2, ex2, i4, i5⟩ := hi
    obtain ⟨⟨a0, a1, a2⟩, -⟩ := box_cells i4
    obtain ⟨⟨b0, b1, b2⟩, b3, b4, b5⟩ := box_cells i3
    have hK' := ((((KeepsOthers.setCell W' ⟨w.heap.size, 0, none⟩ (.bool s2)).trans (KeepsOthers.setCell _ ⟨w.heap.size, 1, none⟩ (.slice ao2 n2 cap2))).trans (KeepsOthers.setCell _ ⟨w.heap.size, 2, none⟩ (.int .i64 ex2))).same D _ hK rfl)
    clear hsz
    gi_wp2
    refine ⟨by simp, .inl ⟨_, _, rfl, run_takeDeferred hK', ?_⟩⟩
    have hbx : (((W'.setCell ⟨w.heap.size, 0, none⟩ (.bool s2)).setCell ⟨w.heap.size, 1, none⟩ (.slice ao2 n2 cap2)).setCell ⟨w.heap.size, 2, none⟩ (.int .i64 ex2)).heap[w.heap.size]? = some (.cells #[.bool s2, .slice ao2 n2 cap2, .int .i64 ex2] 43 (0, 0)) := store3 _ _ _ i3
    have hbl : Below w.heap.size w (((W'.setCell ⟨w.heap.size, 0, none⟩ (.bool s2)).setCell ⟨w.heap.size, 1, none⟩ (.slice ao2 n2 cap2)).setCell ⟨w.heap.size, 2, none⟩ (.int .i64 ex2)) := below_store3 i1 (Nat.le_refl _) _ _ _
    refine ⟨_, results_cell_row rfl _ _ w.heap.size 43 #[.bool s2, .slice ao2 n2 cap2, .int .i64 ex2] (0, 0) _ rfl (box_put hbx hK' rfl) Tryz.underlying43 rfl Tryz.info43, ?_⟩
    exact ⟨_, _, _, _, _, rfl, pn_put (pn_storeG i5 i3 _ _ _) hK' rfl, hbl.trans ((Below.refl w.heap.size _).grown (grownBy_putObj' _ D _) (by have := (Array.getElem?_eq_some_iff.1 hK').1; omega) (fun k e => by cases e; omega))⟩
end Go.Proofs.YtdfkpjagnndfdaaGreatDoor
/- sums.taken, sums.finite, sums.near. -/
namespace Go.Proofs.YtdfkpjagnndfdaaGreatDoor
set_option linter.unusedVariables false
set_option linter.unusedSimpArgs false
open Go.RowKit Go.Fl64

/-- a number of the program in its box, made since a world -/
def UxP (w3 wc : World) (g : Nat) (s : Bool) (ao : Option Addr) (n cap : Nat) (ex : Int) (t : Bool × Nat × Int) : Prop := wc.heap[g]? = some (.cells #[.bool s, .slice ao n cap, .int .i64 ex] 43 (0, 0)) ∧ w3.heap.size ≤ g ∧ Below w3.heap.size w3 wc ∧ PN wc (.agg #[.bool s, .slice ao n cap, .int .i64 ex]) t
theorem UxP.new {w3 w7 : World} {s : Bool} {ao : Option Addr} {n cap : Nat} {ex : Int} {t : Bool × Nat × Int} (hn : PN w7 (.agg #[.bool s, .slice ao n cap, .int .i64 ex]) t) (hb : Below w3.heap.size w3 w7) : UxP w3 (w7.alloc (.cells #[.bool s, .slice ao n cap, .int .i64 ex] 43)) w7.heap.size s ao n cap ex t :=
  ⟨heap_alloc_new _ _, hb.size, hb.alloc hb.size _, hn.later ((Below.refl _ _).alloc (Nat.le_refl _) _)⟩
theorem UxP.put {w3 w7 : World} {g : Nat} {s : Bool} {ao : Option Addr} {n cap : Nat} {ex : Int} {t : Bool × Nat × Int} (hn : PN w7 (.agg #[.bool s, .slice ao n cap, .int .i64 ex]) t) (hb : Below w3.heap.size w3 w7) (hg : w3.heap.size ≤ g) (hbx : w7.heap[g]? = some (.cells #[.bool false, .slice none 0 0, .int .i64 0] 43 (0, 0))) :
    UxP w3 (((w7.setCell ⟨g, 0, none⟩ (.bool s)).setCell ⟨g, 1, none⟩ (.slice ao n cap)).setCell ⟨g, 2, none⟩ (.int .i64 ex)) g s ao n cap ex t :=
  ⟨store3 _ _ _ hbx, hg, below_store3 hb hg _ _ _, pn_store hn hbx _ _ _⟩

set_option maxHeartbeats 8000000 in
set_option maxRecDepth 200000 in
theorem utaken_1 (s1 : Bool) (ao1 : Option Addr) (n1 cap1 : Nat) (ex1 : Int) (f : Nat) (ta tb t : Bool × Nat × Int) (w : World) (hA : PN w (.agg #[.bool s1, .slice ao1 n1 cap1, .int .i64 ex1]) ta)
    (kE : ∀ W, Below w.heap.size w W → Calls Tryz.prog 50 #[.float .f64 f] W fun r w' => OutA W tb r w')
    (kS : ∀ W X Y, Below w.heap.size w W → PN W X ta → PN W Y tb → Calls Tryz.prog 70 #[X, Y] W fun r w' => ∃ s ao n cap e, r = .returned (.tuple #[.agg #[.bool s, .slice ao n cap, .int .i64 e], .int .i64 0]) ∧ PN w' (.agg #[.bool s, .slice ao n cap, .int .i64 e]) t ∧ Below W.heap.size W w') :
    Calls Tryz.prog 55 #[.agg #[.bool s1, .slice ao1 n1 cap1, .int .i64 ex1], .float .f64 f] w fun r w' => OutA w t r w' := by
  obtain ⟨W, hW⟩ : ∃ W, W = (w.alloc (.cells #[.bool s1, .slice ao1 n1 cap1, .int .i64 ex1] 43)).alloc (.cells #[.bool false, .slice none 0 0, .int .i64 0] 43) := ⟨_, rfl⟩
  have hgA : W.heap[w.heap.size]? = some (.cells #[.bool s1, .slice ao1 n1 cap1, .int .i64 ex1] 43 (0, 0)) := by rw [hW]; exact (Below.heap_alloc _ _ _ (by simp)).trans (heap_alloc_new _ _)
  have hgZ : W.heap[w.heap.size + 1]? = some (.cells #[.bool false, .slice none 0 0, .int .i64 0] 43 (0, 0)) := by
    rw [hW]; have := heap_alloc_new (w.alloc (.cells #[.bool s1, .slice ao1 n1 cap1, .int .i64 ex1] 43)) (.cells #[.bool false, .slice none 0 0, .int .i64 0] 43); rwa [World.size_alloc] at this
  have hBW : Below w.heap.size w W := by rw [hW]; exact (((Below.refl _ w).alloc (Nat.le_refl _) _).alloc (by simp) _)
  have HX : Hid (Below w.heap.size w W ∧ W.heap[w.heap.size]? = some (.cells #[.bool s1, .slice ao1 n1 cap1, .int .i64 ex1] 43 (0, 0)) ∧ W.heap[w.heap.size + 1]? = some (.cells #[.bool false, .slice none 0 0, .int .i64 0] 43 (0, 0)) ∧ PN W (.agg #[.bool s1, .slice ao1 n1 cap1, .int .i64 ex1]) ta) := ⟨hBW, hgA, hgZ, hA.later hBW⟩
  have HK : Hid (∀ w', Below W.heap.size W w' → ((w'.cell? ⟨w.heap.size, 0, none⟩ = some (.bool s1) ∧ w'.cell? ⟨w.heap.size, 1, none⟩ = some (.slice ao1 n1 cap1) ∧ w'.cell? ⟨w.heap.size, 2, none⟩ = some (.int .i64 ex1))) ∧ Below W.heap.size W w') := fun w' hb => ⟨(box_cells (box_later HX.out.2.1 hb (lt_of_box HX.out.2.1))).1, hb⟩
  have hBR : Below W.heap.size W W.drew := (Below.refl _ _).drew
  have km : ∀ w4, Below W.heap.size W w4 → Calls Tryz.prog 50 #[.float .f64 f] w4 fun r w' => ∃ s ao n cap e, r = .returned (.agg #[.bool s, .slice ao n cap, .int .i64 e]) ∧ PN w' (.agg #[.bool s, .slice ao n cap, .int .i64 e]) tb ∧ Below W.heap.size W w' ∧ Hid (∀ g o, w4.heap[g]? = some o → w'.heap[g]? = some o) := fun w4 hb =>
    (kE w4 (HX.out.1.trans (hb.mono HX.out.1.size))).mono fun r w' ⟨s, ao, n, cap, e, e1, o1, o2⟩ => ⟨s, ao, n, cap, e, e1, o1, hb.trans (o2.mono hb.size), fun g o hg => box_later hg o2 (lt_of_box hg)⟩
  have kt : ∀ w4 Y, Below W.heap.size W w4 → PN w4 Y tb → Calls Tryz.prog 70 #[.agg #[.bool s1, .slice ao1 n1 cap1, .int .i64 ex1], Y] w4 fun r w' => ∃ s ao n cap e, r = .returned (.tuple #[.agg #[.bool s, .slice ao n cap, .int .i64 e], .int .i64 0]) ∧ PN w' (.agg #[.bool s, .slice ao n cap, .int .i64 e]) t ∧ Below W.heap.size W w' ∧ Hid (∀ g o, w4.heap[g]? = some o → w'.heap[g]? = some o) := fun w4 Y hb h2 =>
    (kS w4 _ _ (HX.out.1.trans (hb.mono HX.out.1.size)) (HX.out.2.2.2.later hb) h2).mono fun r w' ⟨s, ao, n, cap, e, e1, o1, o2⟩ => ⟨s, ao, n, cap, e, e1, o1, hb.trans (o2.mono hb.size), fun g o hg => box_later hg o2 (lt_of_box hg)⟩
  obtain ⟨⟨a0, a1, a2⟩, -⟩ := HK.out W (Below.refl _ _)
  clear kE kS hgA hgZ hBW hA
  go_enter Tryz.func55, Tryz.ntmps55
  go_upto_region 1 with fail
  rw [← hW]
  clear hW
  go_cut [5] from 6 to 13 (fun p wx => ∃ g s ao n cap ex, p = .pointer (some ⟨g, 0, none⟩) ∧ Hid (UxP W wx g s ao n cap ex t))
  case first =>
    go_region_held3 (fun w' => ((w'.cell? ⟨w.heap.size, 0, none⟩ = some (.bool s1) ∧ w'.cell? ⟨w.heap.size, 1, none⟩ = some (.slice ao1 n1 cap1) ∧ w'.cell? ⟨w.heap.size, 2, none⟩ = some (.int .i64 ex1))) ∧ Below W.heap.size W w') (first | (with_reducible assumption) | exact ⟨⟨a0, a1, a2⟩, hBR⟩ | (refine HK.out _ ?_; with_reducible assumption) | (refine HK.out _ ?_; refine Below.alloc (by with_reducible assumption) (Below.size (by with_reducible assumption)) _) | (refine HK.out _ (below_store3 (by first | (with_reducible assumption) | exact hb7.alloc hb7.size _) (by first | exact Nat.le_refl _ | exact hb5.size | exact hb7.size) _ _ _)) | go_keep)
      (first | (go_at_call 50; refine (km _ (by first | (with_reducible assumption) | exact hBR.alloc hBR.size _)).mono ?_; rintro r w5 ⟨s5, ao5, n5, cap5, ex5, rfl, ho5, hb5, hk5⟩; first | (have HBY : Hid (w5.heap[W.heap.size]? = some (.cells #[.bool false, .slice none 0 0, .int .i64 0] 43 (0, 0))) := hk5.out _ _ (heap_alloc_new W.drew _)) | (have HBY : Hid True := trivial))
             | (go_at_call 70; refine (kt _ _ (by first | (with_reducible assumption) | exact hb5.alloc hb5.size _) (by first | (with_reducible assumption) | exact ho5.later ((Below.refl _ _).alloc (Nat.le_refl _) _))).mono ?_; rintro r w7 ⟨s7, ao7, n7, cap7, ex7, rfl, hn7, hb7, hk7⟩; first | (have HBZ := hidOf (hk7.out _ _ HBY.out); obtain ⟨⟨x1, x2, x3⟩, x4, x5, x6⟩ := box_cells HBZ.out) | (have HBZ : Hid (w7.heap[w5.heap.size]? = some (.cells #[.bool false, .slice none 0 0, .int .i64 0] 43 (0, 0))) := hk7.out _ _ (heap_alloc_new w5 _); obtain ⟨⟨x1, x2, x3⟩, x4, x5, x6⟩ := box_cells HBZ.out) | (have HBZ : Hid True := trivial)))
    all_goals go_wp2_with fail
    all_goals go_meet
    all_goals first
      | exact ⟨_, _, _, _, _, _, rfl, UxP.new hn7 hb7⟩
      | exact ⟨_, _, _, _, _, _, rfl, UxP.put hn7 hb7 hb5.size HBZ.out⟩
      | exact ⟨_, _, _, _, _, _, rfl, UxP.put hn7 hb7 (Nat.le_refl _) HBZ.out⟩
  case rest =>
    obtain ⟨W2, rfl⟩ : ∃ W2 : World, W2 = wc := ⟨_, rfl⟩
    obtain ⟨g4, s4, ao4, n4, cap4, ex4, rfl, HR⟩ := hcut
    clear km kt HK hBR a0 a1 a2
    have HS : Hid (Below w.heap.size w W2 ∧ W2.heap[w.heap.size + 1]? = some (.cells #[.bool false, .slice none 0 0, .int .i64 0] 43 (0, 0)) ∧ W2.heap[g4]? = some (.cells #[.bool s4, .slice ao4 n4 cap4, .int .i64 ex4] 43 (0, 0)) ∧ PN W2 (.agg #[.bool s4, .slice ao4 n4 cap4, .int .i64 ex4]) t) :=
      ⟨HX.out.1.trans (HR.out.2.2.1.mono HX.out.1.size), box_later HX.out.2.2.1 HR.out.2.2.1 (lt_of_box HX.out.2.2.1), HR.out.1, HR.out.2.2.2⟩
    clear HX HR
    obtain ⟨⟨d0, d1, d2⟩, -⟩ := box_cells HS.out.2.2.1
    obtain ⟨⟨z0, z1, z2⟩, z3, z4, z5⟩ := box_cells HS.out.2.1
    go_wp2_with fail
    refine bodyPost_ret (results_cell_row rfl _ _ (w.heap.size + 1) 43 #[.bool s4, .slice ao4 n4 cap4, .int .i64 ex4] (0, 0) _ rfl (store3 _ _ _ HS.out.2.1) Tryz.underlying43 rfl Tryz.info43) rfl ?_
    exact ⟨_, _, _, _, _, rfl, pn_store HS.out.2.2.2 HS.out.2.1 _ _ _, below_store3 HS.out.1 (by omega) _ _ _⟩

theorem utaken {ta : Bool × Nat × Int} {A : Value} {f : Nat} {w : World} (hT : Tab32 w) (hI : Ie.Tab w) (hf : f < 18446744073709551616) (hm : mag f < 9218868437227405312) (h : PN w A ta) {t : Bool × Nat × Int} (ho : Op2 70 ta (tF f) t) :
    Calls Tryz.prog 55 #[A, .float .f64 f] w fun r w' => OutA w t r w' := by
  obtain ⟨s, ao, n, cap, e, rfl⟩ := h.shape
  exact utaken_1 s ao n cap e f ta (tF f) _ w h (fun W hb => uexact_ok f hf hm W (hT.later hb) (Tab.later hI hb)) (fun W X Y hb h1 h2 => ho W X Y (hT.later hb) h1 h2)
end Go.Proofs.YtdfkpjagnndfdaaGreatDoor
