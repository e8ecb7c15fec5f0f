/- Own work: contracts of the program's functions, part 9: FM3 L6 L8 FM4 FM5 RT0 RT1 RT3 RT7 RY1 RY2 RY3 RY4 FM6 FM7 FM8 RY5 SA7 SA8 SA9 UA1 UA2 UA3 UA4 UA5 UA6 UA7 SB1 SB2 SB3 SC1 RY6 SC2 RE1 RE3 RE4 RY7 SD1 SD2 UA8 UA9 UB1 UB2 UB3 SB4 SB5 SH5 SB6 SH6 SH7 SH8 SH9 SI1 SI2 SI3 SI4 UB4 HX W46 W47 W48 RE2 RE5 RE6 RD2 L12. -/
import Derived.Test.YtlicjplmcepbnaaGreatDoorA8
import Derived.Test.YtlicjplmcepbnaaGreatDoorA6
import Derived.Test.YtlicjplmcepbnaaGreatDoorA5
import Derived.Test.YtlicjplmcepbnaaGreatDoorA7
import Derived.Deep.CutBlock
import Derived.RangeFuncNested
import Derived.RangeFuncBound
import Derived.RangeFuncCalls
import Derived.RangeFuncLeaves
import Derived.Test.YtlicjplmcepbnaaGreatDoorA3
import Derived.Shelf.Abstract
import Derived.Shelf.RegionOpen
import Derived.WalkKit
import Derived.OwnWalkIn
import Derived.TacticsInMore
import Derived.LoopNIn
import Derived.LoopIn
import Derived.Lib.ItoaNum

/- What a number is rounded to, by its value. -/
namespace Go.Proofs.YtlicjplmcepbnaaGreatDoor
set_option linter.unusedVariables false
set_option linter.unusedSimpArgs false
open Go.RowKit Go.Fl64
open Ie

theorem rnd0 (X k : Nat) : rnd X k ((0 : Nat) : Int) = X / 2 ^ k := by
  have h1 : ¬ (((0 : Nat) : Int) = 1) := by decide
  have h2 : ¬ (((0 : Nat) : Int) = 2) := by decide
  simp only [rnd, Ie.rup, if_neg h1, if_neg h2, Bool.false_eq_true, if_false]
theorem rnd2 (X k : Nat) : rnd X k ((2 : Nat) : Int) = if X % 2 ^ k = 0 then X / 2 ^ k else X / 2 ^ k + 1 := by
  have h1 : ¬ (((2 : Nat) : Int) = 1) := by decide
  have h2 : ((2 : Nat) : Int) = 2 := by decide
  simp only [rnd, Ie.rup, if_neg h1, if_pos h2]
  by_cases h : X % 2 ^ k = 0
  · rw [if_pos h, decide_eq_false (by simpa using h)]; rfl
  · rw [if_neg h, decide_eq_true h]; rfl
theorem rnd1 (X k : Nat) : rnd X k ((1 : Nat) : Int) = if 2 * (X % 2 ^ k) < 2 ^ k then X / 2 ^ k else if 2 * (X % 2 ^ k) = 2 ^ k then X / 2 ^ k + X / 2 ^ k % 2 else X / 2 ^ k + 1 := by
  have h0 : ((1 : Nat) : Int) = 1 := by decide
  simp only [rnd, Ie.rup, if_pos h0]
  by_cases h1 : 2 * (X % 2 ^ k) < 2 ^ k
  · rw [if_pos h1, decide_eq_false (show ¬ 2 ^ k < 2 * (X % 2 ^ k) by omega), decide_eq_false (show ¬ 2 * (X % 2 ^ k) = 2 ^ k by omega)]; rfl
  · rw [if_neg h1]
    by_cases h2 : 2 * (X % 2 ^ k) = 2 ^ k
    · rw [if_pos h2, decide_eq_false (show ¬ 2 ^ k < 2 * (X % 2 ^ k) by omega), decide_eq_true h2]
      by_cases h3 : X / 2 ^ k % 2 = 1
      · rw [decide_eq_true h3, h3]; rfl
      · rw [decide_eq_false h3, show X / 2 ^ k % 2 = 0 by omega]; rfl
    · rw [if_neg h2, decide_eq_true (show 2 ^ k < 2 * (X % 2 ^ k) by omega)]; rfl
/-- the body that x·2^e is rounded to, with no greatest one -/
def rwb (x : Nat) (e : Int) (way : Nat) : Nat := (raw (tfM true x) (e + (tfD x : Int)) (way : Int)).toNat
theorem rwb_rounds {x : Nat} {e : Int} (h0 : x ≠ 0) {K : Nat} (hK : 1200 ≤ K) (hK2 : 64 - e ≤ K) {way : Nat} : Rounds (x * 2 ^ (e + K).toNat) (2 ^ (K - 1074)) (rwb x e way) way := by
  obtain ⟨j, X, k, hR, hr, -, hl⟩ := raw_is (e := e) h0
  have L := hR.lies (K := K) (by omega) (by omega) (by omega)
  refine ⟨⟨j * 4503599627370496 + X / 2 ^ k, ⟨L.lo, L.hi⟩, ?_, ?_, ?_⟩⟩
  · intro h; subst h
    unfold rwb
    rw [hr, Int.toNat_natCast, rnd0]
  · intro h; subst h
    unfold rwb
    rw [hr, Int.toNat_natCast, rnd2]
    by_cases hx : X % 2 ^ k = 0
    · rw [if_pos hx, if_pos (L.ex.1 hx)]
    · rw [if_neg hx, if_neg (fun h => hx (L.ex.2 h)), Nat.add_assoc]
  · intro h; subst h
    unfold rwb
    rw [hr, Int.toNat_natCast, rnd1]
    have hpar : (j * 4503599627370496 + X / 2 ^ k) % 2 = X / 2 ^ k % 2 := by omega
    by_cases h1 : 2 * (X % 2 ^ k) < 2 ^ k
    · rw [if_pos h1, if_pos (L.half_lt.1 h1)]
    · rw [if_neg h1, if_neg (fun h => h1 (L.half_lt.2 h))]
      by_cases h2 : 2 * (X % 2 ^ k) = 2 ^ k
      · rw [if_pos h2, if_pos (L.half_eq.1 h2), hpar, Nat.add_assoc]
      · rw [if_neg h2, if_neg (fun h => h2 (L.half_eq.2 h)), Nat.add_assoc]
/-- the body as it is held in bounds -/
def bdy (x : Nat) (e : Int) (way : Nat) : Nat := if x = 0 then 0 else if rwb x e way < 9218868437227405312 then rwb x e way else if way = 0 then 9218868437227405311 else 9218868437227405312
theorem raw_nn {x : Nat} {e : Int} (h0 : x ≠ 0) (way : Nat) : raw (tfM true x) (e + (tfD x : Int)) (way : Int) = (rwb x e way : Int) := by
  obtain ⟨j, X, k, -, hr, -, -⟩ := raw_is (e := e) h0
  unfold rwb
  rw [hr]; rfl
theorem bod_eq {x : Nat} {e : Int} (h0 : x ≠ 0) (way : Nat) : (bod (tfM true x) (e + (tfD x : Int)) (way : Int)).toNat = bdy x e way := by
  unfold bod bdy
  rw [if_neg h0, raw_nn h0]
  by_cases h1 : rwb x e way < 9218868437227405312
  · rw [if_pos (by omega), if_pos h1]; rfl
  · rw [if_neg (by omega), if_neg h1]
    by_cases h2 : way = 0
    · subst h2; rfl
    · rw [if_neg h2]
      have : ((way : Int) == 0) = false := by simp; omega
      rw [this]; rfl
end Go.Proofs.YtlicjplmcepbnaaGreatDoor
/- DyadRing answers true. -/
namespace Go.Proofs.YtlicjplmcepbnaaGreatDoor
set_option linter.unusedVariables false
set_option linter.unusedSimpArgs false
open Go.RowKit Go.Fl64

end Go.Proofs.YtlicjplmcepbnaaGreatDoor
/- DyadLeast answers true. -/
namespace Go.Proofs.YtlicjplmcepbnaaGreatDoor
set_option linter.unusedVariables false
set_option linter.unusedSimpArgs false
open Go.RowKit Go.Fl64

theorem cmpI_mul {a b : Int} {c : Nat} (hc : 0 < c) : cmpI (a * (c : Int)) (b * (c : Int)) = cmpI a b := by
  have hc' : (0 : Int) < (c : Int) := by omega
  unfold cmpI
  have h1 : (a * (c : Int) < b * (c : Int)) ↔ a < b := ⟨fun h => Int.lt_of_mul_lt_mul_right h (Int.le_of_lt hc'), fun h => Int.mul_lt_mul_of_pos_right h hc'⟩
  have h2 : (b * (c : Int) < a * (c : Int)) ↔ b < a := ⟨fun h => Int.lt_of_mul_lt_mul_right h (Int.le_of_lt hc'), fun h => Int.mul_lt_mul_of_pos_right h hc'⟩
  simp only [h1, h2]
theorem cmpI_neg (a b : Int) : cmpI (-a) (-b) = - cmpI a b := by
  unfold cmpI
  by_cases h1 : a < b
  · rw [if_neg (by omega), if_pos (by omega), if_pos h1]; rfl
  · by_cases h2 : b < a
    · rw [if_pos (by omega), if_neg h1, if_pos h2]
    · rw [if_neg (by omega), if_neg (by omega), if_neg h1, if_neg h2]; rfl

theorem sgI_eq (s : Bool) (x : Nat) : sgI s (dlen x) = if x = 0 then 0 else if s then -1 else 1 := by
  unfold sgI
  by_cases h : x = 0
  · subst h; simp [dlen_zero]
  · rw [if_neg (fun e => h (dlen_eq_zero.1 e)), if_neg h]

/-- Cmp's answer is the order of the values -/
theorem ordN_vz {K : Nat} {na nb : Bool} {x y : Nat} {ea eb : Int} (h1 : 0 ≤ ea + K) (h2 : 0 ≤ eb + K) : ordN na x ea nb y eb = cmpI (vz K na x ea) (vz K nb y eb) := by
  have hm : 0 ≤ min ea eb + (K : Int) := by omega
  have e1 : vz K na x ea = vz K na (x * 2 ^ (ea - min ea eb).toNat) (min ea eb) := by
    rw [vz_shift hm, show min ea eb + ((ea - min ea eb).toNat : Int) = ea by omega]
  have e2 : vz K nb y eb = vz K nb (y * 2 ^ (eb - min ea eb).toNat) (min ea eb) := by
    rw [vz_shift hm, show min ea eb + ((eb - min ea eb).toNat : Int) = eb by omega]
  have hx : x = 0 ↔ x * 2 ^ (ea - min ea eb).toNat = 0 := by
    constructor
    · rintro rfl; rw [Nat.zero_mul]
    · intro h; rcases Nat.mul_eq_zero.1 h with h | h
      · exact h
      · have := Nat.two_pow_pos (ea - min ea eb).toNat; omega
  have hy : y = 0 ↔ y * 2 ^ (eb - min ea eb).toNat = 0 := by
    constructor
    · rintro rfl; rw [Nat.zero_mul]
    · intro h; rcases Nat.mul_eq_zero.1 h with h | h
      · exact h
      · have := Nat.two_pow_pos (eb - min ea eb).toNat; omega
  rw [e1, e2]
  unfold ordN vz
  rw [cmpI_mul (Nat.two_pow_pos _), sgI_eq, sgI_eq]
  generalize x * 2 ^ (ea - min ea eb).toNat = X at *
  generalize y * 2 ^ (eb - min ea eb).toNat = Y at *
  by_cases x0 : x = 0
  · have X0 := hx.1 x0
    rw [if_pos x0, X0]
    by_cases y0 : y = 0
    · rw [if_pos y0, if_pos rfl, hy.1 y0, sv_zero, sv_zero]
      simp [cmpI]
    · have Y0 : Y ≠ 0 := fun h => y0 (hy.2 h)
      rw [if_neg y0, sv_zero]
      cases nb
      · simp [sv, cmpI]; omega
      · simp [sv, cmpI]; omega
  · have X0 : X ≠ 0 := fun h => x0 (hx.2 h)
    rw [if_neg x0]
    by_cases y0 : y = 0
    · rw [if_pos y0, hy.1 y0, sv_zero]
      cases na
      · simp [sv, cmpI]; omega
      · simp [sv, cmpI]; omega
    · have Y0 : Y ≠ 0 := fun h => y0 (hy.2 h)
      rw [if_neg y0]
      cases na <;> cases nb
      · simp [sv]
      · simp [sv, cmpI]; omega
      · simp [sv, cmpI]; omega
      · simp only [if_true, sv]
        rw [cmpI_neg]; omega

theorem cmp_gt {a b : Int} (h : b < a) : 0 < cmpI a b := by
  rcases cmpI_cases a b with ⟨h1, h2⟩ | ⟨h1, h2⟩ | ⟨h1, h2⟩ <;> omega

end Go.Proofs.YtlicjplmcepbnaaGreatDoor
/- Numbers with their signs, rounded each way. -/
namespace Go.Proofs.YtlicjplmcepbnaaGreatDoor
set_option linter.unusedVariables false
set_option linter.unusedSimpArgs false
open Go.RowKit Go.Fl64
open Ie

/-- a value in units of 2^-K -/
def VA (K x : Nat) (e : Int) : Nat := x * 2 ^ (e + (K : Int)).toNat
def UU (K : Nat) : Nat := 2 ^ (K - 1074)
theorem VA_rounds {K : Nat} (hK : 70000 ≤ K) {x : Nat} {e : Int} (h0 : x ≠ 0) (he : -65536 ≤ e) {way : Nat} : Rounds (VA K x e) (UU K) (rwb x e way) way := rwb_rounds h0 (by omega) (by omega)
theorem VA_zero (K : Nat) (e : Int) : VA K 0 e = 0 := by unfold VA; rw [Nat.zero_mul]
theorem VA_ne {K x : Nat} {e : Int} (h0 : x ≠ 0) : 0 < VA K x e := Nat.mul_pos (by omega) (Nat.two_pow_pos _)
theorem bv_zero : bv 0 = 0 := rfl
theorem bdy_le (x : Nat) (e : Int) (way : Nat) : bdy x e way ≤ 9218868437227405312 := by
  unfold bdy
  split
  · omega
  · split
    · omega
    · split <;> omega
theorem bdy_mono {K : Nat} (hK : 70000 ≤ K) {x y : Nat} {e f : Int} (he : -65536 ≤ e) (hf : -65536 ≤ f) {way : Nat} (hw : way = 0 ∨ way = 1 ∨ way = 2) (h : VA K x e ≤ VA K y f) : bdy x e way ≤ bdy y f way := by
  by_cases hx : x = 0
  · unfold bdy; rw [if_pos hx]; omega
  · by_cases hy : y = 0
    · subst hy
      rw [VA_zero] at h
      have := VA_ne (K := K) (e := e) hx
      omega
    · have hm := Rounds.mono hw (VA_rounds hK hx he) (VA_rounds hK hy hf) h
      unfold bdy
      rw [if_neg hx, if_neg hy]
      split
      · split
        · exact hm
        · split <;> omega
      · rw [if_neg (show ¬ rwb y f way < 9218868437227405312 by omega)]
        exact Nat.le_refl _
theorem bdy_order {K : Nat} (hK : 70000 ≤ K) {x : Nat} {e : Int} (he : -65536 ≤ e) : bdy x e 0 ≤ bdy x e 1 ∧ bdy x e 1 ≤ bdy x e 2 ∧ bdy x e 0 < 9218868437227405312 ∧ bv (bdy x e 0) * UU K ≤ VA K x e ∧ (bdy x e 2 < 9218868437227405312 → VA K x e ≤ bv (bdy x e 2) * UU K) ∧ (bdy x e 0 = bdy x e 2 → VA K x e = bv (bdy x e 0) * UU K) := by
  by_cases hx : x = 0
  · subst hx
    unfold bdy
    simp only [if_pos, VA_zero, bv_zero, Nat.zero_mul]
    simp
  · obtain ⟨h1, h2, h3, h4, h5⟩ := Rounds.order (VA_rounds hK (e := e) hx he) (VA_rounds hK (e := e) hx he) (VA_rounds hK (e := e) hx he)
    unfold bdy
    rw [if_neg hx, if_neg hx, if_neg hx]
    by_cases g0 : rwb x e 0 < 9218868437227405312
    · rw [if_pos g0]
      refine ⟨?_, ?_, g0, h3, ?_, ?_⟩
      · split
        · exact h1
        · rw [if_neg (by decide)]; omega
      · split
        · split
          · exact h2
          · rw [if_neg (by decide)]; omega
        · rw [if_neg (show ¬ rwb x e 2 < 9218868437227405312 by omega), if_neg (by decide), if_neg (by decide)]; exact Nat.le_refl _
      · intro g
        split at g
        · rename_i g2; rw [if_pos g2]; exact h4
        · rw [if_neg (by decide)] at g; omega
      · intro g
        split at g
        · exact h5 g
        · rw [if_neg (by decide)] at g; omega
    · rw [if_neg g0, if_neg (show ¬ rwb x e 1 < 9218868437227405312 by omega), if_neg (show ¬ rwb x e 2 < 9218868437227405312 by omega), if_pos rfl, if_neg (by decide), if_neg (by decide)]
      refine ⟨by omega, by omega, by omega, ?_, fun g => absurd g (by omega), fun g => absurd g (by omega)⟩
      exact Nat.le_trans (Nat.mul_le_mul_right _ (bv_le (by omega))) h3
/-- the way of a mode: 0 inward, 1 to the nearest, 2 outward -/
def wyN (s : Bool) (m : Int) : Nat := if m = 2 then 1 else if (s == (m == 1)) then 2 else 0
theorem wyN_eq (s : Bool) (m : Int) : ((wyN s m : Nat) : Int) = wy s m := by
  unfold wyN wy
  split
  · rfl
  · split <;> rfl
theorem wyN_ways (s : Bool) (m : Int) : wyN s m = 0 ∨ wyN s m = 1 ∨ wyN s m = 2 := by
  unfold wyN
  split
  · exact .inr (.inl rfl)
  · split
    · exact .inr (.inr rfl)
    · exact .inl rfl
theorem tfM_zero : tfM true 0 = 0 := by unfold tfM; rw [show tfD 0 = 0 from rfl]; simp
theorem tfM_ne {x : Nat} (h0 : x ≠ 0) : tfM true x ≠ 0 := by
  unfold tfM
  split
  · have h1 := le_bl h0
    have hp : 2 ^ tfD x ≤ x := Nat.le_trans (Nat.pow_le_pow_right (by omega) (by unfold tfD; omega)) h1
    have := (Nat.le_div_iff_mul_le (Nat.two_pow_pos (tfD x))).2 (show 1 * 2 ^ tfD x ≤ x by omega)
    omega
  · rw [or_one_eq]; omega
/-- toFloat's answer by its body -/
theorem tf_bdy {s : Bool} {x : Nat} {e m : Int} (hm : 1 ≤ m ∧ m ≤ 3) : tfF s true x e m = sig s (bdy x e (wyN s m)) := by
  unfold tfF mk
  rw [if_pos (by omega)]
  congr 1
  by_cases h0 : x = 0
  · subst h0
    rw [tfM_zero, if_pos rfl]
    unfold bdy; rw [if_pos rfl]
  · rw [if_neg (tfM_ne h0), ← wyN_eq, bod_eq h0]
theorem mag_sig {s : Bool} {b : Nat} (h : b ≤ 9218868437227405312) : mag (sig s b) = b ∧ neg (sig s b) = s ∧ sig s b < 18446744073709551616 := by
  unfold mag neg sig
  cases s
  · exact ⟨by show b % _ = b; omega, decide_eq_false (by show ¬ _ ≤ b; omega), by show b < _; omega⟩
  · exact ⟨by show (b + 9223372036854775808) % _ = b; omega, decide_eq_true (by show _ ≤ b + _; omega), by show b + 9223372036854775808 < _; omega⟩
theorem stp_sig {s : Bool} {b : Nat} (h : b ≤ 9218868437227405312) : stp (sig s b) = sv s b ∧ isNaN (sig s b) = false ∧ sig s b < 18446744073709551616 := by
  obtain ⟨h1, h2, h3⟩ := mag_sig (s := s) h
  refine ⟨?_, ?_, h3⟩
  · unfold stp; rw [h1, h2]; rfl
  · unfold isNaN; rw [h1]; exact decide_eq_false (by omega)
theorem vz_VA (K : Nat) (s : Bool) (x : Nat) (e : Int) : vz K s x e = sv s (VA K x e) := by
  unfold vz VA sv
  cases s <;> simp [Int.neg_mul]
/-- a finite float's number -/
theorem vz_num {K : Nat} (hK : 70000 ≤ K) {a : Nat} (hf : mag a < 9218868437227405312) : vz K (nN a) (nM a) (Ie.sE a) = sv (neg a) (bv (mag a) * UU K) := by
  rw [vz_VA]
  by_cases h0 : mag a = 0
  · rw [(num_zero h0).1, VA_zero, sv_zero, h0, bv_zero, Nat.zero_mul, sv_zero]
  · obtain ⟨-, -, h3, h4, h5⟩ := num_parts hf h0
    have hn : nN a = neg a := by unfold nN; rw [if_neg h0]
    have e1 : VA K (nM a) (Ie.sE a) = bv (mag a) * UU K := by
      show _ = val (mag a) * UU K
      rw [← h5]
      unfold VA UU
      rw [Nat.mul_assoc, ← Nat.pow_add, show (Ie.sE a + (K : Int)).toNat = (Ie.sE a + 1074).toNat + (K - 1074) by omega]
    rw [hn, e1]
end Go.Proofs.YtlicjplmcepbnaaGreatDoor
/- The document's ways to round a number come to the same body. -/
namespace Go.Proofs.YtlicjplmcepbnaaGreatDoor
set_option linter.unusedVariables false
set_option linter.unusedSimpArgs false
open Go.RowKit Go.Fl64
open Ie

theorem rnd_rounds {x : Nat} {e : Int} {j X k : Nat} (hR : IsR x e j X k) {K : Nat} (hK : 1074 ≤ K) (h1 : 0 ≤ e + K) (h2 : 0 ≤ (j : Int) - 1074 - k + K) (way : Nat) : Rounds (x * 2 ^ (e + K).toNat) (2 ^ (K - 1074)) (j * 4503599627370496 + rnd X k (way : Int)) way := by
  have L := hR.lies hK h1 h2
  refine ⟨⟨j * 4503599627370496 + X / 2 ^ k, ⟨L.lo, L.hi⟩, ?_, ?_, ?_⟩⟩
  · intro h; subst h
    rw [rnd0]
  · intro h; subst h
    rw [rnd2]
    by_cases hx : X % 2 ^ k = 0
    · rw [if_pos hx, if_pos (L.ex.1 hx)]
    · rw [if_neg hx, if_neg (fun h => hx (L.ex.2 h)), Nat.add_assoc]
  · intro h; subst h
    rw [rnd1]
    have hpar : (j * 4503599627370496 + X / 2 ^ k) % 2 = X / 2 ^ k % 2 := by omega
    by_cases h1 : 2 * (X % 2 ^ k) < 2 ^ k
    · rw [if_pos h1, if_pos (L.half_lt.1 h1)]
    · rw [if_neg h1, if_neg (fun h => h1 (L.half_lt.2 h))]
      by_cases h2 : 2 * (X % 2 ^ k) = 2 ^ k
      · rw [if_pos h2, if_pos (L.half_eq.1 h2), hpar, Nat.add_assoc]
      · rw [if_neg h2, if_neg (fun h => h2 (L.half_eq.2 h)), Nat.add_assoc]
/-- whatever the rung's number is taken to be, the body is the same -/
theorem IsR.rwb {x : Nat} {e : Int} {j X k : Nat} (hR : IsR x e j X k) (h0 : x ≠ 0) {way : Nat} (hw : way = 0 ∨ way = 1 ∨ way = 2) : rwb x e way = j * 4503599627370496 + rnd X k (way : Int) := by
  obtain ⟨K, hK⟩ : ∃ K : Nat, K = 1200 + (64 - e).toNat + (1074 + k) := ⟨_, rfl⟩
  have a := rwb_rounds (e := e) h0 (K := K) (by omega) (by omega) (way := way)
  have b := rnd_rounds hR (K := K) (by omega) (by omega) (by omega) way
  have h1 := Rounds.mono hw a b (Nat.le_refl _)
  have h2 := Rounds.mono hw b a (Nat.le_refl _)
  omega
/-- beyond all floats -/
theorem rwb_big {x : Nat} {e : Int} (h0 : x ≠ 0) (ht : 1024 < (bl x : Int) + e) {way : Nat} (hw : way = 0 ∨ way = 1 ∨ way = 2) : 9218868437227405312 ≤ rwb x e way := by
  obtain ⟨K, hK⟩ : ∃ K : Nat, K = 1200 + (64 - e).toNat := ⟨_, rfl⟩
  have a := rwb_rounds (e := e) h0 (K := K) (by omega) (by omega) (way := way)
  obtain ⟨b0, ⟨l, g⟩, w0, w2, w1⟩ := a.fl
  have hv : bv 9218868437227405312 * 2 ^ (K - 1074) ≤ x * 2 ^ (e + K).toNat := by
    obtain ⟨j, hj⟩ : ∃ j : Nat, j = 2046 := ⟨_, rfl⟩
    have e1 : bv 9218868437227405312 = 4503599627370496 * 2 ^ j := by
      have := bv_at (j := j) (q := 4503599627370496) (.inr ⟨by omega, by omega⟩)
      rw [show j * 4503599627370496 + 4503599627370496 = 9218868437227405312 by omega] at this
      exact this
    have e2 : (4503599627370496 : Nat) = 2 ^ 52 := by rfl
    rw [e1, e2, ← Nat.pow_add, ← Nat.pow_add]
    have h1 := le_bl h0
    have hb : bl x ≠ 0 := by unfold bl; rw [if_neg h0]; omega
    refine Nat.le_trans (Nat.pow_le_pow_right (by omega) (show 52 + j + (K - 1074) ≤ bl x - 1 + (e + K).toNat by omega)) ?_
    rw [Nat.pow_add]
    exact Nat.mul_le_mul_right _ h1
  have hb := floor_mono (Nat.le_refl (x * 2 ^ (e + K).toNat)) hv g
  rcases hw with hw | hw | hw
  · rw [w0 hw]; exact hb
  · rw [w1 hw]
    split
    · exact hb
    · split <;> omega
  · rw [w2 hw]; split <;> omega
/-- a number of whole units -/
theorem isR_up {x : Nat} {E e' : Int} (h1 : e' ≤ E) (hj : -1074 ≤ e') (hlt : x * 2 ^ (E - e').toNat < 9007199254740992) (hge : e' = -1074 ∨ 4503599627370496 ≤ x * 2 ^ (E - e').toNat) : IsR x E (e' + 1074).toNat (x * 2 ^ (E - e').toNat) 0 := by
  refine ⟨fun K a b => ?_, by rw [Nat.pow_zero, Nat.div_one]; exact hlt, ?_⟩
  · rw [Nat.mul_assoc, ← Nat.pow_add, show (E - e').toNat + (((e' + 1074).toNat : Int) - 1074 - ((0 : Nat) : Int) + K).toNat = (E + K).toNat by omega]
  · rw [Nat.pow_zero, Nat.div_one]
    rcases hge with h | h
    · exact .inl (by omega)
    · exact .inr h
/-- a number with digits below the unit -/
theorem isR_down {x : Nat} {E e' : Int} (h1 : E ≤ e') (hj : -1074 ≤ e') (hlt : x / 2 ^ (e' - E).toNat < 9007199254740992) (hge : e' = -1074 ∨ 4503599627370496 ≤ x / 2 ^ (e' - E).toNat) : IsR x E (e' + 1074).toNat x (e' - E).toNat := by
  refine ⟨fun K a b => ?_, hlt, ?_⟩
  · rw [show (((e' + 1074).toNat : Int) - 1074 - ((e' - E).toNat : Int) + K).toNat = (E + K).toNat by omega]
  · rcases hge with h | h
    · exact .inl (by omega)
    · exact .inr h
end Go.Proofs.YtlicjplmcepbnaaGreatDoor
/- What the document's rounding comes to, in numbers. -/
namespace Go.Proofs.YtlicjplmcepbnaaGreatDoor
set_option linter.unusedVariables false
set_option linter.unusedSimpArgs false
open Go.RowKit Go.Fl64
open Ie

theorem bl_ne {x : Nat} (h0 : x ≠ 0) : 1 ≤ bl x := by unfold bl; rw [if_neg h0]; omega
/-- beyond all floats: the greatest one or infinity -/
theorem bdy_big {x : Nat} {E : Int} (h0 : x ≠ 0) (ht : 1024 < (bl x : Int) + E) {way : Nat} (hw : way = 0 ∨ way = 1 ∨ way = 2) : bdy x E way = if way = 0 then 9218868437227405311 else 9218868437227405312 := by
  unfold bdy
  rw [if_neg h0, if_neg (by have := rwb_big (e := E) h0 ht hw; omega)]
/-- far below the least unit -/
theorem bdy_tiny {x : Nat} {E : Int} (h0 : x ≠ 0) (ht : (bl x : Int) + E < -1075) {way : Nat} (hw : way = 0 ∨ way = 1 ∨ way = 2) : bdy x E way = if way = 2 then 1 else 0 := by
  have hb := bl_ne h0
  have hx := lt_bl x
  have hx2 : 2 * x < 2 ^ (-1074 - E).toNat := by
    have : 2 ^ (bl x + 1) ≤ 2 ^ (-1074 - E).toNat := Nat.pow_le_pow_right (by omega) (by omega)
    rw [Nat.pow_succ] at this; omega
  have hq : x / 2 ^ (-1074 - E).toNat = 0 := Nat.div_eq_of_lt (by omega)
  have hm : x % 2 ^ (-1074 - E).toNat = x := Nat.mod_eq_of_lt (by omega)
  have hR := isR_down (x := x) (E := E) (e' := -1074) (by omega) (by omega) (by rw [hq]; omega) (.inl rfl)
  have hr := hR.rwb h0 hw
  have h2 : rwb x E way = if way = 2 then 1 else 0 := by
    rw [hr]
    rcases hw with rfl | rfl | rfl
    · rw [rnd0, hq, if_neg (by decide)]; rfl
    · rw [rnd1, hq, hm, if_pos hx2, if_neg (by decide)]; rfl
    · rw [rnd2, hq, hm, if_neg h0, if_pos rfl]; rfl
  unfold bdy
  rw [if_neg h0, h2, if_pos (by split <;> omega)]
end Go.Proofs.YtlicjplmcepbnaaGreatDoor
/- The document's build, small and sign. -/
namespace Go.Proofs.YtlicjplmcepbnaaGreatDoor
set_option linter.unusedVariables false
set_option linter.unusedSimpArgs false
open Go.RowKit Go.Fl64
open Ie

theorem cinf_m (w : World) : Calls Tryz.prog 13 #[.int .i64 (-1)] w fun r w' => r = .returned (.float .f64 18442240474082181120) ∧ w' = w := by
  have hb := Ie.run_frombits
  go_enter Tryz.func13, Tryz.ntmps13
  go_wp2
  go_ret
  exact ⟨rfl, rfl⟩
end Go.Proofs.YtlicjplmcepbnaaGreatDoor
/- The document's rounding, walked. -/
namespace Go.Proofs.YtlicjplmcepbnaaGreatDoor
set_option linter.unusedVariables false
set_option linter.unusedSimpArgs false
open Go.RowKit Go.Fl64
open Ie

theorem below_drewN {g : Nat} {a b : World} (h : Below g a b) (n : Nat) : Below g a (b.drewN n) := h.trans ⟨rfl, rfl, rfl, Nat.le_refl _, fun _ _ => rfl⟩
end Go.Proofs.YtlicjplmcepbnaaGreatDoor
/- The document's rounding. -/
namespace Go.Proofs.YtlicjplmcepbnaaGreatDoor
end Go.Proofs.YtlicjplmcepbnaaGreatDoor
/- The document's mode, Round, Between. -/
namespace Go.Proofs.YtlicjplmcepbnaaGreatDoor
set_option linter.unusedVariables false
set_option linter.unusedSimpArgs false
open Go.RowKit Go.Fl64
open Ie

end Go.Proofs.YtlicjplmcepbnaaGreatDoor
/- The document's Between. -/
namespace Go.Proofs.YtlicjplmcepbnaaGreatDoor
set_option linter.unusedVariables false
set_option linter.unusedSimpArgs false
open Go.RowKit

end Go.Proofs.YtlicjplmcepbnaaGreatDoor
/- The document's SqrtTo. -/
namespace Go.Proofs.YtlicjplmcepbnaaGreatDoor
set_option linter.unusedVariables false
set_option linter.unusedSimpArgs false
open Go.RowKit

end Go.Proofs.YtlicjplmcepbnaaGreatDoor
/- The document's RatioTo. -/
namespace Go.Proofs.YtlicjplmcepbnaaGreatDoor
set_option linter.unusedVariables false
set_option linter.unusedSimpArgs false
open Go.RowKit

end Go.Proofs.YtlicjplmcepbnaaGreatDoor
/- What is cut off finely enough rounds the same way: the digits below the highest 64 tell only whether there are any. -/
namespace Go.Proofs.YtlicjplmcepbnaaGreatDoor
set_option linter.unusedVariables false
set_option linter.unusedSimpArgs false
open Go.RowKit Go.Fl64
open Ie

theorem bl_ge {x n : Nat} : n + 1 ≤ bl x ↔ 2 ^ n ≤ x := by
  have := bl_le x n
  omega
theorem bl_div {x n : Nat} (h : n < bl x) : bl (x / 2 ^ n) = bl x - n := by
  have hx0 : x ≠ 0 := fun e => by rw [e] at h; simp [bl] at h
  have h1 := lt_bl x
  have h2 := le_bl hx0
  have a : bl (x / 2 ^ n) ≤ bl x - n := (bl_le _ _).2 ((Nat.div_lt_iff_lt_mul (Nat.two_pow_pos n)).2 (by rw [← Nat.pow_add, show bl x - n + n = bl x by omega]; exact h1))
  have b : bl x - n - 1 + 1 ≤ bl (x / 2 ^ n) := bl_ge.2 ((Nat.le_div_iff_mul_le (Nat.two_pow_pos n)).2 (by rw [← Nat.pow_add, show bl x - n - 1 + n = bl x - 1 by omega]; exact h2))
  omega
theorem bl_two {x : Nat} (h : x ≠ 0) : bl (2 * x + 1) = bl x + 1 := by
  have h1 := lt_bl x
  have h2 := le_bl h
  have hb := bl_ne h
  have a : bl (2 * x + 1) ≤ bl x + 1 := (bl_le _ _).2 (by rw [Nat.pow_succ]; omega)
  have b : bl x + 1 ≤ bl (2 * x + 1) := bl_ge.2 (by
    have : 2 ^ bl x = 2 * 2 ^ (bl x - 1) := by rw [← Nat.pow_succ']; congr 1; omega
    omega)
  omega
theorem two_div {x t : Nat} (h : 1 ≤ t) : (2 * x + 1) / 2 ^ t = x / 2 ^ (t - 1) := by
  obtain ⟨n, rfl⟩ : ∃ n, t = n + 1 := ⟨t - 1, by omega⟩
  rw [Nat.add_sub_cancel, Nat.pow_succ', ← Nat.div_div_eq_div_mul, show (2 * x + 1) / 2 = x by omega]
/-- one digit more, that is set, says the same as 'not exact' -/
theorem tf_sticky {s : Bool} {x : Nat} {e m : Int} (h : 64 ≤ bl x) : tfF s false x e m = tfF s true (2 * x + 1) (e - 1) m := by
  have hx0 : x ≠ 0 := fun e => by rw [e] at h; simp [bl] at h
  have hb := bl_two hx0
  have hd : tfD (2 * x + 1) = tfD x + 1 := by unfold tfD; omega
  unfold tfF
  have hM : tfM true (2 * x + 1) = tfM false x := by
    unfold tfM
    rw [hd, two_div (by omega), Nat.add_sub_cancel, tz_odd (show (2 * x + 1) % 2 = 1 by omega), decide_eq_true (show 0 < tfD x + 1 by omega)]
    simp
  rw [hM, hd, show e - 1 + ((tfD x + 1 : Nat) : Int) = e + (tfD x : Int) by omega]
/-- what is cut off of more digits than 64: as if it was told alone that something is -/
theorem tf_cut {s : Bool} {Z n : Nat} {E m : Int} (h : 64 ≤ bl (Z / 2 ^ n)) (hr : Z % 2 ^ n ≠ 0) : tfF s true Z E m = tfF s false (Z / 2 ^ n) (E + n) m := by
  have hn : 0 < n := by
    rcases Nat.eq_zero_or_pos n with h0 | h0
    · rw [h0, Nat.pow_zero, Nat.mod_one] at hr; omega
    · exact h0
  have hlt : n < bl Z := Nat.lt_of_not_le fun hle => by
    have : Z / 2 ^ n = 0 := Nat.div_eq_of_lt ((bl_le _ _).1 hle)
    rw [this] at h; simp [bl] at h
  have hb := bl_div hlt
  have hZ0 : Z ≠ 0 := fun e => by rw [e] at hlt; simp [bl] at hlt
  have hd : tfD Z = tfD (Z / 2 ^ n) + n := by unfold tfD; omega
  have hst : tz Z < tfD Z := by
    refine (tz_iff hZ0).2 fun e => hr ?_
    have h1 : 2 ^ n ∣ 2 ^ tfD Z := Nat.pow_dvd_pow 2 (by omega)
    exact Nat.mod_eq_zero_of_dvd (Nat.dvd_trans h1 (Nat.dvd_of_mod_eq_zero e))
  unfold tfF
  have hM : tfM true Z = tfM false (Z / 2 ^ n) := by
    unfold tfM
    rw [decide_eq_true hst, hd, Nat.div_div_eq_div_mul, ← Nat.pow_add, Nat.add_comm n]
    simp
  rw [hM, hd, show E + ((tfD (Z / 2 ^ n) + n : Nat) : Int) = E + (n : Int) + (tfD (Z / 2 ^ n) : Int) by omega]
end Go.Proofs.YtlicjplmcepbnaaGreatDoor
/- A quotient rounded: the program's digits and the document's come to the same float. -/
namespace Go.Proofs.YtlicjplmcepbnaaGreatDoor
set_option linter.unusedVariables false
set_option linter.unusedSimpArgs false
open Go.RowKit Go.Fl64
open Ie

end Go.Proofs.YtlicjplmcepbnaaGreatDoor
/- A root rounded: the program's digits and the document's come to the same float. -/
namespace Go.Proofs.YtlicjplmcepbnaaGreatDoor
set_option linter.unusedVariables false
set_option linter.unusedSimpArgs false
open Go.RowKit Go.Fl64
open Ie

theorem four_two (D : Nat) : 2 ^ (2 * D) = 2 ^ D * 2 ^ D := by rw [← Nat.pow_add]; congr 1; omega
end Go.Proofs.YtlicjplmcepbnaaGreatDoor
/- The document's numbers between two cuts, rounded. -/
namespace Go.Proofs.YtlicjplmcepbnaaGreatDoor
set_option linter.unusedVariables false
set_option linter.unusedSimpArgs false
open Go.RowKit Go.Fl64
open Ie

end Go.Proofs.YtlicjplmcepbnaaGreatDoor
/- The document's Add and Sub of finite floats. -/
namespace Go.Proofs.YtlicjplmcepbnaaGreatDoor
set_option linter.unusedVariables false
set_option linter.unusedSimpArgs false
open Go.RowKit Go.Fl64

end Go.Proofs.YtlicjplmcepbnaaGreatDoor
/- Add and Sub of floats: the program and the document answer alike. -/
namespace Go.Proofs.YtlicjplmcepbnaaGreatDoor
set_option linter.unusedVariables false
set_option linter.unusedSimpArgs false
open Go.RowKit Go.Fl64

theorem tF_fits (a : Nat) : Fits (-1074) 1025 (tF a).2.1 (tF a).2.2 := by
  refine Fits.cn (.inr ⟨(Ie.lp_bound a).1, by have := (Ie.lp_bound a).2; omega, ?_⟩)
  have h := Ie.mant_bound a
  have h2 := (Ie.lp_bound a).2
  have : 2 ^ 53 ≤ 2 ^ (1025 - Ie.lp a).toNat := Nat.pow_le_pow_right (by decide) (by omega)
  omega
theorem tF_ok (a : Nat) : Ok (tF a) := by
  refine ok_cn (Fits.ok (lo := -1074) (hi := 1025) (.inr ⟨(Ie.lp_bound a).1, by have := (Ie.lp_bound a).2; omega, ?_⟩) (by omega) (by omega) (by omega))
  have h := Ie.mant_bound a
  have h2 := (Ie.lp_bound a).2
  have : 2 ^ 53 ≤ 2 ^ (1025 - Ie.lp a).toNat := Nat.pow_le_pow_right (by decide) (by omega)
  omega
theorem cn_parts (a m : Nat) (ha : a < 18446744073709551616) (hf : mag a < 9218868437227405312) (hm : Ie.sM a = (m : Int)) : cn (neg a) m (Ie.sE a) = tF a := by
  unfold tF cn
  rcases of_parts a m ha hf hm with ⟨h1, h2⟩ | ⟨h1, h2, -, h3, h4⟩
  · rw [if_pos h1, if_pos h2]
  · rw [if_neg h1, if_neg h2, h3, h4]
theorem exact_ok (a : Nat) (ha : a < 18446744073709551616) (hf : mag a < 9218868437227405312) (w : World) (hT : Tab32 w) (hI : Ie.Tab w) : Calls Tryz.prog 43 #[.float .f64 a] w fun r w' => OutA w (tF a) r w' := by
  obtain ⟨m, hm, hml⟩ := sM_lt a ha
  refine exact_1 a (tF a) w fun W hW => (of_fin a m ha W (hT.later hW) (Tab.later hI hW) hf hm).mono ?_
  rintro r w' ⟨A, rfl, hN, hb⟩
  have hp := hN.pn
  rw [cn_parts a m ha hf hm] at hp
  obtain ⟨s, ao, n, cap, e, rfl⟩ := hp.shape
  exact ⟨s, ao, n, cap, e, rfl, hp, hb⟩

/-- the sum of two numbers, in its one form -/
def tS (t1 t2 : Bool × Nat × Int) : Bool × Nat × Int := cn (sumN t1.1 t1.2.1 t1.2.2 t2.1 t2.2.1 t2.2.2).1 (sumN t1.1 t1.2.1 t1.2.2 t2.1 t2.2.1 t2.2.2).2.1 (sumN t1.1 t1.2.1 t1.2.2 t2.1 t2.2.1 t2.2.2).2.2
theorem tS_fits {lo hi : Int} {t1 t2 : Bool × Nat × Int} (h1 : Fits lo hi t1.2.1 t1.2.2) (h2 : Fits lo hi t2.2.1 t2.2.2) : Fits lo (hi + 1) (tS t1 t2).2.1 (tS t1 t2).2.2 := Fits.cn (Fits.sum h1 h2)
theorem tS_okR {lo hi : Int} {t1 t2 : Bool × Nat × Int} (h1 : Fits lo hi t1.2.1 t1.2.2) (h2 : Fits lo hi t2.2.1 t2.2.2) (hb : hi + 1 - lo ≤ 65536) (hlo : -65536 ≤ lo) (hhi : hi + 1 ≤ 65536) : okR (sumN t1.1 t1.2.1 t1.2.2 t2.1 t2.2.1 t2.2.2).1 (sumN t1.1 t1.2.1 t1.2.2 t2.1 t2.2.1 t2.2.2).2.1 (sumN t1.1 t1.2.1 t1.2.2 t2.1 t2.2.1 t2.2.2).2.2 = true := (Fits.sum h1 h2).ok hb hlo hhi
theorem psign {t : Bool × Nat × Int} {A : Value} {w : World} (ok : Ok t) (h : PN w A t) : Calls Tryz.prog 60 #[A] w fun r w' => r = .returned (.int .i64 (sgI t.1 (dlen t.2.1))) ∧ Below w.heap.size w w' := by
  obtain ⟨ao, cap, rfl, h1⟩ := h
  obtain ⟨f1, -, -, -, -⟩ := ok.facts
  exact sign_ok h1 (by omega) ok
theorem sgI_nought {s : Bool} {x : Nat} : (sgI s (dlen x) == 0) = decide (x = 0) := by
  unfold sgI
  by_cases h : x = 0
  · rw [if_pos (dlen_eq_zero.2 h), decide_eq_true h]; rfl
  · rw [if_neg (fun e => h (dlen_eq_zero.1 e)), decide_eq_false h]; cases s <;> rfl
theorem sig_lt {s : Bool} {n : Nat} (h : n ≤ 9218868437227405312) : sig s n < 18446744073709551616 := by
  unfold sig; cases s <;> simp <;> omega
theorem tfF_lt {s : Bool} {x : Nat} {e m : Int} (hm : 1 ≤ m ∧ m ≤ 3) : tfF s true x e m < 18446744073709551616 := by
  rw [tf_bdy hm]; exact sig_lt (bdy_le _ _ _)
theorem fin_false {a : Nat} : fin a = false ↔ ¬ mag a < 9218868437227405312 := by unfold fin; simp
theorem addX_lt {a b : Nat} (ha : a < 18446744073709551616) (hb : b < 18446744073709551616) : addX a b < 18446744073709551616 := by
  unfold addX
  repeat' split
  all_goals first | exact ha | exact hb | decide

/-- what a call of floats answers, alike X -/
def OutF2 (W : World) (X : Nat) (r : Ending) (w' : World) : Prop := ∃ n, r = .returned (.float .f64 n) ∧ lk n X ∧ Below W.heap.size W w'
end Go.Proofs.YtlicjplmcepbnaaGreatDoor
/- Sub of floats, and the walk of RoundSums. -/
namespace Go.Proofs.YtlicjplmcepbnaaGreatDoor
set_option linter.unusedVariables false
set_option linter.unusedSimpArgs false
open Go.RowKit Go.Fl64

theorem psub_1 (a b X : Nat) (m : Int) (w : World) (hb : b < 18446744073709551616) (k : Calls Tryz.prog 36 #[.float .f64 a, .float .f64 (ngt b), .int .i64 m] w fun r w' => OutF2 w X r w') :
    Calls Tryz.prog 33 #[.float .f64 a, .float .f64 b, .int .i64 m] w fun r w' => OutF2 w X r w' := by
  have hn : ∀ w, (Op.unary UnOp.neg (.float .f64 b)).run Tryz.prog w = .ok (.float .f64 (ngt b)) w := fun w => by rw [← negF b hb]; rfl
  go_enter Tryz.func33, Tryz.ntmps33
  go_wp2_with fail
  refine k.mono ?_
  rintro r w1 ⟨n, rfl, h1, h2⟩
  have HB : Hid (lk n X ∧ Below w.heap.size w w1) := ⟨h1, h2⟩
  clear k h1 h2
  go_wp2_with fail
  go_ret
  exact ⟨_, rfl, HB.out.1, HB.out.2⟩
end Go.Proofs.YtlicjplmcepbnaaGreatDoor
/- A range over a function whose rounds are told of the memory that they are handed. -/
namespace Go.Proofs.YtlicjplmcepbnaaGreatDoor
set_option linter.unusedVariables false
set_option linter.unusedSimpArgs false
open Go Go.RowKit

end Go.Proofs.YtlicjplmcepbnaaGreatDoor
/- The small functions of sums: exact, rounded. -/
namespace Go.Proofs.YtlicjplmcepbnaaGreatDoor
set_option linter.unusedVariables false
set_option linter.unusedSimpArgs false
open Go.RowKit Go.Fl64

end Go.Proofs.YtlicjplmcepbnaaGreatDoor
/- The iterator over a list's floats, as exact numbers. -/
namespace Go.Proofs.YtlicjplmcepbnaaGreatDoor
set_option linter.unusedVariables false
set_option linter.unusedSimpArgs false
open Go Go.RowKit Go.Fl64 Go.Shelf
attribute [local go_sem] Oper.semAt_some

/-- a list of floats in memory -/
def FAt (w : World) (ao : Option Addr) (len : Nat) (xs : Nat → Nat) : Prop := ∃ b off, (0 < len → ao = some ⟨b, off, none⟩) ∧ ∀ j, j < len → w.cell? ⟨b, off + j, none⟩ = some (.float .f64 (xs j))
theorem FAt.later {w w' : World} {ao : Option Addr} {len : Nat} {xs : Nat → Nat} (h : FAt w ao len xs) (hb : Below w.heap.size w w') : FAt w' ao len xs := by
  obtain ⟨b, off, h1, h2⟩ := h
  refine ⟨b, off, h1, fun j hj => ?_⟩
  have := h2 j hj
  have hlt : b < w.heap.size := by
    unfold World.cell? at this
    rcases Nat.lt_or_ge b w.heap.size with h | h
    · exact h
    · rw [Array.getElem?_eq_none h] at this
      simp at this
  exact (hb.cell (p := ⟨b, off + j, none⟩) hlt).trans this

end Go.Proofs.YtlicjplmcepbnaaGreatDoor
/- The exact sum of a list's floats. -/
namespace Go.Proofs.YtlicjplmcepbnaaGreatDoor
set_option linter.unusedVariables false
set_option linter.unusedSimpArgs false
open Go Go.RowKit Go.Fl64 Go.Shelf
attribute [local go_sem] Oper.semAt_some

/-- the sum of the first floats of a list, in its one form -/
def tSum (xs : Nat → Nat) : Nat → Bool × Nat × Int
  | 0 => (false, 0, 0)
  | k + 1 => tS (tSum xs k) (tF (xs k))

theorem cell_put {W : World} {l : Nat} {o o' : Obj} {p : Addr} {v : Value} (h : W.cell? p = some v) (hl : W.heap[l]? = some o) (ho : o.isCells = false) : (W.putObj l o').cell? p = some v := by
  unfold World.cell? at *
  by_cases e : p.block = l
  · rw [e, hl] at h
    cases o <;> simp_all [Obj.isCells]
  · rw [World.putObj_heap_other e]; exact h
theorem pn_put {W : World} {l : Nat} {o o' : Obj} {A : Value} {t : Bool × Nat × Int} (h : PN W A t) (hl : W.heap[l]? = some o) (ho : o.isCells = false) : PN (W.putObj l o') A t := by
  obtain ⟨ao, cap, h1, ao', cap', h2, h3, h4, b, off, h5, h6⟩ := h
  exact ⟨ao, cap, h1, ao', cap', h2, h3, h4, b, off, h5, fun i hi => cell_put (h6 i hi) hl ho⟩
theorem box_put {W : World} {l g : Nat} {o o' : Obj} {c : Array Value} {ty : TypeId} {z : Nat × Nat} (h : W.heap[g]? = some (.cells c ty z)) (hl : W.heap[l]? = some o) (ho : o.isCells = false) : (W.putObj l o').heap[g]? = some (.cells c ty z) := by
  have e : g ≠ l := by
    intro e
    rw [e, hl] at h
    cases h
    cases ho
  rw [World.putObj_heap_other e]; exact h
/-- what holds between two rounds: the result's box is empty, the sum's box holds the sum so far -/
def TotI (w : World) (B g3 : Nat) (xs : Nat → Nat) (k : Nat) (W : World) : Prop :=
  Below w.heap.size w W ∧ B ≤ W.heap.size ∧ W.heap[w.heap.size]? = some (.cells #[.bool false, .slice none 0 0, .int .i64 0] 65 (0, 0)) ∧ ∃ s ao n cap e, W.heap[g3]? = some (.cells #[.bool s, .slice ao n cap, .int .i64 e] 65 (0, 0)) ∧ PN W (.agg #[.bool s, .slice ao n cap, .int .i64 e]) (tSum xs k)
theorem TotI.later {w : World} {B g3 : Nat} {xs : Nat → Nat} {k : Nat} {A C : World} (h : TotI w B g3 xs k A) (hb : Below A.heap.size A C) : TotI w B g3 xs k C := by
  obtain ⟨h1, h2, h3, s, ao, n, cap, e, h4, h5⟩ := h
  exact ⟨h1.trans (hb.mono h1.size), Nat.le_trans h2 hb.size, box_later h3 hb (lt_of_box h3), s, ao, n, cap, e, box_later h4 hb (lt_of_box h4), h5.later hb⟩
theorem TotI.put {w : World} {B g3 : Nat} {xs : Nat → Nat} {k l : Nat} {A : World} {o o' : Obj} (h : TotI w B g3 xs k A) (hB : w.heap.size ≤ B) (hl : B ≤ l) (ho : A.heap[l]? = some o) (hc : o.isCells = false) : TotI w B g3 xs k (A.putObj l o') := by
  obtain ⟨h1, h2, h3, s, ao, n, cap, e, h4, h5⟩ := h
  have hb : Below w.heap.size A (A.putObj l o') := (Below.refl w.heap.size A).grown (grownBy_putObj' A l o') (by have := (Array.getElem?_eq_some_iff.1 ho).1; omega) (fun k e => by cases e; omega)
  exact ⟨h1.trans hb, Nat.le_trans h2 hb.size, box_put h3 ho hc, s, ao, n, cap, e, box_put h4 ho hc, pn_put h5 ho hc⟩
theorem KeepsFrom.below {B : Nat} {W W' : World} (h : Below W.heap.size W W') : KeepsFrom B W W' := ⟨h.size, fun k o _ hk _ => box_later hk h (Array.getElem?_eq_some_iff.1 hk).1⟩

end Go.Proofs.YtlicjplmcepbnaaGreatDoor
/- sums.taken, sums.finite, sums.near. -/
namespace Go.Proofs.YtlicjplmcepbnaaGreatDoor
set_option linter.unusedVariables false
set_option linter.unusedSimpArgs false
open Go.RowKit Go.Fl64

/-- a number of the program in its box, made since a world -/
def UxP (w3 wc : World) (g : Nat) (s : Bool) (ao : Option Addr) (n cap : Nat) (ex : Int) (t : Bool × Nat × Int) : Prop := wc.heap[g]? = some (.cells #[.bool s, .slice ao n cap, .int .i64 ex] 65 (0, 0)) ∧ w3.heap.size ≤ g ∧ Below w3.heap.size w3 wc ∧ PN wc (.agg #[.bool s, .slice ao n cap, .int .i64 ex]) t
theorem UxP.new {w3 w7 : World} {s : Bool} {ao : Option Addr} {n cap : Nat} {ex : Int} {t : Bool × Nat × Int} (hn : PN w7 (.agg #[.bool s, .slice ao n cap, .int .i64 ex]) t) (hb : Below w3.heap.size w3 w7) : UxP w3 (w7.alloc (.cells #[.bool s, .slice ao n cap, .int .i64 ex] 65)) w7.heap.size s ao n cap ex t :=
  ⟨heap_alloc_new _ _, hb.size, hb.alloc hb.size _, hn.later ((Below.refl _ _).alloc (Nat.le_refl _) _)⟩
theorem UxP.put {w3 w7 : World} {g : Nat} {s : Bool} {ao : Option Addr} {n cap : Nat} {ex : Int} {t : Bool × Nat × Int} (hn : PN w7 (.agg #[.bool s, .slice ao n cap, .int .i64 ex]) t) (hb : Below w3.heap.size w3 w7) (hg : w3.heap.size ≤ g) (hbx : w7.heap[g]? = some (.cells #[.bool false, .slice none 0 0, .int .i64 0] 65 (0, 0))) :
    UxP w3 (((w7.setCell ⟨g, 0, none⟩ (.bool s)).setCell ⟨g, 1, none⟩ (.slice ao n cap)).setCell ⟨g, 2, none⟩ (.int .i64 ex)) g s ao n cap ex t :=
  ⟨store3 _ _ _ hbx, hg, below_store3 hb hg _ _ _, pn_store hn hbx _ _ _⟩

end Go.Proofs.YtlicjplmcepbnaaGreatDoor
/- sums.finite, sums.near, sums.floats, sums.Two. -/
namespace Go.Proofs.YtlicjplmcepbnaaGreatDoor
set_option linter.unusedVariables false
set_option linter.unusedSimpArgs false
open Go.RowKit Go.Fl64

end Go.Proofs.YtlicjplmcepbnaaGreatDoor
/- The sum of two floats to the nearest, as a function; sums.near and the document's add. -/
namespace Go.Proofs.YtlicjplmcepbnaaGreatDoor
set_option linter.unusedVariables false
set_option linter.unusedSimpArgs false
open Go.RowKit Go.Fl64

theorem lk_or {n X : Nat} (h : lk n X) : n = X ∨ (isNaN n = true ∧ isNaN X = true) := by
  cases hn : isNaN X
  · exact .inl (h.eq hn)
  · cases h2 : isNaN n
    · have := h.2
      unfold same at this
      rw [hn, h2] at this
      have e : n = X := by simp at this; omega
      rw [e, hn] at h2
      cases h2
    · exact .inr ⟨rfl, rfl⟩
end Go.Proofs.YtlicjplmcepbnaaGreatDoor
/- The program's Div of floats where something is to be rounded. -/
namespace Go.Proofs.YtlicjplmcepbnaaGreatDoor
set_option linter.unusedVariables false
set_option linter.unusedSimpArgs false
open Go.RowKit Go.Fl64

/-- how many digits are laid behind the dividend -/
def rtK (t1 t2 : Bool × Nat × Int) : Nat := (max 0 (64 + (bl t2.2.1 : Int) - (bl t1.2.1 : Int))).toNat
/-- the quotient, rounded -/
def rtF (t1 t2 : Bool × Nat × Int) (m : Int) : Nat := tfF (t1.1 != t2.1) (decide (t1.2.1 * 2 ^ rtK t1 t2 % t2.2.1 = 0)) (t1.2.1 * 2 ^ rtK t1 t2 / t2.2.1) (t1.2.2 - t2.2.2 - rtK t1 t2) m
theorem pratio {t1 t2 : Bool × Nat × Int} {X Y : Value} {m : Int} {w : World} (hT : Tab32 w) (o1 : Ok t1) (o2 : Ok t2) (h1 : PN w X t1) (h2 : PN w Y t2) (x0 : t1.2.1 ≠ 0) (y0 : t2.2.1 ≠ 0) (hm : 1 ≤ m ∧ m ≤ 3) :
    Calls Tryz.prog 52 #[X, Y, .int .i64 m] w fun r w' => r = .returned (.tuple #[.float .f64 (rtF t1 t2 m), .int .i64 0]) ∧ Below w.heap.size w w' := by
  obtain ⟨pa, pc, rfl, i1⟩ := h1
  obtain ⟨qa, qc, rfl, i2⟩ := h2
  have f1 := o1.facts
  have f2 := o2.facts
  have bx := bl_le_dlen t1.2.1
  have by' := bl_le_dlen t2.2.1
  have hn0 : ((dlen t1.2.1 : Int) == 0) = false := by
    have : dlen t1.2.1 ≠ 0 := fun e => x0 (dlen_eq_zero.1 e)
    simp; omega
  have hn1 : ((dlen t2.2.1 : Int) == 0) = false := by
    have : dlen t2.2.1 ≠ 0 := fun e => y0 (dlen_eq_zero.1 e)
    simp; omega
  have hk : max 0 (64 + (bl t2.2.1 : Int) - (bl t1.2.1 : Int)) = (rtK t1 t2 : Int) := by unfold rtK; omega
  refine pratio_1 t1.1 t2.1 pa qa _ pc _ qc _ _ (rtK t1 t2) (bl t1.2.1) (bl t2.2.1) t1.2.2 t2.2.2 m (t1.1 != t2.1) w (rfl : (!(t1.1 == t2.1)) = (t1.1 != t2.1)) hT i1 i2 (by omega) (by omega) y0 (by omega) (by omega) (by omega) (by omega) (by omega) rfl rfl (by omega) (by omega) hk (by omega) hn0 hn1 (fun W' g hW' hg => ?_)
  have := maybe2 hg (i1.later hW') (i2.later hW') (by omega) (by omega)
  rw [show okN t1.1 (dlen t1.2.1) t1.2.1 t1.2.2 = true from o1, show okN t2.1 (dlen t2.2.1) t2.2.1 t2.2.2 = true from o2] at this
  exact this

theorem ne_nought {a : Nat} (ha : a < 18446744073709551616) (hf : mag a < 9218868437227405312) : (FloatKind.f64.format.order a 0 != some Ordering.eq) = decide (mag a ≠ 0) := by
  rw [bne, ord_eq a 0 ha (by decide)]
  have na : isNaN a = false := by unfold isNaN; simp; omega
  have nb : isNaN 0 = false := by decide
  unfold Fl64.eq
  rw [na, nb]
  have e0 : stp 0 = 0 := by decide
  rw [e0]
  by_cases h : mag a = 0
  · have : stp a = 0 := by unfold stp sgn; rw [h]; simp
    simp [this, h]
  · have : stp a ≠ 0 := by unfold stp sgn; split <;> omega
    simp [this, h]
theorem pplain_y (a : Nat) (ha : a < 18446744073709551616) (hf : mag a < 9218868437227405312) (h0 : mag a ≠ 0) (w : World) : Calls Tryz.prog 40 #[.float .f64 a] w fun r w' => r = .returned (.bool true) ∧ w' = w := by
  have k := pfin_y a ha hf
  have he := ne_nought ha hf
  rw [decide_eq_true h0] at he
  clear ha hf h0
  go_enter Tryz.func40, Tryz.ntmps40
  go_wp2_with (go_at_call 58; refine (k _).mono ?_; rintro e w' ⟨rfl, rfl⟩)
  go_ret
  exact ⟨rfl, rfl⟩
theorem pplain_z (a : Nat) (ha : a < 18446744073709551616) (h0 : mag a = 0) (w : World) : Calls Tryz.prog 40 #[.float .f64 a] w fun r w' => r = .returned (.bool false) ∧ w' = w := by
  have k := pfin_y a ha (by omega)
  have he := ne_nought ha (by omega)
  rw [decide_eq_false (by omega)] at he
  clear ha h0
  go_enter Tryz.func40, Tryz.ntmps40
  go_wp2_with (go_at_call 58; refine (k _).mono ?_; rintro e w' ⟨rfl, rfl⟩)
  go_ret
  exact ⟨rfl, rfl⟩
theorem pplain_n (a : Nat) (ha : a < 18446744073709551616) (hf : ¬ mag a < 9218868437227405312) (w : World) : Calls Tryz.prog 40 #[.float .f64 a] w fun r w' => r = .returned (.bool false) ∧ w' = w.drew := by
  have k := pfin_n a ha hf w
  clear ha hf
  go_enter Tryz.func40, Tryz.ntmps40
  go_wp2_with fail
  refine k.mono ?_
  rintro e w' ⟨rfl, hw⟩
  rw [hw]
  clear hw k w'
  go_wp2
  go_ret
  exact ⟨rfl, rfl⟩

set_option maxHeartbeats 4000000 in
set_option maxRecDepth 200000 in
theorem pdiv_r (a b F : Nat) (m : Int) (ta tb : Bool × Nat × Int) (w : World) (hm : isM m = true)
    (hfa : ∀ W, Calls Tryz.prog 40 #[.float .f64 a] W fun r w' => r = .returned (.bool true) ∧ w' = W)
    (hfb : ∀ W, Calls Tryz.prog 40 #[.float .f64 b] W fun r w' => r = .returned (.bool true) ∧ w' = W)
    (kA : Calls Tryz.prog 43 #[.float .f64 a] w fun r w' => OutA w ta r w')
    (kB : ∀ W, Below w.heap.size w W → Calls Tryz.prog 43 #[.float .f64 b] W fun r w' => OutA W tb r w')
    (kC : ∀ W X Y, Below w.heap.size w W → PN W X ta → PN W Y tb → Calls Tryz.prog 52 #[X, Y, .int .i64 m] W fun r w' => r = .returned (.tuple #[.float .f64 F, .int .i64 0]) ∧ Below W.heap.size W w') :
    Calls Tryz.prog 28 #[.float .f64 a, .float .f64 b, .int .i64 m] w fun r w' => r = .returned (.float .f64 F) ∧ Below w.heap.size w w' := by
  have kV := pvalid m w
  rw [hm] at kV
  have HKB : Hid (∀ W, Below w.heap.size w W → Calls Tryz.prog 43 #[.float .f64 b] W fun r w' => OutA W tb r w') := kB
  have HKC : Hid (∀ W X Y, Below w.heap.size w W → PN W X ta → PN W Y tb → Calls Tryz.prog 52 #[X, Y, .int .i64 m] W fun r w' => r = .returned (.tuple #[.float .f64 F, .int .i64 0]) ∧ Below W.heap.size W w') := kC
  clear kB kC
  go_enter Tryz.func28, Tryz.ntmps28
  go_wp2_with fail
  refine kV.mono ?_
  rintro r w' ⟨rfl, hw⟩
  rw [hw]
  clear hw kV
  have kN := hfa w
  go_wp2_with fail
  refine kN.mono ?_
  rintro r w' ⟨rfl, hw⟩
  rw [hw]
  clear hw kN hfa
  have kN := hfb w
  go_wp2_with fail
  refine kN.mono ?_
  rintro r w' ⟨rfl, hw⟩
  rw [hw]
  clear hw kN hfb
  go_wp2_with fail
  refine kA.mono ?_
  rintro r w1 ⟨s1, ao1, n1, cap1, ex1, rfl, hP1, hb1⟩
  have k2 := HKB.out w1 hb1
  clear kA
  go_wp2_with fail
  refine k2.mono ?_
  rintro r w2 ⟨s2, ao2, n2, cap2, ex2, rfl, hP2, hb2⟩
  have HB2 : Hid (Below w.heap.size w w2) := hb1.trans (hb2.mono hb1.size)
  have k3 := HKC.out w2 _ _ HB2.out (hP1.later hb2) hP2
  clear k2 hP1 hP2 hb1 hb2
  go_wp2_with fail
  refine k3.mono ?_
  rintro r w3 ⟨rfl, hb3⟩
  have HB3 : Hid (Below w.heap.size w w3) := HB2.out.trans (hb3.mono HB2.out.size)
  clear k3 hb3
  go_wp2_with fail
  go_ret
  exact ⟨rfl, HB3.out⟩

/-- Div of two floats that are finite and not nought -/
theorem pdiv_ok (a b : Nat) (m : Int) (w : World) (hm : isM m = true) (hT : Tab32 w) (hI : Ie.Tab w) (ha : a < 18446744073709551616) (hb : b < 18446744073709551616) (hfa : mag a < 9218868437227405312) (hfb : mag b < 9218868437227405312) (ha0 : mag a ≠ 0) (hb0 : mag b ≠ 0) (xa : (tF a).2.1 ≠ 0) (xb : (tF b).2.1 ≠ 0) :
    Calls Tryz.prog 28 #[.float .f64 a, .float .f64 b, .int .i64 m] w fun r w' => r = .returned (.float .f64 (rtF (tF a) (tF b) m)) ∧ Below w.heap.size w w' :=
  pdiv_r a b _ m (tF a) (tF b) w hm (pplain_y a ha hfa ha0) (pplain_y b hb hfb hb0) (exact_ok a ha hfa w hT hI) (fun W h => exact_ok b hb hfb W (hT.later h) (Tab.later hI h)) (fun W X Y h h1 h2 => pratio (hT.later h) (tF_ok a) (tF_ok b) h1 h2 xa xb (isM_iff.1 hm))
theorem tF_ne {a : Nat} (h : mag a ≠ 0) : (tF a).2.1 ≠ 0 := by
  have h1 := Ie.mant_ne h
  unfold tF cn
  rw [if_neg h1]
  intro e
  have := (tz_spec _ _ (Nat.le_refl _) h1).2
  simp only at e
  rw [e] at this
  simp at this
end Go.Proofs.YtlicjplmcepbnaaGreatDoor
/- The program's Hypot of finite floats. -/
namespace Go.Proofs.YtlicjplmcepbnaaGreatDoor
set_option linter.unusedVariables false
set_option linter.unusedSimpArgs false
open Go.RowKit Go.Fl64

end Go.Proofs.YtlicjplmcepbnaaGreatDoor
/- Hypot of 3 and 4, and a float made whole: what the law's own test asks. -/
namespace Go.Proofs.YtlicjplmcepbnaaGreatDoor
set_option linter.unusedVariables false
set_option linter.unusedSimpArgs false
open Go.RowKit Go.Fl64

/-- the product of two numbers, in its one form -/
def tM (t1 t2 : Bool × Nat × Int) : Bool × Nat × Int := cn (!(t1.1 == t2.1)) (t1.2.1 * t2.2.1) (t1.2.2 + t2.2.2)
/-- how many digits are laid behind a number whose root is taken -/
def sqK (t : Bool × Nat × Int) : Nat := if ((t.2.2 - ((max 0 (128 - (bl t.2.1 : Int))).toNat : Int)).tmod 2 != 0) = true then (max 0 (128 - (bl t.2.1 : Int))).toNat + 1 else (max 0 (128 - (bl t.2.1 : Int))).toNat
theorem td2 (z : Int) (h1 : -80000 ≤ z) (h2 : z ≤ 80000) : -40000 ≤ z.tdiv 2 ∧ z.tdiv 2 ≤ 40000 := by
  by_cases h : 0 ≤ z
  · rw [Int.tdiv_eq_ediv_of_nonneg h]; omega
  · obtain ⟨y, rfl⟩ : ∃ y, z = -y := ⟨-z, by omega⟩
    rw [Int.neg_tdiv, Int.tdiv_eq_ediv_of_nonneg (by omega)]; omega
theorem psqrt {t : Bool × Nat × Int} {X : Value} {m : Int} {w : World} (hT : Tab32 w) (ok : Ok t) (h : PN w X t) (hs : t.1 = false) (hm : 1 ≤ m ∧ m ≤ 3) :
    Calls Tryz.prog 53 #[X, .int .i64 m] w fun r w' => ∃ q, (q * q ≤ t.2.1 * 2 ^ sqK t ∧ t.2.1 * 2 ^ sqK t < (q + 1) * (q + 1)) ∧ r = .returned (.tuple #[.float .f64 (tfF false (decide (q * q = t.2.1 * 2 ^ sqK t)) q ((t.2.2 - (sqK t : Int)).tdiv 2) m), .int .i64 0]) ∧ Below w.heap.size w w' := by
  obtain ⟨pa, pc, rfl, i1⟩ := h
  have f1 := ok.facts
  have bx := bl_le_dlen t.2.1
  rw [hs]
  obtain ⟨k0', hk0⟩ : ∃ k0' : Nat, max 0 (128 - (bl t.2.1 : Int)) = (k0' : Int) := ⟨(max 0 (128 - (bl t.2.1 : Int))).toNat, by omega⟩
  have hq : (max 0 (128 - (bl t.2.1 : Int))).toNat = k0' := by omega
  have hmb : ∀ W' g, Below w.heap.size w W' → W'.heap[g]? = some (.cells #[.bool false, .slice pa (dlen t.2.1) pc, .int .i64 t.2.2] 65 (0, 0)) → Calls Tryz.prog 71 #[.slice (some ⟨g, 0, none⟩) 1 1] W' fun r w' => r = .returned (.bool true) ∧ Below W'.heap.size W' w' := fun W' g hW' hg => by
    have := maybe1 hg (i1.later hW') (by omega)
    have ok' : okN t.1 (dlen t.2.1) t.2.1 t.2.2 = true := ok
    rw [hs] at ok'
    rw [ok'] at this
    exact this
  unfold sqK
  rw [hq]
  by_cases hod : ((t.2.2 - (k0' : Int)).tmod 2 != 0) = true
  · simp only [if_pos hod]
    have := psqrt_o pa _ pc t.2.1 k0' (bl t.2.1) t.2.2 m _ w hT i1 (by omega) (by omega) (by omega) (by omega) rfl (by omega) hk0 (by omega) hod rfl (td2 _ (by omega) (by omega)).1 (td2 _ (by omega) (by omega)).2 hmb
    rw [show ((k0' + 1 : Nat) : Int) = (k0' : Int) + 1 by omega]
    exact this
  · simp only [if_neg hod]
    exact psqrt_e pa _ pc t.2.1 k0' (bl t.2.1) t.2.2 m _ w hT i1 (by omega) (by omega) (by omega) (by omega) rfl (by omega) hk0 (by omega) (by simpa using hod) rfl (td2 _ (by omega) (by omega)).1 (td2 _ (by omega) (by omega)).2 hmb

theorem root_only {q q' N : Nat} (h1 : q * q ≤ N) (h2 : N < (q + 1) * (q + 1)) (h3 : q' * q' ≤ N) (h4 : N < (q' + 1) * (q' + 1)) : q = q' := by
  rcases Nat.lt_trichotomy q q' with h | h | h
  · have : (q + 1) * (q + 1) ≤ q' * q' := Nat.mul_le_mul h h
    omega
  · exact h
  · have : (q' + 1) * (q' + 1) ≤ q * q := Nat.mul_le_mul h h
    omega

theorem tM_ok {t1 t2 : Bool × Nat × Int} (h : okR (!(t1.1 == t2.1)) (t1.2.1 * t2.2.1) (t1.2.2 + t2.2.2) = true) : Ok (tM t1 t2) := ok_cn h
end Go.Proofs.YtlicjplmcepbnaaGreatDoor
/- The program's Mul and Div of floats, in every case. -/
namespace Go.Proofs.YtlicjplmcepbnaaGreatDoor
set_option linter.unusedVariables false
set_option linter.unusedSimpArgs false
open Go.RowKit Go.Fl64

/-- how an operation of the machine answers: in every world the same float, or a NaN that is drawn -/
def Rn (op : BinOp) (a b F : Nat) : Prop := (∀ W, (binOp op 22 (.float .f64 a) (.float .f64 b)).run Tryz.prog W = .ok (.float .f64 F) W) ∨ ∀ W, ∃ n, lk n F ∧ (binOp op 22 (.float .f64 a) (.float .f64 b)).run Tryz.prog W = .ok (.float .f64 n) W.drew
theorem rn_of {op : BinOp} {a b F : Nat} (hop : op = .add ∨ op = .sub ∨ op = .mul ∨ op = .quo) (h : (floatBits op .f64 a b = none ∧ isNaN F = true) ∨ floatBits op .f64 a b = some F) : Rn op a b F := by
  rcases h with ⟨h1, h2⟩ | h1
  · refine .inr fun W => ?_
    obtain ⟨n, n1, n2, hs⟩ := run_nan (P := Tryz.prog) W op 22 a b hop h1
    exact ⟨n, lk.nan n1 n2 h2, hs⟩
  · exact .inl fun W => run_float_arith W op 22 .f64 a b _ h1
theorem pplain_f (a : Nat) (ha : a < 18446744073709551616) (h : pln a = false) (w : World) : Calls Tryz.prog 40 #[.float .f64 a] w fun r w' => r = .returned (.bool false) ∧ Below w.heap.size w w' := by
  rcases pln_false.1 h with h | h
  · exact (pplain_n a ha h w).mono fun r w' ⟨e, hw⟩ => ⟨e, hw ▸ (Below.refl _ _).drew⟩
  · exact (pplain_z a ha h w).mono fun r w' ⟨e, hw⟩ => ⟨e, hw ▸ Below.refl _ _⟩
theorem pplain_t (a : Nat) (ha : a < 18446744073709551616) (h : pln a = true) (w : World) : Calls Tryz.prog 40 #[.float .f64 a] w fun r w' => r = .returned (.bool true) ∧ w' = w := pplain_y a ha (pln_true.1 h).1 (pln_true.1 h).2 w

theorem pmul_no (a b : Nat) (m : Int) (w : World) (hm : isM m = false) : Calls Tryz.prog 23 #[.float .f64 a, .float .f64 b, .int .i64 m] w fun r w' => r = .returned (.float .f64 9221120237041090561) ∧ Below w.heap.size w w' := by
  have kV := pvalid m w
  rw [hm] at kV
  go_enter Tryz.func23, Tryz.ntmps23
  go_wp2_with fail
  refine kV.mono ?_
  rintro r w' ⟨rfl, hw⟩
  rw [hw]
  clear hw kV w'
  have kN := Ie.c52 w
  go_wp2_with fail
  refine kN.mono ?_
  rintro r w' ⟨rfl, hw⟩
  rw [hw]
  clear hw kN w'
  go_wp2_with fail
  go_ret
  exact ⟨rfl, Below.refl _ _⟩

set_option maxHeartbeats 4000000 in
set_option maxRecDepth 200000 in
theorem pmul_na (a b F : Nat) (m : Int) (w : World) (hm : isM m = true) (hfa : ∀ W, Calls Tryz.prog 40 #[.float .f64 a] W fun r w' => r = .returned (.bool false) ∧ Below W.heap.size W w') (h : Rn .mul a b F) (hF : F < 18446744073709551616) :
    Calls Tryz.prog 23 #[.float .f64 a, .float .f64 b, .int .i64 m] w fun r w' => OutF2 w F r w' := by
  have kV := pvalid m w
  rw [hm] at kV
  have HF : Hid (F < 18446744073709551616 ∧ Rn .mul a b F) := ⟨hF, h⟩
  clear hF h
  go_enter Tryz.func23, Tryz.ntmps23
  go_wp2_with fail
  refine kV.mono ?_
  rintro r w' ⟨rfl, hw⟩
  rw [hw]
  clear hw kV w'
  have kN := hfa w
  go_wp2_with fail
  refine kN.mono ?_
  rintro r w1 ⟨rfl, hb1⟩
  have HB : Hid (Below w.heap.size w w1 ∧ Below w.heap.size w w1.drew) := ⟨hb1, hb1.drew⟩
  clear hb1 kN hfa
  rcases HF.out.2 with h | h
  · have hr := h w1
    clear h
    go_wp2_with fail
    go_ret
    exact ⟨_, rfl, lk.refl HF.out.1, HB.out.1⟩
  · obtain ⟨n, hn, hr⟩ := h w1
    have HN : Hid (lk n F) := hn
    clear hn h
    go_wp2_with fail
    go_ret
    exact ⟨_, rfl, HN.out, HB.out.2⟩

set_option maxHeartbeats 4000000 in
set_option maxRecDepth 200000 in
theorem pmul_nb (a b F : Nat) (m : Int) (w : World) (hm : isM m = true) (hfa : ∀ W, Calls Tryz.prog 40 #[.float .f64 a] W fun r w' => r = .returned (.bool true) ∧ w' = W) (hfb : ∀ W, Calls Tryz.prog 40 #[.float .f64 b] W fun r w' => r = .returned (.bool false) ∧ Below W.heap.size W w') (h : Rn .mul a b F) (hF : F < 18446744073709551616) :
    Calls Tryz.prog 23 #[.float .f64 a, .float .f64 b, .int .i64 m] w fun r w' => OutF2 w F r w' := by
  have kV := pvalid m w
  rw [hm] at kV
  have HF : Hid (F < 18446744073709551616 ∧ Rn .mul a b F) := ⟨hF, h⟩
  clear hF h
  go_enter Tryz.func23, Tryz.ntmps23
  go_wp2_with fail
  refine kV.mono ?_
  rintro r w' ⟨rfl, hw⟩
  rw [hw]
  clear hw kV w'
  have kN := hfa w
  go_wp2_with fail
  refine kN.mono ?_
  rintro r w' ⟨rfl, hw⟩
  rw [hw]
  clear hw kN hfa w'
  have kN := hfb w
  go_wp2_with fail
  refine kN.mono ?_
  rintro r w1 ⟨rfl, hb1⟩
  have HB : Hid (Below w.heap.size w w1 ∧ Below w.heap.size w w1.drew) := ⟨hb1, hb1.drew⟩
  clear hb1 kN hfb
  rcases HF.out.2 with h | h
  · have hr := h w1
    clear h
    go_wp2_with fail
    go_ret
    exact ⟨_, rfl, lk.refl HF.out.1, HB.out.1⟩
  · obtain ⟨n, hn, hr⟩ := h w1
    have HN : Hid (lk n F) := hn
    clear hn h
    go_wp2_with fail
    go_ret
    exact ⟨_, rfl, HN.out, HB.out.2⟩

theorem pdiv_no (a b : Nat) (m : Int) (w : World) (hm : isM m = false) : Calls Tryz.prog 28 #[.float .f64 a, .float .f64 b, .int .i64 m] w fun r w' => r = .returned (.float .f64 9221120237041090561) ∧ Below w.heap.size w w' := by
  have kV := pvalid m w
  rw [hm] at kV
  go_enter Tryz.func28, Tryz.ntmps28
  go_wp2_with fail
  refine kV.mono ?_
  rintro r w' ⟨rfl, hw⟩
  rw [hw]
  clear hw kV w'
  have kN := Ie.c52 w
  go_wp2_with fail
  refine kN.mono ?_
  rintro r w' ⟨rfl, hw⟩
  rw [hw]
  clear hw kN w'
  go_wp2_with fail
  go_ret
  exact ⟨rfl, Below.refl _ _⟩

set_option maxHeartbeats 4000000 in
set_option maxRecDepth 200000 in
theorem pdiv_na (a b F : Nat) (m : Int) (w : World) (hm : isM m = true) (hfa : ∀ W, Calls Tryz.prog 40 #[.float .f64 a] W fun r w' => r = .returned (.bool false) ∧ Below W.heap.size W w') (h : Rn .quo a b F) (hF : F < 18446744073709551616) :
    Calls Tryz.prog 28 #[.float .f64 a, .float .f64 b, .int .i64 m] w fun r w' => OutF2 w F r w' := by
  have kV := pvalid m w
  rw [hm] at kV
  have HF : Hid (F < 18446744073709551616 ∧ Rn .quo a b F) := ⟨hF, h⟩
  clear hF h
  go_enter Tryz.func28, Tryz.ntmps28
  go_wp2_with fail
  refine kV.mono ?_
  rintro r w' ⟨rfl, hw⟩
  rw [hw]
  clear hw kV w'
  have kN := hfa w
  go_wp2_with fail
  refine kN.mono ?_
  rintro r w1 ⟨rfl, hb1⟩
  have HB : Hid (Below w.heap.size w w1 ∧ Below w.heap.size w w1.drew) := ⟨hb1, hb1.drew⟩
  clear hb1 kN hfa
  rcases HF.out.2 with h | h
  · have hr := h w1
    clear h
    go_wp2_with fail
    go_ret
    exact ⟨_, rfl, lk.refl HF.out.1, HB.out.1⟩
  · obtain ⟨n, hn, hr⟩ := h w1
    have HN : Hid (lk n F) := hn
    clear hn h
    go_wp2_with fail
    go_ret
    exact ⟨_, rfl, HN.out, HB.out.2⟩

set_option maxHeartbeats 4000000 in
set_option maxRecDepth 200000 in
theorem pdiv_nb (a b F : Nat) (m : Int) (w : World) (hm : isM m = true) (hfa : ∀ W, Calls Tryz.prog 40 #[.float .f64 a] W fun r w' => r = .returned (.bool true) ∧ w' = W) (hfb : ∀ W, Calls Tryz.prog 40 #[.float .f64 b] W fun r w' => r = .returned (.bool false) ∧ Below W.heap.size W w') (h : Rn .quo a b F) (hF : F < 18446744073709551616) :
    Calls Tryz.prog 28 #[.float .f64 a, .float .f64 b, .int .i64 m] w fun r w' => OutF2 w F r w' := by
  have kV := pvalid m w
  rw [hm] at kV
  have HF : Hid (F < 18446744073709551616 ∧ Rn .quo a b F) := ⟨hF, h⟩
  clear hF h
  go_enter Tryz.func28, Tryz.ntmps28
  go_wp2_with fail
  refine kV.mono ?_
  rintro r w' ⟨rfl, hw⟩
  rw [hw]
  clear hw kV w'
  have kN := hfa w
  go_wp2_with fail
  refine kN.mono ?_
  rintro r w' ⟨rfl, hw⟩
  rw [hw]
  clear hw kN hfa w'
  have kN := hfb w
  go_wp2_with fail
  refine kN.mono ?_
  rintro r w1 ⟨rfl, hb1⟩
  have HB : Hid (Below w.heap.size w w1 ∧ Below w.heap.size w w1.drew) := ⟨hb1, hb1.drew⟩
  clear hb1 kN hfb
  rcases HF.out.2 with h | h
  · have hr := h w1
    clear h
    go_wp2_with fail
    go_ret
    exact ⟨_, rfl, lk.refl HF.out.1, HB.out.1⟩
  · obtain ⟨n, hn, hr⟩ := h w1
    have HN : Hid (lk n F) := hn
    clear hn h
    go_wp2_with fail
    go_ret
    exact ⟨_, rfl, HN.out, HB.out.2⟩

set_option maxHeartbeats 4000000 in
set_option maxRecDepth 200000 in
theorem pmul_r (a b F : Nat) (m : Int) (ta tb t3 : Bool × Nat × Int) (w : World) (hm : isM m = true)
    (hfa : ∀ W, Calls Tryz.prog 40 #[.float .f64 a] W fun r w' => r = .returned (.bool true) ∧ w' = W)
    (hfb : ∀ W, Calls Tryz.prog 40 #[.float .f64 b] W fun r w' => r = .returned (.bool true) ∧ w' = W)
    (kA : Calls Tryz.prog 43 #[.float .f64 a] w fun r w' => OutA w ta r w')
    (kB : ∀ W, Below w.heap.size w W → Calls Tryz.prog 43 #[.float .f64 b] W fun r w' => OutA W tb r w')
    (kC : ∀ W X Y, Below w.heap.size w W → PN W X ta → PN W Y tb → Calls Tryz.prog 42 #[X, Y] W fun r w' => OutA W t3 r w')
    (kR : ∀ W X, Below w.heap.size w W → PN W X t3 → Calls Tryz.prog 41 #[X, .int .i64 m] W fun r w' => r = .returned (.float .f64 F) ∧ Below W.heap.size W w') :
    Calls Tryz.prog 23 #[.float .f64 a, .float .f64 b, .int .i64 m] w fun r w' => r = .returned (.float .f64 F) ∧ Below w.heap.size w w' := by
  have kV := pvalid m w
  rw [hm] at kV
  have HKB : Hid (∀ W, Below w.heap.size w W → Calls Tryz.prog 43 #[.float .f64 b] W fun r w' => OutA W tb r w') := kB
  have HKC : Hid (∀ W X Y, Below w.heap.size w W → PN W X ta → PN W Y tb → Calls Tryz.prog 42 #[X, Y] W fun r w' => OutA W t3 r w') := kC
  have HKR : Hid (∀ W X, Below w.heap.size w W → PN W X t3 → Calls Tryz.prog 41 #[X, .int .i64 m] W fun r w' => r = .returned (.float .f64 F) ∧ Below W.heap.size W w') := kR
  clear kB kC kR
  go_enter Tryz.func23, Tryz.ntmps23
  go_wp2_with fail
  refine kV.mono ?_
  rintro r w' ⟨rfl, hw⟩
  rw [hw]
  clear hw kV
  have kN := hfa w
  go_wp2_with fail
  refine kN.mono ?_
  rintro r w' ⟨rfl, hw⟩
  rw [hw]
  clear hw kN hfa
  have kN := hfb w
  go_wp2_with fail
  refine kN.mono ?_
  rintro r w' ⟨rfl, hw⟩
  rw [hw]
  clear hw kN hfb
  go_wp2_with fail
  refine kA.mono ?_
  rintro r w1 ⟨s1, ao1, n1, cap1, ex1, rfl, hP1, hb1⟩
  have k2 := HKB.out w1 hb1
  clear kA
  go_wp2_with fail
  refine k2.mono ?_
  rintro r w2 ⟨s2, ao2, n2, cap2, ex2, rfl, hP2, hb2⟩
  have HB2 : Hid (Below w.heap.size w w2) := hb1.trans (hb2.mono hb1.size)
  have k3 := HKC.out w2 _ _ HB2.out (hP1.later hb2) hP2
  clear k2 hP1 hP2 hb1 hb2
  go_wp2_with fail
  refine k3.mono ?_
  rintro r w3 ⟨s3, ao3, n3, cap3, ex3, rfl, hP3, hb3⟩
  have HB3 : Hid (Below w.heap.size w w3) := HB2.out.trans (hb3.mono HB2.out.size)
  have k4 := HKR.out w3 _ HB3.out hP3
  clear k3 hb3 hP3
  go_wp2_with fail
  refine k4.mono ?_
  rintro r w4 ⟨rfl, hb4⟩
  have HB4 : Hid (Below w.heap.size w w4) := HB3.out.trans (hb4.mono HB3.out.size)
  clear k4 hb4
  go_wp2_with fail
  go_ret
  exact ⟨rfl, HB4.out⟩


theorem tM_okR (a b : Nat) : okR (!((tF a).1 == (tF b).1)) ((tF a).2.1 * (tF b).2.1) ((tF a).2.2 + (tF b).2.2) = true := (Fits.mul (tF_fits a) (tF_fits b)).ok (by omega) (by omega) (by omega)
theorem mulX_lt {a b : Nat} : mulX a b < 18446744073709551616 := by
  unfold mulX
  repeat' split
  all_goals first | decide | exact (by unfold sig; split <;> decide)
theorem divX_lt {a b : Nat} : divX a b < 18446744073709551616 := by
  unfold divX
  repeat' split
  all_goals first | decide | exact (by unfold sig; split <;> decide)

/-- what Mul answers, and Div -/
def fMul (a b : Nat) (m : Int) : Nat := if isM m = false then 9221120237041090560 else if pln a = false ∨ pln b = false then mulX a b else tfF (tM (tF a) (tF b)).1 true (tM (tF a) (tF b)).2.1 (tM (tF a) (tF b)).2.2 m
def fDiv (a b : Nat) (m : Int) : Nat := if isM m = false then 9221120237041090560 else if pln a = false ∨ pln b = false then divX a b else rtF (tF a) (tF b) m
theorem tfM_lt (ex : Bool) (x : Nat) : tfM ex x < 18446744073709551616 := by
  have h1 : x < 2 ^ (tfD x + 64) := Nat.lt_of_lt_of_le (lt_bl x) (Nat.pow_le_pow_right (by decide) (by unfold tfD; omega))
  rw [Nat.pow_add] at h1
  have h2 : x / 2 ^ tfD x < 2 ^ 64 := Nat.div_lt_of_lt_mul h1
  have h3 : x / 2 ^ tfD x ||| 1 < 2 ^ 64 := Nat.or_lt_two_pow h2 (by decide)
  unfold tfM
  split
  · exact h2
  · exact h3
theorem tfF_lt' {s ex : Bool} {x : Nat} {e m : Int} (hm : 1 ≤ m ∧ m ≤ 3) : tfF s ex x e m < 18446744073709551616 := by
  unfold tfF Ie.mk
  rw [if_pos (by omega)]
  refine sig_lt ?_
  split
  · omega
  · rename_i h0
    have := Ie.bod_bounds (tfM ex x) (e + (tfD x : Int)) (Ie.wy s m) (tfM_lt ex x) h0
    omega
theorem rtF_lt {t1 t2 : Bool × Nat × Int} {m : Int} (hm : 1 ≤ m ∧ m ≤ 3) : rtF t1 t2 m < 18446744073709551616 := tfF_lt' hm
theorem fMul_lt {a b : Nat} {m : Int} : fMul a b m < 18446744073709551616 := by
  unfold fMul
  split
  · decide
  · rename_i h
    split
    · exact mulX_lt
    · exact tfF_lt (isM_iff.1 (by simpa using h))
theorem fDiv_lt {a b : Nat} {m : Int} : fDiv a b m < 18446744073709551616 := by
  unfold fDiv
  split
  · decide
  · rename_i h
    split
    · exact divX_lt
    · exact rtF_lt (isM_iff.1 (by simpa using h))

theorem pmul_all (a b : Nat) (m : Int) (ha : a < 18446744073709551616) (hb : b < 18446744073709551616) (w : World) (hT : Tab32 w) (hI : Ie.Tab w) :
    Calls Tryz.prog 23 #[.float .f64 a, .float .f64 b, .int .i64 m] w fun r w' => OutF2 w (fMul a b m) r w' := by
  unfold fMul
  cases hm : isM m
  · rw [if_pos rfl]
    refine (pmul_no a b m w hm).mono ?_
    rintro r w' ⟨rfl, hb⟩
    exact ⟨_, rfl, lk.nan (by decide) (by decide) (by decide), hb⟩
  · rw [if_neg (by decide)]
    have hm' := isM_iff.1 hm
    by_cases hp : pln a = false ∨ pln b = false
    · rw [if_pos hp]
      have hr : Rn .mul a b (mulX a b) := rn_of (by simp) (mul_non ha hb hp)
      cases h : pln a
      · exact pmul_na a b _ m w hm (pplain_f a ha h) hr mulX_lt
      · exact pmul_nb a b _ m w hm (pplain_t a ha h) (pplain_f b hb (by rcases hp with h' | h'; rw [h] at h'; cases h'; exact h')) hr mulX_lt
    · rw [if_neg hp]
      have pa : pln a = true := by cases h : pln a; exact absurd (.inl h) hp; rfl
      have pb : pln b = true := by cases h : pln b; exact absurd (.inr h) hp; rfl
      have hok : Ok (tM (tF a) (tF b)) := tM_ok (tM_okR a b)
      refine (pmul_r a b _ m (tF a) (tF b) (tM (tF a) (tF b)) w hm (pplain_t a ha pa) (pplain_t b hb pb) (exact_ok a ha (pln_true.1 pa).1 w hT hI) (fun W h => exact_ok b hb (pln_true.1 pb).1 W (hT.later h) (Tab.later hI h)) (fun W X Y h h1 h2 => multiplied_op (mul_op (tF_ok a) (tF_ok b) (tM_okR a b)) (hT.later h) h1 h2) (fun W X h h1 => prounded (hT.later h) hok h1 hm')).mono ?_
      rintro r w' ⟨rfl, hb'⟩
      exact ⟨_, rfl, lk.refl (tfF_lt hm'), hb'⟩
theorem pdiv_all (a b : Nat) (m : Int) (ha : a < 18446744073709551616) (hb : b < 18446744073709551616) (w : World) (hT : Tab32 w) (hI : Ie.Tab w) :
    Calls Tryz.prog 28 #[.float .f64 a, .float .f64 b, .int .i64 m] w fun r w' => OutF2 w (fDiv a b m) r w' := by
  unfold fDiv
  cases hm : isM m
  · rw [if_pos rfl]
    refine (pdiv_no a b m w hm).mono ?_
    rintro r w' ⟨rfl, hb⟩
    exact ⟨_, rfl, lk.nan (by decide) (by decide) (by decide), hb⟩
  · rw [if_neg (by decide)]
    have hm' := isM_iff.1 hm
    by_cases hp : pln a = false ∨ pln b = false
    · rw [if_pos hp]
      have hr : Rn .quo a b (divX a b) := rn_of (by simp) (div_non ha hb hp)
      cases h : pln a
      · exact pdiv_na a b _ m w hm (pplain_f a ha h) hr divX_lt
      · exact pdiv_nb a b _ m w hm (pplain_t a ha h) (pplain_f b hb (by rcases hp with h' | h'; rw [h] at h'; cases h'; exact h')) hr divX_lt
    · rw [if_neg hp]
      have pa : pln a = true := by cases h : pln a; exact absurd (.inl h) hp; rfl
      have pb : pln b = true := by cases h : pln b; exact absurd (.inr h) hp; rfl
      refine (pdiv_ok a b m w hm hT hI ha hb (pln_true.1 pa).1 (pln_true.1 pb).1 (pln_true.1 pa).2 (pln_true.1 pb).2 (tF_ne (pln_true.1 pa).2) (tF_ne (pln_true.1 pb).2)).mono ?_
      rintro r w' ⟨rfl, hb'⟩
      exact ⟨_, rfl, lk.refl (rtF_lt hm'), hb'⟩
end Go.Proofs.YtlicjplmcepbnaaGreatDoor
/- The document's quotient, rounded: the program's float. -/
namespace Go.Proofs.YtlicjplmcepbnaaGreatDoor
set_option linter.unusedVariables false
set_option linter.unusedSimpArgs false
open Go.RowKit Go.Fl64
open Ie

theorem bl_shl' {x k : Nat} (h : x ≠ 0) : bl (x * 2 ^ k) = bl x + k := by
  have h1 := lt_bl x
  have h2 := le_bl h
  have hb := bl_ne h
  have a : bl (x * 2 ^ k) ≤ bl x + k := (bl_le _ _).2 (by rw [Nat.pow_add]; exact Nat.mul_lt_mul_of_pos_right h1 (Nat.two_pow_pos k))
  have b : bl x + k - 1 + 1 ≤ bl (x * 2 ^ k) := bl_ge.2 (by rw [show bl x + k - 1 = bl x - 1 + k by omega, Nat.pow_add]; exact Nat.mul_le_mul_right _ h2)
  omega
theorem bl_quo_lo {N y : Nat} (hy : y ≠ 0) : bl N ≤ bl (N / y) + bl y := by
  refine (bl_le _ _).2 ?_
  have h1 : N < y * (N / y + 1) := Nat.lt_mul_div_succ N (Nat.pos_of_ne_zero hy)
  have h2 := lt_bl (N / y)
  have h3 := lt_bl y
  rw [Nat.pow_add, Nat.mul_comm (2 ^ bl (N / y))]
  exact Nat.lt_of_lt_of_le h1 (Nat.mul_le_mul (Nat.le_of_lt h3) h2)
end Go.Proofs.YtlicjplmcepbnaaGreatDoor
/- The document's product of numbers, that can be handed on; its Mul and Div of floats. -/
namespace Go.Proofs.YtlicjplmcepbnaaGreatDoor
set_option linter.unusedVariables false
set_option linter.unusedSimpArgs false
open Go.RowKit Go.Fl64

end Go.Proofs.YtlicjplmcepbnaaGreatDoor
/- The document's magnitude, Order, Cmp. -/
namespace Go.Proofs.YtlicjplmcepbnaaGreatDoor
set_option linter.unusedVariables false
set_option linter.unusedSimpArgs false
open Go.RowKit

end Go.Proofs.YtlicjplmcepbnaaGreatDoor
/- The document's magnitude, Order, Cmp, joined. -/
namespace Go.Proofs.YtlicjplmcepbnaaGreatDoor
set_option linter.unusedVariables false
set_option linter.unusedSimpArgs false
open Go.RowKit

end Go.Proofs.YtlicjplmcepbnaaGreatDoor
/- The document's Order and Cmp, joined. -/
namespace Go.Proofs.YtlicjplmcepbnaaGreatDoor
set_option linter.unusedVariables false
set_option linter.unusedSimpArgs false
open Go.RowKit

end Go.Proofs.YtlicjplmcepbnaaGreatDoor
/- The document's root, rounded: the program's float. -/
namespace Go.Proofs.YtlicjplmcepbnaaGreatDoor
set_option linter.unusedVariables false
set_option linter.unusedSimpArgs false
open Go.RowKit Go.Fl64

theorem bl_root_lo {N q : Nat} (h : N < (q + 1) * (q + 1)) : bl N ≤ 2 * bl q := by
  refine (bl_le _ _).2 (Nat.lt_of_lt_of_le h ?_)
  rw [four_two]
  exact Nat.mul_le_mul (lt_bl q) (lt_bl q)
end Go.Proofs.YtlicjplmcepbnaaGreatDoor
/- Square roots of numbers: the program's and the document's are one float; Sqrt of floats. -/
namespace Go.Proofs.YtlicjplmcepbnaaGreatDoor
set_option linter.unusedVariables false
set_option linter.unusedSimpArgs false
open Go.RowKit Go.Fl64

theorem rootEx (a : Nat) : ∃ s, s * s ≤ a ∧ a < (s + 1) * (s + 1) := by
  induction a with
  | zero => exact ⟨0, by omega, by omega⟩
  | succ n ih =>
    obtain ⟨s, h1, h2⟩ := ih
    by_cases h : n + 1 < (s + 1) * (s + 1)
    · exact ⟨s, by omega, h⟩
    · refine ⟨s + 1, by omega, ?_⟩
      have : (s + 1 + 1) * (s + 1 + 1) = (s + 1) * (s + 1) + 2 * (s + 1) + 1 := by grind
      omega
theorem sqK_even (t : Bool × Nat × Int) : t.2.2 - (sqK t : Int) = 2 * (t.2.2 - (sqK t : Int)).tdiv 2 := by
  unfold sqK
  generalize (max 0 (128 - (bl t.2.1 : Int))).toNat = k
  by_cases hod : ((t.2.2 - (k : Int)).tmod 2 != 0) = true
  · rw [if_pos hod]
    have hod' : (t.2.2 - (k : Int)).tmod 2 ≠ 0 := by simpa using hod
    have h3 := Int.mul_tdiv_add_tmod (t.2.2 - ((k + 1 : Nat) : Int)) 2
    have h5 : ¬ (2 ∣ t.2.2 - (k : Int)) := fun d => hod' (Int.tmod_eq_zero_of_dvd d)
    have h4 : (t.2.2 - ((k + 1 : Nat) : Int)).tmod 2 = 0 := Int.tmod_eq_zero_of_dvd (by omega)
    omega
  · rw [if_neg hod]
    have hod' : (t.2.2 - (k : Int)).tmod 2 = 0 := by simpa using hod
    have h3 := Int.mul_tdiv_add_tmod (t.2.2 - (k : Int)) 2
    omega
theorem sqK_big (t : Bool × Nat × Int) : 128 ≤ bl t.2.1 + sqK t := by
  unfold sqK
  split <;> omega
theorem psq_np (a : Nat) (m : Int) (w : World) (hm : isM m = true) (hl : (FloatKind.f64.format.order a 0 == some Ordering.lt) = false) (hf : ∀ W, Calls Tryz.prog 40 #[.float .f64 a] W fun r w' => r = .returned (.bool false) ∧ Below W.heap.size W w') : Calls Tryz.prog 29 #[.float .f64 a, .int .i64 m] w fun r w' => r = .returned (.float .f64 a) ∧ Below w.heap.size w w' := by
  have kV := pvalid m w
  rw [hm] at kV
  go_enter Tryz.func29, Tryz.ntmps29
  go_wp2_with fail
  refine kV.mono ?_
  rintro r w' ⟨rfl, hw⟩
  rw [hw]
  clear hw kV w'
  have kN := hf w
  go_wp2_with fail
  refine kN.mono ?_
  rintro r w1 ⟨rfl, hb1⟩
  have HB : Hid (Below w.heap.size w w1) := hb1
  clear hb1 kN hf
  go_wp2_with fail
  go_ret
  exact ⟨rfl, HB.out⟩
theorem psq_r (a F : Nat) (m : Int) (ta : Bool × Nat × Int) (w : World) (hm : isM m = true) (hl : (FloatKind.f64.format.order a 0 == some Ordering.lt) = false) (hf : ∀ W, Calls Tryz.prog 40 #[.float .f64 a] W fun r w' => r = .returned (.bool true) ∧ w' = W)
    (kA : Calls Tryz.prog 43 #[.float .f64 a] w fun r w' => OutA w ta r w')
    (kR : ∀ W X, Below w.heap.size w W → PN W X ta → Calls Tryz.prog 53 #[X, .int .i64 m] W fun r w' => r = .returned (.tuple #[.float .f64 F, .int .i64 0]) ∧ Below W.heap.size W w') : Calls Tryz.prog 29 #[.float .f64 a, .int .i64 m] w fun r w' => r = .returned (.float .f64 F) ∧ Below w.heap.size w w' := by
  have kV := pvalid m w
  rw [hm] at kV
  have HKR : Hid (∀ W X, Below w.heap.size w W → PN W X ta → Calls Tryz.prog 53 #[X, .int .i64 m] W fun r w' => r = .returned (.tuple #[.float .f64 F, .int .i64 0]) ∧ Below W.heap.size W w') := kR
  clear kR
  go_enter Tryz.func29, Tryz.ntmps29
  go_wp2_with fail
  refine kV.mono ?_
  rintro r w' ⟨rfl, hw⟩
  rw [hw]
  clear hw kV w'
  have kN := hf w
  go_wp2_with fail
  refine kN.mono ?_
  rintro r w' ⟨rfl, hw⟩
  rw [hw]
  clear hw kN hf w'
  go_wp2_with fail
  refine kA.mono ?_
  rintro r w1 ⟨s1, ao1, n1, cap1, ex1, rfl, hP1, hb1⟩
  have HB1 : Hid (Below w.heap.size w w1) := hb1
  have k2 := HKR.out w1 _ hb1 hP1
  clear kA hb1 hP1
  go_wp2_with fail
  refine k2.mono ?_
  rintro r w2 ⟨rfl, hb2⟩
  have HB2 : Hid (Below w.heap.size w w2) := HB1.out.trans (hb2.mono HB1.out.size)
  clear k2 hb2
  go_wp2_with fail
  go_ret
  exact ⟨rfl, HB2.out⟩

theorem tF_pos {a : Nat} (h : neg a = false) : (tF a).1 = false := by
  unfold tF cn
  split
  · rfl
  · exact h
end Go.Proofs.YtlicjplmcepbnaaGreatDoor
/- Hypot of floats, on both sides. -/
namespace Go.Proofs.YtlicjplmcepbnaaGreatDoor
set_option linter.unusedVariables false
set_option linter.unusedSimpArgs false
open Go.RowKit Go.Fl64

end Go.Proofs.YtlicjplmcepbnaaGreatDoor
/- sums.Row. -/
namespace Go.Proofs.YtlicjplmcepbnaaGreatDoor
set_option linter.unusedVariables false
set_option linter.unusedSimpArgs false
open Go.RowKit Go.Fl64

end Go.Proofs.YtlicjplmcepbnaaGreatDoor
/- sums.Kept. -/
namespace Go.Proofs.YtlicjplmcepbnaaGreatDoor
set_option linter.unusedVariables false
set_option linter.unusedSimpArgs false
open Go.RowKit Go.Fl64

end Go.Proofs.YtlicjplmcepbnaaGreatDoor
/- sums.Halves. -/
namespace Go.Proofs.YtlicjplmcepbnaaGreatDoor
set_option linter.unusedVariables false
set_option linter.unusedSimpArgs false
open Go.RowKit Go.Fl64

end Go.Proofs.YtlicjplmcepbnaaGreatDoor
/- sums.anyNaN, sums.allFinite, sums.allMinusNought. -/
namespace Go.Proofs.YtlicjplmcepbnaaGreatDoor
set_option linter.unusedVariables false
set_option linter.unusedSimpArgs false
open Go.RowKit Go.Fl64

end Go.Proofs.YtlicjplmcepbnaaGreatDoor
/- sums.checked of one list. -/
namespace Go.Proofs.YtlicjplmcepbnaaGreatDoor
set_option linter.unusedVariables false
set_option linter.unusedSimpArgs false
open Go.RowKit Go.Fl64

end Go.Proofs.YtlicjplmcepbnaaGreatDoor
/- A float made whole, with a sign: what the law's own test asks. -/
namespace Go.Proofs.YtlicjplmcepbnaaGreatDoor
set_option linter.unusedVariables false
set_option linter.unusedSimpArgs false
open Go.RowKit Go.Fl64

end Go.Proofs.YtlicjplmcepbnaaGreatDoor
/- The program's leastRest: the least that is left. -/
namespace Go.Proofs.YtlicjplmcepbnaaGreatDoor
set_option linter.unusedVariables false
set_option linter.unusedSimpArgs false
open Go.RowKit Go.Fl64

/-- a number in its box, made since a world -/
def BxP (w3 wc : World) (g : Nat) (s : Bool) (ao : Option Addr) (n cap : Nat) (ex : Int) (t : Bool × Nat × Int) : Prop := wc.heap[g]? = some (.cells #[.bool s, .slice ao n cap, .int .i64 ex] 65 (0, 0)) ∧ w3.heap.size ≤ g ∧ Below w3.heap.size w3 wc ∧ PN wc (.agg #[.bool s, .slice ao n cap, .int .i64 ex]) t
theorem BxP.new {w3 w7 : World} {s : Bool} {ao : Option Addr} {n cap : Nat} {ex : Int} {t : Bool × Nat × Int} (hn : PN w7 (.agg #[.bool s, .slice ao n cap, .int .i64 ex]) t) (hb : Below w3.heap.size w3 w7) : BxP w3 (w7.alloc (.cells #[.bool s, .slice ao n cap, .int .i64 ex] 65)) w7.heap.size s ao n cap ex t :=
  ⟨heap_alloc_new _ _, hb.size, hb.alloc hb.size _, hn.later ((Below.refl _ _).alloc (Nat.le_refl _) _)⟩
theorem BxP.put {w3 w7 : World} {g : Nat} {s : Bool} {ao : Option Addr} {n cap : Nat} {ex : Int} {t : Bool × Nat × Int} (hn : PN w7 (.agg #[.bool s, .slice ao n cap, .int .i64 ex]) t) (hb : Below w3.heap.size w3 w7) (hg : w3.heap.size ≤ g) (hbx : w7.heap[g]? = some (.cells #[.bool false, .slice none 0 0, .int .i64 0] 65 (0, 0))) :
    BxP w3 (((w7.setCell ⟨g, 0, none⟩ (.bool s)).setCell ⟨g, 1, none⟩ (.slice ao n cap)).setCell ⟨g, 2, none⟩ (.int .i64 ex)) g s ao n cap ex t :=
  ⟨store3 _ _ _ hbx, hg, below_store3 hb hg _ _ _, pn_store hn hbx _ _ _⟩

end Go.Proofs.YtlicjplmcepbnaaGreatDoor
/- The program's leastRest: its other ways out. -/
namespace Go.Proofs.YtlicjplmcepbnaaGreatDoor
set_option linter.unusedVariables false
set_option linter.unusedSimpArgs false
open Go.RowKit Go.Fl64

end Go.Proofs.YtlicjplmcepbnaaGreatDoor
/- The law's own test of layer 3: it answers true. -/
namespace Go.Proofs.YtlicjplmcepbnaaGreatDoor
set_option linter.unusedVariables false
set_option linter.unusedSimpArgs false
open Go.RowKit Go.Fl64

end Go.Proofs.YtlicjplmcepbnaaGreatDoor
/- The program's odd: whether a whole number is odd. -/
namespace Go.Proofs.YtlicjplmcepbnaaGreatDoor
set_option linter.unusedVariables false
set_option linter.unusedSimpArgs false
open Go.RowKit Go.Fl64

end Go.Proofs.YtlicjplmcepbnaaGreatDoor
/- What is left of a division to the nearest: in numbers. -/
namespace Go.Proofs.YtlicjplmcepbnaaGreatDoor
set_option linter.unusedVariables false
set_option linter.unusedSimpArgs false
open Go.RowKit Go.Fl64

end Go.Proofs.YtlicjplmcepbnaaGreatDoor
/- The program's leastRest: what it answers, in numbers. -/
namespace Go.Proofs.YtlicjplmcepbnaaGreatDoor
set_option linter.unusedVariables false
set_option linter.unusedSimpArgs false
open Go.RowKit Go.Fl64

theorem vz_cnF {K : Nat} {lo hi : Int} {s : Bool} {z : Nat} {e : Int} (h : Fits lo hi z e) (hK : 0 ≤ lo + K) : vz K (cn s z e).1 (cn s z e).2.1 (cn s z e).2.2 = vz K s z e := by
  rcases h with h | ⟨h, -, -⟩
  · subst h; rw [show cn s 0 e = (false, 0, 0) from if_pos rfl, vz_zero, vz_zero]
  · exact vz_cn (by omega)
end Go.Proofs.YtlicjplmcepbnaaGreatDoor
/- The program's leastRest: what is left of a division to the nearest. -/
namespace Go.Proofs.YtlicjplmcepbnaaGreatDoor
set_option linter.unusedVariables false
set_option linter.unusedSimpArgs false
open Go.RowKit Go.Fl64

end Go.Proofs.YtlicjplmcepbnaaGreatDoor
/- The program's leastRest and Rest. -/
namespace Go.Proofs.YtlicjplmcepbnaaGreatDoor
set_option linter.unusedVariables false
set_option linter.unusedSimpArgs false
open Go.RowKit Go.Fl64

end Go.Proofs.YtlicjplmcepbnaaGreatDoor
/- The program's Rest, all its ways out. -/
namespace Go.Proofs.YtlicjplmcepbnaaGreatDoor
set_option linter.unusedVariables false
set_option linter.unusedSimpArgs false
open Go.RowKit Go.Fl64

end Go.Proofs.YtlicjplmcepbnaaGreatDoor
/- The document's Rest, walked over what it calls. -/
namespace Go.Proofs.YtlicjplmcepbnaaGreatDoor
set_option linter.unusedVariables false
set_option linter.unusedSimpArgs false
open Go.RowKit Go.Fl64

end Go.Proofs.YtlicjplmcepbnaaGreatDoor
/- The document's Over, Scaled, Less of numbers in their shortest form. -/
namespace Go.Proofs.YtlicjplmcepbnaaGreatDoor
set_option linter.unusedVariables false
set_option linter.unusedSimpArgs false
open Go.RowKit Go.Fl64

end Go.Proofs.YtlicjplmcepbnaaGreatDoor
/- The exact sum of a list in numbers: how great it can be. -/
namespace Go.Proofs.YtlicjplmcepbnaaGreatDoor
set_option linter.unusedVariables false
set_option linter.unusedSimpArgs false
open Go.RowKit Go.Fl64

theorem vz_tS {K : Nat} {lo hi : Int} {t1 t2 : Bool × Nat × Int} (h1 : Fits lo hi t1.2.1 t1.2.2) (h2 : Fits lo hi t2.2.1 t2.2.2) (e1 : 0 ≤ t1.2.2 + K) (e2 : 0 ≤ t2.2.2 + K) (hK : 0 ≤ lo + K) : vz K (tS t1 t2).1 (tS t1 t2).2.1 (tS t1 t2).2.2 = vz K t1.1 t1.2.1 t1.2.2 + vz K t2.1 t2.2.1 t2.2.2 := by
  unfold tS
  rw [vz_cnF (Fits.sum h1 h2) hK, vz_sumN e1 e2]

end Go.Proofs.YtlicjplmcepbnaaGreatDoor
/- Numbers written in base 16. -/
namespace Go.Proofs.YtlicjplmcepbnaaGreatDoor
set_option linter.unusedVariables false
set_option linter.unusedSimpArgs false
open Go.RowKit

end Go.Proofs.YtlicjplmcepbnaaGreatDoor
/- strings.Repeat of the sign for nought. -/
namespace Go.Proofs.YtlicjplmcepbnaaGreatDoor
set_option linter.unusedVariables false
set_option linter.unusedSimpArgs false
open Go.RowKit

end Go.Proofs.YtlicjplmcepbnaaGreatDoor
/- Show, of any number. -/
namespace Go.Proofs.YtlicjplmcepbnaaGreatDoor
set_option linter.unusedVariables false
set_option linter.unusedSimpArgs false
open Go.RowKit

end Go.Proofs.YtlicjplmcepbnaaGreatDoor
/- Sign, Bits, Top, Cmp, Show: refused; Bits, Top; Show of nought. -/
namespace Go.Proofs.YtlicjplmcepbnaaGreatDoor
set_option linter.unusedVariables false
set_option linter.unusedSimpArgs false
open Go.RowKit

end Go.Proofs.YtlicjplmcepbnaaGreatDoor
/- The document's decimal. -/
namespace Go.Proofs.YtlicjplmcepbnaaGreatDoor
set_option linter.unusedVariables false
set_option linter.unusedSimpArgs false
open Go.RowKit

end Go.Proofs.YtlicjplmcepbnaaGreatDoor
/- The document's hex. -/
namespace Go.Proofs.YtlicjplmcepbnaaGreatDoor
set_option linter.unusedVariables false
set_option linter.unusedSimpArgs false
open Go.RowKit

/-- a row of bytes that was made here -/
def OB (w wr : World) (v : Value) (L : List UInt8) : Prop := wr.ownsRow w.heap.size 5 1 v L.length (Lib.byteCells L) ∧ Below w.heap.size w wr
theorem OB.shape {w wr : World} {v : Value} {L : List UInt8} (h : OB w wr v L) : ∃ ao cap, v = .slice ao L.length cap := by
  obtain ⟨⟨-, h | ⟨g, cap, cur, h, -⟩⟩, -⟩ := h
  · exact ⟨none, 0, by rw [h.1, h.2]⟩
  · exact ⟨_, _, h⟩
end Go.Proofs.YtlicjplmcepbnaaGreatDoor
/- The document's Show. -/
namespace Go.Proofs.YtlicjplmcepbnaaGreatDoor
set_option linter.unusedVariables false
set_option linter.unusedSimpArgs false
open Go.RowKit

end Go.Proofs.YtlicjplmcepbnaaGreatDoor
/- The document's Neg, Abs. -/
namespace Go.Proofs.YtlicjplmcepbnaaGreatDoor
set_option linter.unusedVariables false
set_option linter.unusedSimpArgs false
open Go.RowKit

end Go.Proofs.YtlicjplmcepbnaaGreatDoor
/- DyadAsks: the calls of both sides joined. -/
namespace Go.Proofs.YtlicjplmcepbnaaGreatDoor
set_option linter.unusedVariables false
set_option linter.unusedSimpArgs false
open Go.RowKit

/-- what the program holds -/
theorem PI.open {na : Bool} {un x : Nat} {ea : Int} {W : World} {X : Value} (hX : PI na un x ea W X) : ∃ pa pc, X = .agg #[.bool na, .slice pa un pc, .int .i64 ea] ∧ At W pa un x := by
  obtain ⟨v, b, rfl, d1⟩ := hX
  obtain ⟨pa, pc, rfl, p1, p2⟩ := d1.at
  exact ⟨pa, pc, rfl, p2⟩
theorem PI.is {na : Bool} {x : Nat} {ea : Int} {W : World} {X : Value} (hX : PI na (dlen x) x ea W X) : ∃ pa pc, X = .agg #[.bool na, .slice pa (dlen x) pc, .int .i64 ea] ∧ Is W (.slice pa (dlen x) pc) x := by
  obtain ⟨v, b, rfl, d1⟩ := hX
  obtain ⟨pa, pc, e1, i1⟩ := dn_pn (s := na) (e := ea) d1
  exact ⟨pa, pc, e1, i1⟩

end Go.Proofs.YtlicjplmcepbnaaGreatDoor
