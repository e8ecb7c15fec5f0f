/- Own work: contracts of the program's functions, part 11: FM4 FM5 RT0 RT1 RT3. -/
import Derived.Test.YtajeodimbfppiaaGreatDoorA10
import Derived.Test.YtajeodimbfppiaaGreatDoorA8
import Derived.Test.YtajeodimbfppiaaGreatDoorA9

/- Numbers with their signs, rounded each way. -/
namespace Go.Proofs.YtajeodimbfppiaaGreatDoor
set_option linter.unusedVariables false
set_option linter.unusedSimpArgs false
open Go.RowKit Go.Fl64
open Ie

/-- a value in units of 2^-K -/
def VA (K x : Nat) (e : Int) : Nat := x * 2 ^ (e + (K : Int)).toNat
def UU (K : Nat) : Nat := 2 ^ (K - 1074)
theorem VA_rounds {K : Nat} (hK : 70000 ≤ K) {x : Nat} {e : Int} (h0 : x ≠ 0) (he : -65536 ≤ e) {way : Nat} : Rounds (VA K x e) (UU K) (rwb x e way) way := rwb_rounds h0 (by omega) (by omega)
theorem VA_zero (K : Nat) (e : Int) : VA K 0 e = 0 := by unfold VA; rw [Nat.zero_mul]
theorem VA_ne {K x : Nat} {e : Int} (h0 : x ≠ 0) : 0 < VA K x e := Nat.mul_pos (by omega) (Nat.two_pow_pos _)
theorem bv_zero : bv 0 = 0 := rfl
theorem bdy_le (x : Nat) (e : Int) (way : Nat) : bdy x e way ≤ 9218868437227405312 := by
  unfold bdy
  split
  · omega
  · split
    · omega
    · split <;> omega
theorem bdy_mono {K : Nat} (hK : 70000 ≤ K) {x y : Nat} {e f : Int} (he : -65536 ≤ e) (hf : -65536 ≤ f) {way : Nat} (hw : way = 0 ∨ way = 1 ∨ way = 2) (h : VA K x e ≤ VA K y f) : bdy x e way ≤ bdy y f way := by
  by_cases hx : x = 0
  · unfold bdy; rw [if_pos hx]; omega
  · by_cases hy : y = 0
    · subst hy
      rw [VA_zero] at h
      have := VA_ne (K := K) (e := e) hx
      omega
    · have hm := Rounds.mono hw (VA_rounds hK hx he) (VA_rounds hK hy hf) h
      unfold bdy
      rw [if_neg hx, if_neg hy]
      split
      · split
        · exact hm
        · split <;> omega
      · rw [if_neg (show ¬ rwb y f way < 9218868437227405312 by omega)]
        exact Nat.le_refl _
theorem bdy_order {K : Nat} (hK : 70000 ≤ K) {x : Nat} {e : Int} (he : -65536 ≤ e) : bdy x e 0 ≤ bdy x e 1 ∧ bdy x e 1 ≤ bdy x e 2 ∧ bdy x e 0 < 9218868437227405312 ∧ bv (bdy x e 0) * UU K ≤ VA K x e ∧ (bdy x e 2 < 9218868437227405312 → VA K x e ≤ bv (bdy x e 2) * UU K) ∧ (bdy x e 0 = bdy x e 2 → VA K x e = bv (bdy x e 0) * UU K) := by
  by_cases hx : x = 0
  · subst hx
    unfold bdy
    simp only [if_pos, VA_zero, bv_zero, Nat.zero_mul]
    simp
  · obtain ⟨h1, h2, h3, h4, h5⟩ := Rounds.order (VA_rounds hK (e := e) hx he) (VA_rounds hK (e := e) hx he) (VA_rounds hK (e := e) hx he)
    unfold bdy
    rw [if_neg hx, if_neg hx, if_neg hx]
    by_cases g0 : rwb x e 0 < 9218868437227405312
    · rw [if_pos g0]
      refine ⟨?_, ?_, g0, h3, ?_, ?_⟩
      · split
        · exact h1
        · rw [if_neg (by decide)]; omega
      · split
        · split
          · exact h2
          · rw [if_neg (by decide)]; omega
        · rw [if_neg (show ¬ rwb x e 2 < 9218868437227405312 by omega), if_neg (by decide), if_neg (by decide)]; exact Nat.le_refl _
      · intro g
        split at g
        · rename_i g2; rw [if_pos g2]; exact h4
        · rw [if_neg (by decide)] at g; omega
      · intro g
        split at g
        · exact h5 g
        · rw [if_neg (by decide)] at g; omega
    · rw [if_neg g0, if_neg (show ¬ rwb x e 1 < 9218868437227405312 by omega), if_neg (show ¬ rwb x e 2 < 9218868437227405312 by omega), if_pos rfl, if_neg (by decide), if_neg (by decide)]
      refine ⟨by omega, by omega, by omega, ?_, fun g => absurd g (by omega), fun g => absurd g (by omega)⟩
      exact Nat.le_trans (Nat.mul_le_mul_right _ (bv_le (by omega))) h3
/-- the way of a mode: 0 inward, 1 to the nearest, 2 outward -/
def wyN (s : Bool) (m : Int) : Nat := if m = 2 then 1 else if (s == (m == 1)) then 2 else 0
theorem wyN_eq (s : Bool) (m : Int) : ((wyN s m : Nat) : Int) = wy s m := by
  unfold wyN wy
  split
  · rfl
  · split <;> rfl
theorem tfM_zero : tfM true 0 = 0 := by unfold tfM; rw [show tfD 0 = 0 from rfl]; simp
theorem tfM_ne {x : Nat} (h0 : x ≠ 0) : tfM true x ≠ 0 := by
  unfold tfM
  split
  · have h1 := le_bl h0
    have hp : 2 ^ tfD x ≤ x := Nat.le_trans (Nat.pow_le_pow_right (by omega) (by unfold tfD; omega)) h1
    have := (Nat.le_div_iff_mul_le (Nat.two_pow_pos (tfD x))).2 (show 1 * 2 ^ tfD x ≤ x by omega)
    omega
  · rw [or_one_eq]; omega
/-- toFloat's answer by its body -/
theorem tf_bdy {s : Bool} {x : Nat} {e m : Int} (hm : 1 ≤ m ∧ m ≤ 3) : tfF s true x e m = sig s (bdy x e (wyN s m)) := by
  unfold tfF mk
  rw [if_pos (by omega)]
  congr 1
  by_cases h0 : x = 0
  · subst h0
    rw [tfM_zero, if_pos rfl]
    unfold bdy; rw [if_pos rfl]
  · rw [if_neg (tfM_ne h0), ← wyN_eq, bod_eq h0]
theorem mag_sig {s : Bool} {b : Nat} (h : b ≤ 9218868437227405312) : mag (sig s b) = b ∧ neg (sig s b) = s ∧ sig s b < 18446744073709551616 := by
  unfold mag neg sig
  cases s
  · exact ⟨by show b % _ = b; omega, decide_eq_false (by show ¬ _ ≤ b; omega), by show b < _; omega⟩
  · exact ⟨by show (b + 9223372036854775808) % _ = b; omega, decide_eq_true (by show _ ≤ b + _; omega), by show b + 9223372036854775808 < _; omega⟩
theorem stp_sig {s : Bool} {b : Nat} (h : b ≤ 9218868437227405312) : stp (sig s b) = sv s b ∧ isNaN (sig s b) = false ∧ sig s b < 18446744073709551616 := by
  obtain ⟨h1, h2, h3⟩ := mag_sig (s := s) h
  refine ⟨?_, ?_, h3⟩
  · unfold stp; rw [h1, h2]; rfl
  · unfold isNaN; rw [h1]; exact decide_eq_false (by omega)
theorem vz_VA (K : Nat) (s : Bool) (x : Nat) (e : Int) : vz K s x e = sv s (VA K x e) := by
  unfold vz VA sv
  cases s <;> simp [Int.neg_mul]
/-- a finite float's number -/
theorem vz_num {K : Nat} (hK : 70000 ≤ K) {a : Nat} (hf : mag a < 9218868437227405312) : vz K (nN a) (nM a) (Ie.sE a) = sv (neg a) (bv (mag a) * UU K) := by
  rw [vz_VA]
  by_cases h0 : mag a = 0
  · rw [(num_zero h0).1, VA_zero, sv_zero, h0, bv_zero, Nat.zero_mul, sv_zero]
  · obtain ⟨-, -, h3, h4, h5⟩ := num_parts hf h0
    have hn : nN a = neg a := by unfold nN; rw [if_neg h0]
    have e1 : VA K (nM a) (Ie.sE a) = bv (mag a) * UU K := by
      show _ = val (mag a) * UU K
      rw [← h5]
      unfold VA UU
      rw [Nat.mul_assoc, ← Nat.pow_add, show (Ie.sE a + (K : Int)).toNat = (Ie.sE a + 1074).toNat + (K - 1074) by omega]
    rw [hn, e1]
end Go.Proofs.YtajeodimbfppiaaGreatDoor

/- The document's ways to round a number come to the same body. -/
namespace Go.Proofs.YtajeodimbfppiaaGreatDoor
set_option linter.unusedVariables false
set_option linter.unusedSimpArgs false
open Go.RowKit Go.Fl64
open Ie

theorem rnd_rounds {x : Nat} {e : Int} {j X k : Nat} (hR : IsR x e j X k) {K : Nat} (hK : 1074 ≤ K) (h1 : 0 ≤ e + K) (h2 : 0 ≤ (j : Int) - 1074 - k + K) (way : Nat) : Rounds (x * 2 ^ (e + K).toNat) (2 ^ (K - 1074)) (j * 4503599627370496 + rnd X k (way : Int)) way := by
  have L := hR.lies hK h1 h2
  refine ⟨⟨j * 4503599627370496 + X / 2 ^ k, ⟨L.lo, L.hi⟩, ?_, ?_, ?_⟩⟩
  · intro h; subst h
    rw [rnd0]
  · intro h; subst h
    rw [rnd2]
    by_cases hx : X % 2 ^ k = 0
    · rw [if_pos hx, if_pos (L.ex.1 hx)]
    · rw [if_neg hx, if_neg (fun h => hx (L.ex.2 h)), Nat.add_assoc]
  · intro h; subst h
    rw [rnd1]
    have hpar : (j * 4503599627370496 + X / 2 ^ k) % 2 = X / 2 ^ k % 2 := by omega
    by_cases h1 : 2 * (X % 2 ^ k) < 2 ^ k
    · rw [if_pos h1, if_pos (L.half_lt.1 h1)]
    · rw [if_neg h1, if_neg (fun h => h1 (L.half_lt.2 h))]
      by_cases h2 : 2 * (X % 2 ^ k) = 2 ^ k
      · rw [if_pos h2, if_pos (L.half_eq.1 h2), hpar, Nat.add_assoc]
      · rw [if_neg h2, if_neg (fun h => h2 (L.half_eq.2 h)), Nat.add_assoc]
/-- whatever the rung's number is taken to be, the body is the same -/
theorem IsR.rwb {x : Nat} {e : Int} {j X k : Nat} (hR : IsR x e j X k) (h0 : x ≠ 0) {way : Nat} (hw : way = 0 ∨ way = 1 ∨ way = 2) : rwb x e way = j * 4503599627370496 + rnd X k (way : Int) := by
  obtain ⟨K, hK⟩ : ∃ K : Nat, K = 1200 + (64 - e).toNat + (1074 + k) := ⟨_, rfl⟩
  have a := rwb_rounds (e := e) h0 (K := K) (by omega) (by omega) (way := way)
  have b := rnd_rounds hR (K := K) (by omega) (by omega) (by omega) way
  have h1 := Rounds.mono hw a b (Nat.le_refl _)
  have h2 := Rounds.mono hw b a (Nat.le_refl _)
  omega
/-- beyond all floats -/
theorem rwb_big {x : Nat} {e : Int} (h0 : x ≠ 0) (ht : 1024 < (bl x : Int) + e) {way : Nat} (hw : way = 0 ∨ way = 1 ∨ way = 2) : 9218868437227405312 ≤ rwb x e way := by
  obtain ⟨K, hK⟩ : ∃ K : Nat, K = 1200 + (64 - e).toNat := ⟨_, rfl⟩
  have a := rwb_rounds (e := e) h0 (K := K) (by omega) (by omega) (way := way)
  obtain ⟨b0, ⟨l, g⟩, w0, w2, w1⟩ := a.fl
  have hv : bv 9218868437227405312 * 2 ^ (K - 1074) ≤ x * 2 ^ (e + K).toNat := by
    obtain ⟨j, hj⟩ : ∃ j : Nat, j = 2046 := ⟨_, rfl⟩
    have e1 : bv 9218868437227405312 = 4503599627370496 * 2 ^ j := by
      have := bv_at (j := j) (q := 4503599627370496) (.inr ⟨by omega, by omega⟩)
      rw [show j * 4503599627370496 + 4503599627370496 = 9218868437227405312 by omega] at this
      exact this
    have e2 : (4503599627370496 : Nat) = 2 ^ 52 := by rfl
    rw [e1, e2, ← Nat.pow_add, ← Nat.pow_add]
    have h1 := le_bl h0
    have hb : bl x ≠ 0 := by unfold bl; rw [if_neg h0]; omega
    refine Nat.le_trans (Nat.pow_le_pow_right (by omega) (show 52 + j + (K - 1074) ≤ bl x - 1 + (e + K).toNat by omega)) ?_
    rw [Nat.pow_add]
    exact Nat.mul_le_mul_right _ h1
  have hb := floor_mono (Nat.le_refl (x * 2 ^ (e + K).toNat)) hv g
  rcases hw with hw | hw | hw
  · rw [w0 hw]; exact hb
  · rw [w1 hw]
    split
    · exact hb
    · split <;> omega
  · rw [w2 hw]; split <;> omega
/-- a number of whole units -/
theorem isR_up {x : Nat} {E e' : Int} (h1 : e' ≤ E) (hj : -1074 ≤ e') (hlt : x * 2 ^ (E - e').toNat < 9007199254740992) (hge : e' = -1074 ∨ 4503599627370496 ≤ x * 2 ^ (E - e').toNat) : IsR x E (e' + 1074).toNat (x * 2 ^ (E - e').toNat) 0 := by
  refine ⟨fun K a b => ?_, by rw [Nat.pow_zero, Nat.div_one]; exact hlt, ?_⟩
  · rw [Nat.mul_assoc, ← Nat.pow_add, show (E - e').toNat + (((e' + 1074).toNat : Int) - 1074 - ((0 : Nat) : Int) + K).toNat = (E + K).toNat by omega]
  · rw [Nat.pow_zero, Nat.div_one]
    rcases hge with h | h
    · exact .inl (by omega)
    · exact .inr h
/-- a number with digits below the unit -/
theorem isR_down {x : Nat} {E e' : Int} (h1 : E ≤ e') (hj : -1074 ≤ e') (hlt : x / 2 ^ (e' - E).toNat < 9007199254740992) (hge : e' = -1074 ∨ 4503599627370496 ≤ x / 2 ^ (e' - E).toNat) : IsR x E (e' + 1074).toNat x (e' - E).toNat := by
  refine ⟨fun K a b => ?_, hlt, ?_⟩
  · rw [show (((e' + 1074).toNat : Int) - 1074 - ((e' - E).toNat : Int) + K).toNat = (E + K).toNat by omega]
  · rcases hge with h | h
    · exact .inl (by omega)
    · exact .inr h
end Go.Proofs.YtajeodimbfppiaaGreatDoor

/- What the document's rounding comes to, in numbers. -/
namespace Go.Proofs.YtajeodimbfppiaaGreatDoor
set_option linter.unusedVariables false
set_option linter.unusedSimpArgs false
open Go.RowKit Go.Fl64
open Ie

theorem rnd_k0 (X way : Nat) (hw : way = 0 ∨ way = 1 ∨ way = 2) : rnd X 0 (way : Int) = X := by
  rcases hw with rfl | rfl | rfl
  · rw [rnd0, Nat.pow_zero, Nat.div_one]
  · rw [rnd1, Nat.pow_zero, Nat.div_one, Nat.mod_one, if_pos (by omega)]
  · rw [rnd2, Nat.pow_zero, Nat.div_one, Nat.mod_one, if_pos rfl]
/-- the unit's place -/
def tE (x : Nat) (E : Int) : Int := if (bl x : Int) + E - 53 < -1074 then -1074 else (bl x : Int) + E - 53
theorem bl_ne {x : Nat} (h0 : x ≠ 0) : 1 ≤ bl x := by unfold bl; rw [if_neg h0]; omega
/-- beyond all floats: the greatest one or infinity -/
theorem bdy_big {x : Nat} {E : Int} (h0 : x ≠ 0) (ht : 1024 < (bl x : Int) + E) {way : Nat} (hw : way = 0 ∨ way = 1 ∨ way = 2) : bdy x E way = if way = 0 then 9218868437227405311 else 9218868437227405312 := by
  unfold bdy
  rw [if_neg h0, if_neg (by have := rwb_big (e := E) h0 ht hw; omega)]
theorem up_lt {x k : Nat} (h0 : x ≠ 0) (h : bl x + k ≤ 53) : x * 2 ^ k < 9007199254740992 := by
  have h1 := lt_bl x
  have h2 : x * 2 ^ k < 2 ^ bl x * 2 ^ k := Nat.mul_lt_mul_of_pos_right h1 (Nat.two_pow_pos _)
  rw [← Nat.pow_add] at h2
  exact Nat.lt_of_lt_of_le h2 (Nat.pow_le_pow_right (by omega) h : _ ≤ 2 ^ 53)
theorem up_ge {x k : Nat} (h0 : x ≠ 0) (h : bl x + k = 53) : 4503599627370496 ≤ x * 2 ^ k := by
  have h1 := le_bl h0
  have hb := bl_ne h0
  have h2 : 2 ^ (bl x - 1) * 2 ^ k ≤ x * 2 ^ k := Nat.mul_le_mul_right _ h1
  rw [← Nat.pow_add, show bl x - 1 + k = 52 by omega] at h2
  exact h2
theorem dn_lt {x k : Nat} (h : bl x ≤ k + 53) : x / 2 ^ k < 9007199254740992 := by
  have h1 := lt_bl x
  refine (Nat.div_lt_iff_lt_mul (Nat.two_pow_pos _)).2 (Nat.lt_of_lt_of_le h1 ?_)
  rw [show (9007199254740992 : Nat) = 2 ^ 53 by rfl, ← Nat.pow_add]
  exact Nat.pow_le_pow_right (by omega) (by omega)
theorem dn_ge {x k : Nat} (h0 : x ≠ 0) (h : bl x = k + 53) : 4503599627370496 ≤ x / 2 ^ k := by
  have h1 := le_bl h0
  refine (Nat.le_div_iff_mul_le (Nat.two_pow_pos _)).2 (Nat.le_trans (Nat.le_of_eq ?_) h1)
  rw [show (4503599627370496 : Nat) = 2 ^ 52 by rfl, ← Nat.pow_add, show 52 + k = bl x - 1 by omega]
/-- the unit's place, as a Nat of 2^52s, and the bound -/
theorem tE_bounds {x : Nat} {E : Int} (ht : (bl x : Int) + E ≤ 1024) : -1074 ≤ tE x E ∧ tE x E ≤ 971 := by unfold tE; split <;> omega
theorem body_eq {e' : Int} {q n : Nat} (h1 : -1074 ≤ e') (h2 : e' ≤ 971) (hq : q < 9007199254740992) (hge : e' = -1074 ∨ 4503599627370496 ≤ q) : (e' + 1074).toNat * 4503599627370496 + q < 9218868437227405312 := by omega
/-- whole units: nothing is rounded -/
theorem bdy_up {x : Nat} {E : Int} (h0 : x ≠ 0) (ht : (bl x : Int) + E ≤ 1024) (hE : tE x E ≤ E) {way : Nat} (hw : way = 0 ∨ way = 1 ∨ way = 2) :
    bdy x E way = (tE x E + 1074).toNat * 4503599627370496 + x * 2 ^ (E - tE x E).toNat ∧ x * 2 ^ (E - tE x E).toNat < 9007199254740992 ∧ (tE x E = -1074 ∨ 4503599627370496 ≤ x * 2 ^ (E - tE x E).toNat) := by
  have hb := tE_bounds ht
  have hlt : x * 2 ^ (E - tE x E).toNat < 9007199254740992 := up_lt h0 (by unfold tE at hE ⊢; split at hE <;> omega)
  have hge : tE x E = -1074 ∨ 4503599627370496 ≤ x * 2 ^ (E - tE x E).toNat := by
    by_cases h : tE x E = -1074
    · exact .inl h
    · exact .inr (up_ge h0 (by unfold tE at h hE ⊢; split at h <;> omega))
  refine ⟨?_, hlt, hge⟩
  have hR := isR_up (x := x) hE hb.1 hlt hge
  have hr := hR.rwb h0 hw
  rw [rnd_k0 _ _ hw] at hr
  unfold bdy
  rw [if_neg h0, hr, if_pos (body_eq hb.1 hb.2 hlt hge (n := 0))]
/-- far below the least unit -/
theorem bdy_tiny {x : Nat} {E : Int} (h0 : x ≠ 0) (ht : (bl x : Int) + E < -1075) {way : Nat} (hw : way = 0 ∨ way = 1 ∨ way = 2) : bdy x E way = if way = 2 then 1 else 0 := by
  have hb := bl_ne h0
  have hx := lt_bl x
  have hx2 : 2 * x < 2 ^ (-1074 - E).toNat := by
    have : 2 ^ (bl x + 1) ≤ 2 ^ (-1074 - E).toNat := Nat.pow_le_pow_right (by omega) (by omega)
    rw [Nat.pow_succ] at this; omega
  have hq : x / 2 ^ (-1074 - E).toNat = 0 := Nat.div_eq_of_lt (by omega)
  have hm : x % 2 ^ (-1074 - E).toNat = x := Nat.mod_eq_of_lt (by omega)
  have hR := isR_down (x := x) (E := E) (e' := -1074) (by omega) (by omega) (by rw [hq]; omega) (.inl rfl)
  have hr := hR.rwb h0 hw
  have h2 : rwb x E way = if way = 2 then 1 else 0 := by
    rw [hr]
    rcases hw with rfl | rfl | rfl
    · rw [rnd0, hq, if_neg (by decide)]; rfl
    · rw [rnd1, hq, hm, if_pos hx2, if_neg (by decide)]; rfl
    · rw [rnd2, hq, hm, if_neg h0, if_pos rfl]; rfl
  unfold bdy
  rw [if_neg h0, h2, if_pos (by split <;> omega)]
/-- is the body rounded up? -/
def dnU (x k way : Nat) : Bool := (way == 2) || ((way == 1) && ((x / 2 ^ (k - 1) % 2 == 1) && (!(x % 2 ^ (k - 1) == 0) || (x / 2 ^ k % 2 == 1))))
theorem rnd_dn {x k way : Nat} (hk : 1 ≤ k) (hx : x % 2 = 1) (hw : way = 0 ∨ way = 1 ∨ way = 2) : rnd x k (way : Int) = if dnU x k way then x / 2 ^ k + 1 else x / 2 ^ k := by
  obtain ⟨n, rfl⟩ : ∃ n, k = n + 1 := ⟨k - 1, by omega⟩
  have hodd : x % 2 ^ (n + 1) ≠ 0 := fun h => by
    have := Nat.dvd_of_mod_eq_zero h
    have h2 : 2 ∣ x := Nat.dvd_trans ⟨2 ^ n, by rw [Nat.pow_succ, Nat.mul_comm]⟩ this
    omega
  have hpos : 0 < 2 ^ n := Nat.two_pow_pos n
  have hsplit : x % 2 ^ (n + 1) = x % 2 ^ n + 2 ^ n * (x / 2 ^ n % 2) := by rw [Nat.pow_succ, Nat.mod_mul]
  have hpw : 2 ^ (n + 1) = 2 * 2 ^ n := by rw [Nat.pow_succ, Nat.mul_comm]
  have hlt : x % 2 ^ n < 2 ^ n := Nat.mod_lt _ hpos
  have hb2 : x / 2 ^ n % 2 = 0 ∨ x / 2 ^ n % 2 = 1 := by omega
  unfold dnU
  rw [Nat.add_sub_cancel]
  rcases hw with rfl | rfl | rfl
  · rw [rnd0]; simp
  · rw [rnd1]
    simp only [show ((1 : Nat) == 2) = false by rfl, show ((1 : Nat) == 1) = true by rfl, Bool.false_or, Bool.true_and]
    rw [hsplit, hpw]
    rcases hb2 with hb | hb
    · rw [hb, Nat.mul_zero, Nat.add_zero, if_pos (by omega)]; simp
    · rw [hb, Nat.mul_one, if_neg (by omega)]
      by_cases hz : x % 2 ^ n = 0
      · rw [hz, if_pos (by omega)]
        rcases Nat.mod_two_eq_zero_or_one (x / (2 * 2 ^ n)) with h | h <;> rw [h] <;> simp
      · rw [if_neg (by omega)]
        have : (x % 2 ^ n == 0) = false := by simpa using hz
        rw [this]; simp
  · rw [rnd2, if_neg hodd]; simp
/-- what is rounded: the body, from the carried unit -/
theorem bdy_dn {x : Nat} {E : Int} (h0 : x % 2 = 1) (ht : (bl x : Int) + E ≤ 1024) (hE : E < tE x E) {way : Nat} (hw : way = 0 ∨ way = 1 ∨ way = 2) {n : Nat}
    (hn : n = if dnU x (tE x E - E).toNat way then x / 2 ^ (tE x E - E).toNat + 1 else x / 2 ^ (tE x E - E).toNat) :
    n ≤ 9007199254740992 ∧ (tE x E = -1074 ∨ 4503599627370496 ≤ n) ∧ bdy x E way = (tE x E + 1074).toNat * 4503599627370496 + n ∧ x / 2 ^ (tE x E - E).toNat < 9007199254740992 := by
  have hx0 : x ≠ 0 := by omega
  have hb := tE_bounds ht
  have hlt : x / 2 ^ (tE x E - E).toNat < 9007199254740992 := dn_lt (by unfold tE at hE ⊢; split at hE <;> omega)
  have hge : tE x E = -1074 ∨ 4503599627370496 ≤ x / 2 ^ (tE x E - E).toNat := by
    by_cases h : tE x E = -1074
    · exact .inl h
    · exact .inr (dn_ge hx0 (by unfold tE at h hE ⊢; split at h <;> omega))
  have hR := isR_down (x := x) (E := E) (by omega) hb.1 hlt hge
  have hr := hR.rwb hx0 hw
  rw [rnd_dn (by omega) h0 hw, ← hn] at hr
  have hn1 : n ≤ 9007199254740992 := by rw [hn]; split <;> omega
  have hn2 : tE x E = -1074 ∨ 4503599627370496 ≤ n := by
    rcases hge with h | h
    · exact .inl h
    · right; rw [hn]; split <;> omega
  refine ⟨hn1, hn2, ?_, hlt⟩
  unfold bdy
  rw [if_neg hx0, hr]
  by_cases h1 : (tE x E + 1074).toNat * 4503599627370496 + n < 9218868437227405312
  · rw [if_pos h1]
  · rw [if_neg h1]
    have h2 : (tE x E + 1074).toNat * 4503599627370496 + n = 9218868437227405312 := by omega
    have h3 : n ≠ x / 2 ^ (tE x E - E).toNat := by
      intro h; rw [← h] at hlt; omega
    have h4 : way ≠ 0 := by
      intro h; subst h
      apply h3; rw [hn]; simp [dnU]
    rw [if_neg h4, h2]
end Go.Proofs.YtajeodimbfppiaaGreatDoor

/- The document's build, small and sign. -/
namespace Go.Proofs.YtajeodimbfppiaaGreatDoor
set_option linter.unusedVariables false
set_option linter.unusedSimpArgs false
open Go.RowKit Go.Fl64
open Ie

theorem rsignb (s : Bool) (w : World) : Calls Tryz.prog 112 #[.bool s] w fun r w' => r = .returned (.int .i64 (if s then 1 else 0)) ∧ w' = w := by
  cases s
  · go_enter Tryz.func112, Tryz.ntmps112
    go_wp2
    go_ret
    exact ⟨rfl, rfl⟩
  · go_enter Tryz.func112, Tryz.ntmps112
    go_wp2
    go_ret
    exact ⟨rfl, rfl⟩
theorem cinf_m (w : World) : Calls Tryz.prog 63 #[.int .i64 (-1)] w fun r w' => r = .returned (.float .f64 18442240474082181120) ∧ w' = w := by
  have hb := Ie.run_frombits
  go_enter Tryz.func63, Tryz.ntmps63
  go_wp2
  go_ret
  exact ⟨rfl, rfl⟩
theorem bd_or {E M : Nat} (hE : E ≤ 2046) (h1 : 4503599627370496 ≤ M) (h2 : M < 9007199254740992) : bits BinOp.or IntKind.u64 ((E : Int) * 4503599627370496) (bits BinOp.and IntKind.u64 (M : Int) 4503599627370495) = ((E * 4503599627370496 + (M - 4503599627370496) : Nat) : Int) := by
  have e := Nat.two_pow_add_eq_or_of_lt (i := 52) (b := M - 4503599627370496) (by rw [show (2 ^ 52 : Nat) = 4503599627370496 from rfl]; omega) E
  rw [show (2 ^ 52 : Nat) = 4503599627370496 from rfl] at e
  rw [and_mant M (by omega), show M % 4503599627370496 = M - 4503599627370496 by omega, show (E : Int) * 4503599627370496 = ((4503599627370496 * E : Nat) : Int) by omega, u64_or_nat _ _ (by omega) (by omega), ← e, Nat.mul_comm]
theorem sg_or {b : Nat} (h : b < 9223372036854775808) : bits BinOp.or IntKind.u64 (b : Int) 9223372036854775808 = ((b + 9223372036854775808 : Nat) : Int) := by
  have e := u64_or_nat b 9223372036854775808 (by omega) (by decide)
  rw [show ((9223372036854775808 : Nat) : Int) = 9223372036854775808 from rfl] at e
  rw [e, Nat.or_comm, Nat.add_comm]
  congr 1
  have := Nat.two_pow_add_eq_or_of_lt (i := 63) (b := b) (by rw [show (2 ^ 63 : Nat) = 9223372036854775808 from rfl]; exact h) 1
  rw [← (show 2 ^ 63 * 1 = 9223372036854775808 from rfl), ← this]
set_option maxRecDepth 20000 in
theorem rbuild_1 (s : Bool) (M E : Nat) (w : World) (hm : 4503599627370496 ≤ M) (hm2 : M < 9007199254740992) (hE : 1 ≤ E) (hE2 : E ≤ 2046) : Calls Tryz.prog 113 #[.bool s, .int .u64 (M : Nat), .int .i64 ((E : Int) - 1075)] w fun r w' => r = .returned (.float .f64 (sig s ((E - 1) * 4503599627370496 + M))) ∧ w' = w := by
  have hb := Ie.run_frombits
  have hm' : (4503599627370496 : Int) ≤ (M : Int) := by omega
  have e1 := bd_or hE2 hm hm2
  have hlt : E * 4503599627370496 + (M - 4503599627370496) < 9223372036854775808 := by omega
  have e2 := sg_or hlt
  obtain ⟨bd, hbd⟩ : ∃ bd : Nat, bd = E * 4503599627370496 + (M - 4503599627370496) := ⟨_, rfl⟩
  rw [← hbd] at e1 e2
  obtain ⟨b2, hb2⟩ : ∃ b2 : Nat, b2 = (E - 1) * 4503599627370496 + M := ⟨_, rfl⟩
  have hR : bd = b2 := by omega
  have HR : Hid (bd = b2) := hR
  rw [← hb2]
  clear hR hb2 hlt
  clear hbd
  have hE3 : (E : Int) - 1075 + 1075 = E := by omega
  cases s
  · go_enter Tryz.func113, Tryz.ntmps113
    go_wp2
    go_ret
    refine ⟨congrArg Ending.returned (congrArg (Value.float .f64) ?_), rfl⟩
    try simp only [hE3, e1]
    try rw [Int.toNat_natCast]
    rw [HR.out]; rfl
  · go_enter Tryz.func113, Tryz.ntmps113
    go_wp2
    go_ret
    refine ⟨congrArg Ending.returned (congrArg (Value.float .f64) ?_), rfl⟩
    try simp only [hE3, e1, e2]
    try rw [Int.toNat_natCast]
    try rw [HR.out]
    try rfl
theorem rbuild_0 (s : Bool) (M : Nat) (e : Int) (w : World) (hm2 : M < 4503599627370496) : Calls Tryz.prog 113 #[.bool s, .int .u64 (M : Nat), .int .i64 e] w fun r w' => r = .returned (.float .f64 (sig s M)) ∧ w' = w := by
  have hb := Ie.run_frombits
  have hm3 : ¬ (4503599627370496 : Int) ≤ (M : Int) := by omega
  have e2 := sg_or (b := M) (by omega)
  cases s
  · go_enter Tryz.func113, Tryz.ntmps113
    go_wp2
    go_ret
    exact ⟨rfl, rfl⟩
  · go_enter Tryz.func113, Tryz.ntmps113
    go_wp2
    go_ret
    refine ⟨congrArg Ending.returned (congrArg (Value.float .f64) ?_), rfl⟩
    try simp only [e2]
    try rfl
/-- a float built of a sign, units and a place -/
theorem rbuild {s : Bool} {M : Nat} {e : Int} {w : World} (hM : M < 9007199254740992) (he : -1074 ≤ e) (he2 : e ≤ 971) (hge : e = -1074 ∨ 4503599627370496 ≤ M) : Calls Tryz.prog 113 #[.bool s, .int .u64 (M : Nat), .int .i64 e] w fun r w' => r = .returned (.float .f64 (sig s ((e + 1074).toNat * 4503599627370496 + M))) ∧ w' = w := by
  by_cases h : 4503599627370496 ≤ M
  · obtain ⟨E, hE⟩ : ∃ E : Nat, e = (E : Int) - 1075 := ⟨(e + 1075).toNat, by omega⟩
    subst hE
    rw [show ((E : Int) - 1075 + 1074).toNat = E - 1 by omega]
    exact rbuild_1 s M E w h hM (by omega) (by omega)
  · obtain rfl : e = -1074 := by omega
    rw [show ((-1074 : Int) + 1074).toNat * 4503599627370496 + M = M by omega]
    exact rbuild_0 s M _ w (by omega)
theorem sm_two {d d1 : Nat} (h0 : d < B) (h1 : d1 < B) : bits BinOp.or IntKind.u64 (IntKind.u64.wrap (IntKind.u64.wrap (d1 : Int) * 4294967296)) (IntKind.u64.wrap (d : Int)) = ((d + d1 * B : Nat) : Int) := by
  have e : IntKind.u64.wrap (IntKind.u64.wrap (d1 : Int) * 4294967296) = ((d1 * B : Nat) : Int) := by
    rw [wrap_d h1, IntKind.wrap_u64]; unfold B at *; omega
  rw [wrap_d h0, e, u64_or_nat _ _ (by unfold B at *; omega) (by unfold B at *; omega), or_add (p := 32) (by rw [← B_two]; exact Nat.mul_mod_left ..) h0, Nat.add_comm]
theorem rsmall {v : Value} {X : Nat} {w : World} (h : Ir w v X) (hX : X < 9007199254740992) : Calls Tryz.prog 114 #[v] w fun r w' => r = .returned (.int .u64 (X : Nat)) ∧ w' = w := by
  obtain ⟨ao, cap, rfl, hc, b, o, hb, hcell⟩ := h
  have hl : dlen X ≤ 2 := (dlen_le 2 X).2 (by unfold B; omega)
  have hX2 : X = dg X 0 + dg X 1 * B := by
    unfold dg B; omega
  have h0 := dg_lt X 0
  have h1 := dg_lt X 1
  by_cases e0 : dlen X = 0
  · obtain rfl := dlen_eq_zero.1 e0
    rw [dlen_zero] at *
    clear hcell hb h0 h1 hX2 hl e0
    go_enter Tryz.func114, Tryz.ntmps114
    go_wp2
    go_ret
    exact ⟨rfl, rfl⟩
  · obtain rfl := hb (by omega)
    have g0 := hcell 0 (by omega)
    rw [Nat.add_zero] at g0
    by_cases e1 : dlen X = 1
    · have hz : dg X 1 = 0 := dg_past (by omega)
      have HE : Hid (dg X 0 = X) := (by rw [hz] at hX2; omega : dg X 0 = X)
      rw [e1] at *
      generalize dg X 0 = d at *
      have HD : Hid (d < B) := h0
      clear hcell hb h0 h1 hX2 hl e0 e1 hz
      go_enter Tryz.func114, Tryz.ntmps114
      go_wp2
      go_ret
      refine ⟨congrArg Ending.returned (congrArg (Value.int .u64) ?_), rfl⟩
      have hd := HD.out
      have e := u64_or_nat 0 d (by decide) (by unfold B at hd; omega)
      show bits BinOp.or IntKind.u64 0 (IntKind.u64.wrap (d : Int)) = _
      rw [wrap_d hd]
      refine e.trans ?_
      rw [Nat.zero_or, HE.out]
    · have e2 : dlen X = 2 := by omega
      have g1 := hcell 1 (by omega)
      have HE : Hid (X = dg X 0 + dg X 1 * B) := hX2
      rw [e2] at *
      generalize dg X 0 = d at *
      generalize dg X 1 = d1 at *
      have HD : Hid (d < B ∧ d1 < B) := ⟨h0, h1⟩
      clear hcell hb h0 h1 hX2 hl e0 e1 e2
      go_enter Tryz.func114, Tryz.ntmps114
      go_wp2
      go_ret
      refine ⟨congrArg Ending.returned (congrArg (Value.int .u64) ?_), rfl⟩
      rw [HE.out]
      exact sm_two HD.out.1 HD.out.2
end Go.Proofs.YtajeodimbfppiaaGreatDoor

/- The document's rounding, walked. -/
namespace Go.Proofs.YtajeodimbfppiaaGreatDoor
set_option linter.unusedVariables false
set_option linter.unusedSimpArgs false
open Go.RowKit Go.Fl64
open Ie

theorem below_drewN {g : Nat} {a b : World} (h : Below g a b) (n : Nat) : Below g a (b.drewN n) := h.trans ⟨rfl, rfl, rfl, Nat.le_refl _, fun _ _ => rfl⟩
set_option maxHeartbeats 4000000 in
set_option maxRecDepth 200000 in
theorem rto_big_1f (ua : Option Addr) (un uc : Nat) (ea t : Int) (F : Nat) (w : World) (hn0 : ((un : Int) == 0) = false) (ht : 1024 < t) (kH : ∀ W, Below w.heap.size w W → Calls Tryz.prog 96 #[.agg #[.bool false, .slice ua un uc, .int .i64 ea]] W fun r w' => r = .returned (.int .i64 t) ∧ Below W.heap.size W w') (kB : ∀ W, Calls Tryz.prog 113 #[.bool false, .int .u64 9007199254740991, .int .i64 971] W fun r w' => r = .returned (.float .f64 F) ∧ w' = W) :
    Calls Tryz.prog 84 #[.agg #[.bool false, .slice ua un uc, .int .i64 ea], .int .i64 1] w fun r w' => r = .returned (.float .f64 F) ∧ Below w.heap.size w w' := by
  obtain ⟨W, hW⟩ : ∃ W, W = w.alloc (.cells #[.bool false, .slice ua un uc, .int .i64 ea] 38) := ⟨_, rfl⟩
  have hBW : Below w.heap.size w W := by rw [hW]; exact (Below.refl _ _).alloc (Nat.le_refl _) _
  have hA : W.heap[w.heap.size]? = some (.cells #[.bool false, .slice ua un uc, .int .i64 ea] 38 (0, 0)) := by rw [hW]; exact heap_alloc_new _ _
  have hsz : W.heap.size = w.heap.size + 1 := by rw [hW]; simp
  have HX : Hid (Below w.heap.size w W) := hBW
  have HK : Hid (∀ w', Below W.heap.size W w' → w'.cell? ⟨w.heap.size, 0, none⟩ = some (.bool false) ∧ w'.cell? ⟨w.heap.size, 1, none⟩ = some (.slice ua un uc) ∧ w'.cell? ⟨w.heap.size, 2, none⟩ = some (.int .i64 ea)) := fun w' hb => (box_cells29 (box_later hA hb (by omega))).1
  have k := kH W hBW
  clear kH hA hsz hBW
  go_enter Tryz.func84, Tryz.ntmps84
  go_wp2_with fail
  rw [← hW]
  clear hW
  refine k.mono ?_
  rintro r w1 ⟨rfl, hb1⟩
  have HB1 : Hid (Below W.heap.size W w1) := hb1
  obtain ⟨a0, a1, a2⟩ := HK.out w1 hb1
  clear k hb1
  go_wp2_with (first | (go_at_call 113; refine (kB _).mono ?_; rintro r w2 ⟨rfl, rfl⟩))
  go_ret
  exact ⟨rfl, HX.out.trans (HB1.out.mono HX.out.size)⟩
set_option maxHeartbeats 4000000 in
set_option maxRecDepth 200000 in
theorem rto_big_1t (ua : Option Addr) (un uc : Nat) (ea t : Int) (w : World) (hn0 : ((un : Int) == 0) = false) (ht : 1024 < t) (kH : ∀ W, Below w.heap.size w W → Calls Tryz.prog 96 #[.agg #[.bool true, .slice ua un uc, .int .i64 ea]] W fun r w' => r = .returned (.int .i64 t) ∧ Below W.heap.size W w') :
    Calls Tryz.prog 84 #[.agg #[.bool true, .slice ua un uc, .int .i64 ea], .int .i64 1] w fun r w' => r = .returned (.float .f64 18442240474082181120) ∧ Below w.heap.size w w' := by
  obtain ⟨W, hW⟩ : ∃ W, W = w.alloc (.cells #[.bool true, .slice ua un uc, .int .i64 ea] 38) := ⟨_, rfl⟩
  have hBW : Below w.heap.size w W := by rw [hW]; exact (Below.refl _ _).alloc (Nat.le_refl _) _
  have hA : W.heap[w.heap.size]? = some (.cells #[.bool true, .slice ua un uc, .int .i64 ea] 38 (0, 0)) := by rw [hW]; exact heap_alloc_new _ _
  have hsz : W.heap.size = w.heap.size + 1 := by rw [hW]; simp
  have HX : Hid (Below w.heap.size w W) := hBW
  have HK : Hid (∀ w', Below W.heap.size W w' → w'.cell? ⟨w.heap.size, 0, none⟩ = some (.bool true) ∧ w'.cell? ⟨w.heap.size, 1, none⟩ = some (.slice ua un uc) ∧ w'.cell? ⟨w.heap.size, 2, none⟩ = some (.int .i64 ea)) := fun w' hb => (box_cells29 (box_later hA hb (by omega))).1
  have k := kH W hBW
  clear kH hA hsz hBW
  go_enter Tryz.func84, Tryz.ntmps84
  go_wp2_with fail
  rw [← hW]
  clear hW
  refine k.mono ?_
  rintro r w1 ⟨rfl, hb1⟩
  have HB1 : Hid (Below W.heap.size W w1) := hb1
  obtain ⟨a0, a1, a2⟩ := HK.out w1 hb1
  clear k hb1
  have kS : ∀ W, Calls Tryz.prog 112 #[.bool true] W fun r w' => r = .returned (.int .i64 1) ∧ w' = W := fun W => rsignb true W
  have kI := cinf_m
  go_wp2_with (first | (go_at_call 112; refine (kS _).mono ?_; rintro r w2 ⟨rfl, rfl⟩) | (go_at_call 63; refine (kI _).mono ?_; rintro r w2 ⟨rfl, rfl⟩))
  go_ret
  exact ⟨rfl, HX.out.trans (HB1.out.mono HX.out.size)⟩
set_option maxHeartbeats 4000000 in
set_option maxRecDepth 200000 in
theorem rto_big_2f (ua : Option Addr) (un uc : Nat) (ea t : Int) (w : World) (hn0 : ((un : Int) == 0) = false) (ht : 1024 < t) (kH : ∀ W, Below w.heap.size w W → Calls Tryz.prog 96 #[.agg #[.bool false, .slice ua un uc, .int .i64 ea]] W fun r w' => r = .returned (.int .i64 t) ∧ Below W.heap.size W w') :
    Calls Tryz.prog 84 #[.agg #[.bool false, .slice ua un uc, .int .i64 ea], .int .i64 2] w fun r w' => r = .returned (.float .f64 9218868437227405312) ∧ Below w.heap.size w w' := by
  obtain ⟨W, hW⟩ : ∃ W, W = w.alloc (.cells #[.bool false, .slice ua un uc, .int .i64 ea] 38) := ⟨_, rfl⟩
  have hBW : Below w.heap.size w W := by rw [hW]; exact (Below.refl _ _).alloc (Nat.le_refl _) _
  have hA : W.heap[w.heap.size]? = some (.cells #[.bool false, .slice ua un uc, .int .i64 ea] 38 (0, 0)) := by rw [hW]; exact heap_alloc_new _ _
  have hsz : W.heap.size = w.heap.size + 1 := by rw [hW]; simp
  have HX : Hid (Below w.heap.size w W) := hBW
  have HK : Hid (∀ w', Below W.heap.size W w' → w'.cell? ⟨w.heap.size, 0, none⟩ = some (.bool false) ∧ w'.cell? ⟨w.heap.size, 1, none⟩ = some (.slice ua un uc) ∧ w'.cell? ⟨w.heap.size, 2, none⟩ = some (.int .i64 ea)) := fun w' hb => (box_cells29 (box_later hA hb (by omega))).1
  have k := kH W hBW
  clear kH hA hsz hBW
  go_enter Tryz.func84, Tryz.ntmps84
  go_wp2_with fail
  rw [← hW]
  clear hW
  refine k.mono ?_
  rintro r w1 ⟨rfl, hb1⟩
  have HB1 : Hid (Below W.heap.size W w1) := hb1
  obtain ⟨a0, a1, a2⟩ := HK.out w1 hb1
  clear k hb1
  have kS : ∀ W, Calls Tryz.prog 112 #[.bool false] W fun r w' => r = .returned (.int .i64 0) ∧ w' = W := fun W => rsignb false W
  have kI := c61
  go_wp2_with (first | (go_at_call 112; refine (kS _).mono ?_; rintro r w2 ⟨rfl, rfl⟩) | (go_at_call 63; refine (kI _).mono ?_; rintro r w2 ⟨rfl, rfl⟩))
  go_ret
  exact ⟨rfl, HX.out.trans (HB1.out.mono HX.out.size)⟩
set_option maxHeartbeats 4000000 in
set_option maxRecDepth 200000 in
theorem rto_big_2t (ua : Option Addr) (un uc : Nat) (ea t : Int) (w : World) (hn0 : ((un : Int) == 0) = false) (ht : 1024 < t) (kH : ∀ W, Below w.heap.size w W → Calls Tryz.prog 96 #[.agg #[.bool true, .slice ua un uc, .int .i64 ea]] W fun r w' => r = .returned (.int .i64 t) ∧ Below W.heap.size W w') :
    Calls Tryz.prog 84 #[.agg #[.bool true, .slice ua un uc, .int .i64 ea], .int .i64 2] w fun r w' => r = .returned (.float .f64 18442240474082181120) ∧ Below w.heap.size w w' := by
  obtain ⟨W, hW⟩ : ∃ W, W = w.alloc (.cells #[.bool true, .slice ua un uc, .int .i64 ea] 38) := ⟨_, rfl⟩
  have hBW : Below w.heap.size w W := by rw [hW]; exact (Below.refl _ _).alloc (Nat.le_refl _) _
  have hA : W.heap[w.heap.size]? = some (.cells #[.bool true, .slice ua un uc, .int .i64 ea] 38 (0, 0)) := by rw [hW]; exact heap_alloc_new _ _
  have hsz : W.heap.size = w.heap.size + 1 := by rw [hW]; simp
  have HX : Hid (Below w.heap.size w W) := hBW
  have HK : Hid (∀ w', Below W.heap.size W w' → w'.cell? ⟨w.heap.size, 0, none⟩ = some (.bool true) ∧ w'.cell? ⟨w.heap.size, 1, none⟩ = some (.slice ua un uc) ∧ w'.cell? ⟨w.heap.size, 2, none⟩ = some (.int .i64 ea)) := fun w' hb => (box_cells29 (box_later hA hb (by omega))).1
  have k := kH W hBW
  clear kH hA hsz hBW
  go_enter Tryz.func84, Tryz.ntmps84
  go_wp2_with fail
  rw [← hW]
  clear hW
  refine k.mono ?_
  rintro r w1 ⟨rfl, hb1⟩
  have HB1 : Hid (Below W.heap.size W w1) := hb1
  obtain ⟨a0, a1, a2⟩ := HK.out w1 hb1
  clear k hb1
  have kS : ∀ W, Calls Tryz.prog 112 #[.bool true] W fun r w' => r = .returned (.int .i64 1) ∧ w' = W := fun W => rsignb true W
  have kI := cinf_m
  go_wp2_with (first | (go_at_call 112; refine (kS _).mono ?_; rintro r w2 ⟨rfl, rfl⟩) | (go_at_call 63; refine (kI _).mono ?_; rintro r w2 ⟨rfl, rfl⟩))
  go_ret
  exact ⟨rfl, HX.out.trans (HB1.out.mono HX.out.size)⟩
set_option maxHeartbeats 4000000 in
set_option maxRecDepth 200000 in
theorem rto_big_3f (ua : Option Addr) (un uc : Nat) (ea t : Int) (w : World) (hn0 : ((un : Int) == 0) = false) (ht : 1024 < t) (kH : ∀ W, Below w.heap.size w W → Calls Tryz.prog 96 #[.agg #[.bool false, .slice ua un uc, .int .i64 ea]] W fun r w' => r = .returned (.int .i64 t) ∧ Below W.heap.size W w') :
    Calls Tryz.prog 84 #[.agg #[.bool false, .slice ua un uc, .int .i64 ea], .int .i64 3] w fun r w' => r = .returned (.float .f64 9218868437227405312) ∧ Below w.heap.size w w' := by
  obtain ⟨W, hW⟩ : ∃ W, W = w.alloc (.cells #[.bool false, .slice ua un uc, .int .i64 ea] 38) := ⟨_, rfl⟩
  have hBW : Below w.heap.size w W := by rw [hW]; exact (Below.refl _ _).alloc (Nat.le_refl _) _
  have hA : W.heap[w.heap.size]? = some (.cells #[.bool false, .slice ua un uc, .int .i64 ea] 38 (0, 0)) := by rw [hW]; exact heap_alloc_new _ _
  have hsz : W.heap.size = w.heap.size + 1 := by rw [hW]; simp
  have HX : Hid (Below w.heap.size w W) := hBW
  have HK : Hid (∀ w', Below W.heap.size W w' → w'.cell? ⟨w.heap.size, 0, none⟩ = some (.bool false) ∧ w'.cell? ⟨w.heap.size, 1, none⟩ = some (.slice ua un uc) ∧ w'.cell? ⟨w.heap.size, 2, none⟩ = some (.int .i64 ea)) := fun w' hb => (box_cells29 (box_later hA hb (by omega))).1
  have k := kH W hBW
  clear kH hA hsz hBW
  go_enter Tryz.func84, Tryz.ntmps84
  go_wp2_with fail
  rw [← hW]
  clear hW
  refine k.mono ?_
  rintro r w1 ⟨rfl, hb1⟩
  have HB1 : Hid (Below W.heap.size W w1) := hb1
  obtain ⟨a0, a1, a2⟩ := HK.out w1 hb1
  clear k hb1
  have kS : ∀ W, Calls Tryz.prog 112 #[.bool false] W fun r w' => r = .returned (.int .i64 0) ∧ w' = W := fun W => rsignb false W
  have kI := c61
  go_wp2_with (first | (go_at_call 112; refine (kS _).mono ?_; rintro r w2 ⟨rfl, rfl⟩) | (go_at_call 63; refine (kI _).mono ?_; rintro r w2 ⟨rfl, rfl⟩))
  go_ret
  exact ⟨rfl, HX.out.trans (HB1.out.mono HX.out.size)⟩
set_option maxHeartbeats 4000000 in
set_option maxRecDepth 200000 in
theorem rto_big_3t (ua : Option Addr) (un uc : Nat) (ea t : Int) (F : Nat) (w : World) (hn0 : ((un : Int) == 0) = false) (ht : 1024 < t) (kH : ∀ W, Below w.heap.size w W → Calls Tryz.prog 96 #[.agg #[.bool true, .slice ua un uc, .int .i64 ea]] W fun r w' => r = .returned (.int .i64 t) ∧ Below W.heap.size W w') (kB : ∀ W, Calls Tryz.prog 113 #[.bool true, .int .u64 9007199254740991, .int .i64 971] W fun r w' => r = .returned (.float .f64 F) ∧ w' = W) :
    Calls Tryz.prog 84 #[.agg #[.bool true, .slice ua un uc, .int .i64 ea], .int .i64 3] w fun r w' => r = .returned (.float .f64 F) ∧ Below w.heap.size w w' := by
  obtain ⟨W, hW⟩ : ∃ W, W = w.alloc (.cells #[.bool true, .slice ua un uc, .int .i64 ea] 38) := ⟨_, rfl⟩
  have hBW : Below w.heap.size w W := by rw [hW]; exact (Below.refl _ _).alloc (Nat.le_refl _) _
  have hA : W.heap[w.heap.size]? = some (.cells #[.bool true, .slice ua un uc, .int .i64 ea] 38 (0, 0)) := by rw [hW]; exact heap_alloc_new _ _
  have hsz : W.heap.size = w.heap.size + 1 := by rw [hW]; simp
  have HX : Hid (Below w.heap.size w W) := hBW
  have HK : Hid (∀ w', Below W.heap.size W w' → w'.cell? ⟨w.heap.size, 0, none⟩ = some (.bool true) ∧ w'.cell? ⟨w.heap.size, 1, none⟩ = some (.slice ua un uc) ∧ w'.cell? ⟨w.heap.size, 2, none⟩ = some (.int .i64 ea)) := fun w' hb => (box_cells29 (box_later hA hb (by omega))).1
  have k := kH W hBW
  clear kH hA hsz hBW
  go_enter Tryz.func84, Tryz.ntmps84
  go_wp2_with fail
  rw [← hW]
  clear hW
  refine k.mono ?_
  rintro r w1 ⟨rfl, hb1⟩
  have HB1 : Hid (Below W.heap.size W w1) := hb1
  obtain ⟨a0, a1, a2⟩ := HK.out w1 hb1
  clear k hb1
  go_wp2_with (first | (go_at_call 113; refine (kB _).mono ?_; rintro r w2 ⟨rfl, rfl⟩))
  go_ret
  exact ⟨rfl, HX.out.trans (HB1.out.mono HX.out.size)⟩
set_option maxHeartbeats 4000000 in
set_option maxRecDepth 200000 in
theorem rto_tiny_1f (ua : Option Addr) (un uc F : Nat) (ea e2 t : Int) (w : World) (hn0 : ((un : Int) == 0) = false) (ht : t ≤ 1024) (ht3 : -4000000 ≤ t) (he1 : -4000000 ≤ ea) (he2 : ea ≤ 4000000) (hmx : max (t - 53) (-1074) = e2) (h21 : -1074 ≤ e2) (h22 : e2 ≤ 971) (hge : ¬ e2 ≤ ea) (ht2 : t < -1075) (kH : ∀ W, Below w.heap.size w W → Calls Tryz.prog 96 #[.agg #[.bool false, .slice ua un uc, .int .i64 ea]] W fun r w' => r = .returned (.int .i64 t) ∧ Below W.heap.size W w') (kB : ∀ W, Calls Tryz.prog 113 #[.bool false, .int .u64 0, .int .i64 (-1074)] W fun r w' => r = .returned (.float .f64 F) ∧ w' = W) :
    Calls Tryz.prog 84 #[.agg #[.bool false, .slice ua un uc, .int .i64 ea], .int .i64 1] w fun r w' => r = .returned (.float .f64 F) ∧ Below w.heap.size w w' := by
  have htn : ¬ 1024 < t := by omega
  obtain ⟨W, hW⟩ : ∃ W, W = w.alloc (.cells #[.bool false, .slice ua un uc, .int .i64 ea] 38) := ⟨_, rfl⟩
  have hBW : Below w.heap.size w W := by rw [hW]; exact (Below.refl _ _).alloc (Nat.le_refl _) _
  have hA : W.heap[w.heap.size]? = some (.cells #[.bool false, .slice ua un uc, .int .i64 ea] 38 (0, 0)) := by rw [hW]; exact heap_alloc_new _ _
  have hsz : W.heap.size = w.heap.size + 1 := by rw [hW]; simp
  have HX : Hid (Below w.heap.size w W) := hBW
  have HK : Hid (∀ w', Below W.heap.size W w' → w'.cell? ⟨w.heap.size, 0, none⟩ = some (.bool false) ∧ w'.cell? ⟨w.heap.size, 1, none⟩ = some (.slice ua un uc) ∧ w'.cell? ⟨w.heap.size, 2, none⟩ = some (.int .i64 ea)) := fun w' hb => (box_cells29 (box_later hA hb (by omega))).1
  have k := kH W hBW
  clear kH hA hsz hBW
  go_enter Tryz.func84, Tryz.ntmps84
  go_wp2_with fail
  rw [← hW]
  clear hW
  refine k.mono ?_
  rintro r w1 ⟨rfl, hb1⟩
  have HB1 : Hid (Below W.heap.size W w1) := hb1
  obtain ⟨a0, a1, a2⟩ := HK.out w1 hb1
  clear k hb1
  go_wp2_with (first | (go_at_call 113; refine (kB _).mono ?_; rintro r w2 ⟨rfl, rfl⟩))
  go_ret
  exact ⟨rfl, HX.out.trans (HB1.out.mono HX.out.size)⟩
set_option maxHeartbeats 4000000 in
set_option maxRecDepth 200000 in
theorem rto_tiny_1t (ua : Option Addr) (un uc F : Nat) (ea e2 t : Int) (w : World) (hn0 : ((un : Int) == 0) = false) (ht : t ≤ 1024) (ht3 : -4000000 ≤ t) (he1 : -4000000 ≤ ea) (he2 : ea ≤ 4000000) (hmx : max (t - 53) (-1074) = e2) (h21 : -1074 ≤ e2) (h22 : e2 ≤ 971) (hge : ¬ e2 ≤ ea) (ht2 : t < -1075) (kH : ∀ W, Below w.heap.size w W → Calls Tryz.prog 96 #[.agg #[.bool true, .slice ua un uc, .int .i64 ea]] W fun r w' => r = .returned (.int .i64 t) ∧ Below W.heap.size W w') (kB : ∀ W, Calls Tryz.prog 113 #[.bool true, .int .u64 1, .int .i64 (-1074)] W fun r w' => r = .returned (.float .f64 F) ∧ w' = W) :
    Calls Tryz.prog 84 #[.agg #[.bool true, .slice ua un uc, .int .i64 ea], .int .i64 1] w fun r w' => r = .returned (.float .f64 F) ∧ Below w.heap.size w w' := by
  have htn : ¬ 1024 < t := by omega
  obtain ⟨W, hW⟩ : ∃ W, W = w.alloc (.cells #[.bool true, .slice ua un uc, .int .i64 ea] 38) := ⟨_, rfl⟩
  have hBW : Below w.heap.size w W := by rw [hW]; exact (Below.refl _ _).alloc (Nat.le_refl _) _
  have hA : W.heap[w.heap.size]? = some (.cells #[.bool true, .slice ua un uc, .int .i64 ea] 38 (0, 0)) := by rw [hW]; exact heap_alloc_new _ _
  have hsz : W.heap.size = w.heap.size + 1 := by rw [hW]; simp
  have HX : Hid (Below w.heap.size w W) := hBW
  have HK : Hid (∀ w', Below W.heap.size W w' → w'.cell? ⟨w.heap.size, 0, none⟩ = some (.bool true) ∧ w'.cell? ⟨w.heap.size, 1, none⟩ = some (.slice ua un uc) ∧ w'.cell? ⟨w.heap.size, 2, none⟩ = some (.int .i64 ea)) := fun w' hb => (box_cells29 (box_later hA hb (by omega))).1
  have k := kH W hBW
  clear kH hA hsz hBW
  go_enter Tryz.func84, Tryz.ntmps84
  go_wp2_with fail
  rw [← hW]
  clear hW
  refine k.mono ?_
  rintro r w1 ⟨rfl, hb1⟩
  have HB1 : Hid (Below W.heap.size W w1) := hb1
  obtain ⟨a0, a1, a2⟩ := HK.out w1 hb1
  clear k hb1
  go_wp2_with (first | (go_at_call 113; refine (kB _).mono ?_; rintro r w2 ⟨rfl, rfl⟩))
  go_ret
  exact ⟨rfl, HX.out.trans (HB1.out.mono HX.out.size)⟩
set_option maxHeartbeats 4000000 in
set_option maxRecDepth 200000 in
theorem rto_tiny_2f (ua : Option Addr) (un uc F : Nat) (ea e2 t : Int) (w : World) (hn0 : ((un : Int) == 0) = false) (ht : t ≤ 1024) (ht3 : -4000000 ≤ t) (he1 : -4000000 ≤ ea) (he2 : ea ≤ 4000000) (hmx : max (t - 53) (-1074) = e2) (h21 : -1074 ≤ e2) (h22 : e2 ≤ 971) (hge : ¬ e2 ≤ ea) (ht2 : t < -1075) (kH : ∀ W, Below w.heap.size w W → Calls Tryz.prog 96 #[.agg #[.bool false, .slice ua un uc, .int .i64 ea]] W fun r w' => r = .returned (.int .i64 t) ∧ Below W.heap.size W w') (kB : ∀ W, Calls Tryz.prog 113 #[.bool false, .int .u64 0, .int .i64 (-1074)] W fun r w' => r = .returned (.float .f64 F) ∧ w' = W) :
    Calls Tryz.prog 84 #[.agg #[.bool false, .slice ua un uc, .int .i64 ea], .int .i64 2] w fun r w' => r = .returned (.float .f64 F) ∧ Below w.heap.size w w' := by
  have htn : ¬ 1024 < t := by omega
  obtain ⟨W, hW⟩ : ∃ W, W = w.alloc (.cells #[.bool false, .slice ua un uc, .int .i64 ea] 38) := ⟨_, rfl⟩
  have hBW : Below w.heap.size w W := by rw [hW]; exact (Below.refl _ _).alloc (Nat.le_refl _) _
  have hA : W.heap[w.heap.size]? = some (.cells #[.bool false, .slice ua un uc, .int .i64 ea] 38 (0, 0)) := by rw [hW]; exact heap_alloc_new _ _
  have hsz : W.heap.size = w.heap.size + 1 := by rw [hW]; simp
  have HX : Hid (Below w.heap.size w W) := hBW
  have HK : Hid (∀ w', Below W.heap.size W w' → w'.cell? ⟨w.heap.size, 0, none⟩ = some (.bool false) ∧ w'.cell? ⟨w.heap.size, 1, none⟩ = some (.slice ua un uc) ∧ w'.cell? ⟨w.heap.size, 2, none⟩ = some (.int .i64 ea)) := fun w' hb => (box_cells29 (box_later hA hb (by omega))).1
  have k := kH W hBW
  clear kH hA hsz hBW
  go_enter Tryz.func84, Tryz.ntmps84
  go_wp2_with fail
  rw [← hW]
  clear hW
  refine k.mono ?_
  rintro r w1 ⟨rfl, hb1⟩
  have HB1 : Hid (Below W.heap.size W w1) := hb1
  obtain ⟨a0, a1, a2⟩ := HK.out w1 hb1
  clear k hb1
  go_wp2_with (first | (go_at_call 113; refine (kB _).mono ?_; rintro r w2 ⟨rfl, rfl⟩))
  go_ret
  exact ⟨rfl, HX.out.trans (HB1.out.mono HX.out.size)⟩
set_option maxHeartbeats 4000000 in
set_option maxRecDepth 200000 in
theorem rto_tiny_2t (ua : Option Addr) (un uc F : Nat) (ea e2 t : Int) (w : World) (hn0 : ((un : Int) == 0) = false) (ht : t ≤ 1024) (ht3 : -4000000 ≤ t) (he1 : -4000000 ≤ ea) (he2 : ea ≤ 4000000) (hmx : max (t - 53) (-1074) = e2) (h21 : -1074 ≤ e2) (h22 : e2 ≤ 971) (hge : ¬ e2 ≤ ea) (ht2 : t < -1075) (kH : ∀ W, Below w.heap.size w W → Calls Tryz.prog 96 #[.agg #[.bool true, .slice ua un uc, .int .i64 ea]] W fun r w' => r = .returned (.int .i64 t) ∧ Below W.heap.size W w') (kB : ∀ W, Calls Tryz.prog 113 #[.bool true, .int .u64 0, .int .i64 (-1074)] W fun r w' => r = .returned (.float .f64 F) ∧ w' = W) :
    Calls Tryz.prog 84 #[.agg #[.bool true, .slice ua un uc, .int .i64 ea], .int .i64 2] w fun r w' => r = .returned (.float .f64 F) ∧ Below w.heap.size w w' := by
  have htn : ¬ 1024 < t := by omega
  obtain ⟨W, hW⟩ : ∃ W, W = w.alloc (.cells #[.bool true, .slice ua un uc, .int .i64 ea] 38) := ⟨_, rfl⟩
  have hBW : Below w.heap.size w W := by rw [hW]; exact (Below.refl _ _).alloc (Nat.le_refl _) _
  have hA : W.heap[w.heap.size]? = some (.cells #[.bool true, .slice ua un uc, .int .i64 ea] 38 (0, 0)) := by rw [hW]; exact heap_alloc_new _ _
  have hsz : W.heap.size = w.heap.size + 1 := by rw [hW]; simp
  have HX : Hid (Below w.heap.size w W) := hBW
  have HK : Hid (∀ w', Below W.heap.size W w' → w'.cell? ⟨w.heap.size, 0, none⟩ = some (.bool true) ∧ w'.cell? ⟨w.heap.size, 1, none⟩ = some (.slice ua un uc) ∧ w'.cell? ⟨w.heap.size, 2, none⟩ = some (.int .i64 ea)) := fun w' hb => (box_cells29 (box_later hA hb (by omega))).1
  have k := kH W hBW
  clear kH hA hsz hBW
  go_enter Tryz.func84, Tryz.ntmps84
  go_wp2_with fail
  rw [← hW]
  clear hW
  refine k.mono ?_
  rintro r w1 ⟨rfl, hb1⟩
  have HB1 : Hid (Below W.heap.size W w1) := hb1
  obtain ⟨a0, a1, a2⟩ := HK.out w1 hb1
  clear k hb1
  go_wp2_with (first | (go_at_call 113; refine (kB _).mono ?_; rintro r w2 ⟨rfl, rfl⟩))
  go_ret
  exact ⟨rfl, HX.out.trans (HB1.out.mono HX.out.size)⟩
set_option maxHeartbeats 4000000 in
set_option maxRecDepth 200000 in
theorem rto_tiny_3f (ua : Option Addr) (un uc F : Nat) (ea e2 t : Int) (w : World) (hn0 : ((un : Int) == 0) = false) (ht : t ≤ 1024) (ht3 : -4000000 ≤ t) (he1 : -4000000 ≤ ea) (he2 : ea ≤ 4000000) (hmx : max (t - 53) (-1074) = e2) (h21 : -1074 ≤ e2) (h22 : e2 ≤ 971) (hge : ¬ e2 ≤ ea) (ht2 : t < -1075) (kH : ∀ W, Below w.heap.size w W → Calls Tryz.prog 96 #[.agg #[.bool false, .slice ua un uc, .int .i64 ea]] W fun r w' => r = .returned (.int .i64 t) ∧ Below W.heap.size W w') (kB : ∀ W, Calls Tryz.prog 113 #[.bool false, .int .u64 1, .int .i64 (-1074)] W fun r w' => r = .returned (.float .f64 F) ∧ w' = W) :
    Calls Tryz.prog 84 #[.agg #[.bool false, .slice ua un uc, .int .i64 ea], .int .i64 3] w fun r w' => r = .returned (.float .f64 F) ∧ Below w.heap.size w w' := by
  have htn : ¬ 1024 < t := by omega
  obtain ⟨W, hW⟩ : ∃ W, W = w.alloc (.cells #[.bool false, .slice ua un uc, .int .i64 ea] 38) := ⟨_, rfl⟩
  have hBW : Below w.heap.size w W := by rw [hW]; exact (Below.refl _ _).alloc (Nat.le_refl _) _
  have hA : W.heap[w.heap.size]? = some (.cells #[.bool false, .slice ua un uc, .int .i64 ea] 38 (0, 0)) := by rw [hW]; exact heap_alloc_new _ _
  have hsz : W.heap.size = w.heap.size + 1 := by rw [hW]; simp
  have HX : Hid (Below w.heap.size w W) := hBW
  have HK : Hid (∀ w', Below W.heap.size W w' → w'.cell? ⟨w.heap.size, 0, none⟩ = some (.bool false) ∧ w'.cell? ⟨w.heap.size, 1, none⟩ = some (.slice ua un uc) ∧ w'.cell? ⟨w.heap.size, 2, none⟩ = some (.int .i64 ea)) := fun w' hb => (box_cells29 (box_later hA hb (by omega))).1
  have k := kH W hBW
  clear kH hA hsz hBW
  go_enter Tryz.func84, Tryz.ntmps84
  go_wp2_with fail
  rw [← hW]
  clear hW
  refine k.mono ?_
  rintro r w1 ⟨rfl, hb1⟩
  have HB1 : Hid (Below W.heap.size W w1) := hb1
  obtain ⟨a0, a1, a2⟩ := HK.out w1 hb1
  clear k hb1
  go_wp2_with (first | (go_at_call 113; refine (kB _).mono ?_; rintro r w2 ⟨rfl, rfl⟩))
  go_ret
  exact ⟨rfl, HX.out.trans (HB1.out.mono HX.out.size)⟩
set_option maxHeartbeats 4000000 in
set_option maxRecDepth 200000 in
theorem rto_tiny_3t (ua : Option Addr) (un uc F : Nat) (ea e2 t : Int) (w : World) (hn0 : ((un : Int) == 0) = false) (ht : t ≤ 1024) (ht3 : -4000000 ≤ t) (he1 : -4000000 ≤ ea) (he2 : ea ≤ 4000000) (hmx : max (t - 53) (-1074) = e2) (h21 : -1074 ≤ e2) (h22 : e2 ≤ 971) (hge : ¬ e2 ≤ ea) (ht2 : t < -1075) (kH : ∀ W, Below w.heap.size w W → Calls Tryz.prog 96 #[.agg #[.bool true, .slice ua un uc, .int .i64 ea]] W fun r w' => r = .returned (.int .i64 t) ∧ Below W.heap.size W w') (kB : ∀ W, Calls Tryz.prog 113 #[.bool true, .int .u64 0, .int .i64 (-1074)] W fun r w' => r = .returned (.float .f64 F) ∧ w' = W) :
    Calls Tryz.prog 84 #[.agg #[.bool true, .slice ua un uc, .int .i64 ea], .int .i64 3] w fun r w' => r = .returned (.float .f64 F) ∧ Below w.heap.size w w' := by
  have htn : ¬ 1024 < t := by omega
  obtain ⟨W, hW⟩ : ∃ W, W = w.alloc (.cells #[.bool true, .slice ua un uc, .int .i64 ea] 38) := ⟨_, rfl⟩
  have hBW : Below w.heap.size w W := by rw [hW]; exact (Below.refl _ _).alloc (Nat.le_refl _) _
  have hA : W.heap[w.heap.size]? = some (.cells #[.bool true, .slice ua un uc, .int .i64 ea] 38 (0, 0)) := by rw [hW]; exact heap_alloc_new _ _
  have hsz : W.heap.size = w.heap.size + 1 := by rw [hW]; simp
  have HX : Hid (Below w.heap.size w W) := hBW
  have HK : Hid (∀ w', Below W.heap.size W w' → w'.cell? ⟨w.heap.size, 0, none⟩ = some (.bool true) ∧ w'.cell? ⟨w.heap.size, 1, none⟩ = some (.slice ua un uc) ∧ w'.cell? ⟨w.heap.size, 2, none⟩ = some (.int .i64 ea)) := fun w' hb => (box_cells29 (box_later hA hb (by omega))).1
  have k := kH W hBW
  clear kH hA hsz hBW
  go_enter Tryz.func84, Tryz.ntmps84
  go_wp2_with fail
  rw [← hW]
  clear hW
  refine k.mono ?_
  rintro r w1 ⟨rfl, hb1⟩
  have HB1 : Hid (Below W.heap.size W w1) := hb1
  obtain ⟨a0, a1, a2⟩ := HK.out w1 hb1
  clear k hb1
  go_wp2_with (first | (go_at_call 113; refine (kB _).mono ?_; rintro r w2 ⟨rfl, rfl⟩))
  go_ret
  exact ⟨rfl, HX.out.trans (HB1.out.mono HX.out.size)⟩
set_option maxHeartbeats 4000000 in
set_option maxRecDepth 200000 in
theorem rto_up_1f (ua : Option Addr) (un uc X F : Nat) (ea e2 t : Int) (w : World) (hn0 : ((un : Int) == 0) = false) (ht : t ≤ 1024) (ht3 : -4000000 ≤ t) (he1 : -4000000 ≤ ea) (he2 : ea ≤ 4000000) (hmx : max (t - 53) (-1074) = e2) (h21 : -1074 ≤ e2) (h22 : e2 ≤ 971) (hge : e2 ≤ ea) (hX : X < 9007199254740992) (kH : ∀ W, Below w.heap.size w W → Calls Tryz.prog 96 #[.agg #[.bool false, .slice ua un uc, .int .i64 ea]] W fun r w' => r = .returned (.int .i64 t) ∧ Below W.heap.size W w') (kU : ∀ W, Below w.heap.size w W → Calls Tryz.prog 69 #[.slice ua un uc, .int .i64 (ea - e2)] W fun r w' => ∃ v, r = .returned v ∧ Ir w' v X ∧ Below W.heap.size W w') (kB : ∀ W, Calls Tryz.prog 113 #[.bool false, .int .u64 X, .int .i64 e2] W fun r w' => r = .returned (.float .f64 F) ∧ w' = W) :
    Calls Tryz.prog 84 #[.agg #[.bool false, .slice ua un uc, .int .i64 ea], .int .i64 1] w fun r w' => r = .returned (.float .f64 F) ∧ Below w.heap.size w w' := by
  have htn : ¬ 1024 < t := by omega
  obtain ⟨W, hW⟩ : ∃ W, W = w.alloc (.cells #[.bool false, .slice ua un uc, .int .i64 ea] 38) := ⟨_, rfl⟩
  have hBW : Below w.heap.size w W := by rw [hW]; exact (Below.refl _ _).alloc (Nat.le_refl _) _
  have hA : W.heap[w.heap.size]? = some (.cells #[.bool false, .slice ua un uc, .int .i64 ea] 38 (0, 0)) := by rw [hW]; exact heap_alloc_new _ _
  have hsz : W.heap.size = w.heap.size + 1 := by rw [hW]; simp
  have HX : Hid (Below w.heap.size w W) := hBW
  have HK : Hid (∀ w', Below W.heap.size W w' → w'.cell? ⟨w.heap.size, 0, none⟩ = some (.bool false) ∧ w'.cell? ⟨w.heap.size, 1, none⟩ = some (.slice ua un uc) ∧ w'.cell? ⟨w.heap.size, 2, none⟩ = some (.int .i64 ea)) := fun w' hb => (box_cells29 (box_later hA hb (by omega))).1
  have k := kH W hBW
  have HKU : Hid (∀ w4, Below W.heap.size W w4 → Calls Tryz.prog 69 #[.slice ua un uc, .int .i64 (ea - e2)] w4 fun r w' => ∃ v, r = .returned v ∧ Ir w' v X ∧ Below w4.heap.size w4 w') := (fun w4 h4 => kU w4 (hBW.trans (h4.mono hBW.size)) : ∀ w4, Below W.heap.size W w4 → Calls Tryz.prog 69 #[.slice ua un uc, .int .i64 (ea - e2)] w4 fun r w' => ∃ v, r = .returned v ∧ Ir w' v X ∧ Below w4.heap.size w4 w')
  clear kU
  clear kH hA hsz hBW
  go_enter Tryz.func84, Tryz.ntmps84
  go_wp2_with fail
  rw [← hW]
  clear hW
  refine k.mono ?_
  rintro r w1 ⟨rfl, hb1⟩
  have HB1 : Hid (Below W.heap.size W w1) := hb1
  obtain ⟨a0, a1, a2⟩ := HK.out w1 hb1
  clear k hb1
  have kU := HKU.out w1 HB1.out
  go_wp2_with (first | (go_at_call 69; refine kU.mono ?_; rintro r w2 ⟨v, rfl, hv, hb2⟩))
  have HB2 : Hid (Below W.heap.size W w2) := HB1.out.trans (hb2.mono HB1.out.size)
  obtain ⟨a0, a1, a2⟩ := HK.out w2 HB2.out
  have kS : ∀ d, Calls Tryz.prog 114 #[v] (w2.drewN d) fun r w' => r = .returned (.int .u64 X) ∧ w' = w2.drewN d := fun d => rsmall (hv.later ⟨rfl, rfl, rfl, Nat.le_refl _, fun _ _ => rfl⟩) hX
  clear kU hb2 hv
  go_quiet (first | (go_at_call 114; refine Calls.quiet_of_same (kS _)) | (go_at_call 113; refine Calls.quiet_of_same (kB _)))
  go_wp2
  go_ret
  exact ⟨rfl, HX.out.trans ((below_drewN HB2.out _).mono HX.out.size)⟩
set_option maxHeartbeats 4000000 in
set_option maxRecDepth 200000 in
theorem rto_up_1t (ua : Option Addr) (un uc X F : Nat) (ea e2 t : Int) (w : World) (hn0 : ((un : Int) == 0) = false) (ht : t ≤ 1024) (ht3 : -4000000 ≤ t) (he1 : -4000000 ≤ ea) (he2 : ea ≤ 4000000) (hmx : max (t - 53) (-1074) = e2) (h21 : -1074 ≤ e2) (h22 : e2 ≤ 971) (hge : e2 ≤ ea) (hX : X < 9007199254740992) (kH : ∀ W, Below w.heap.size w W → Calls Tryz.prog 96 #[.agg #[.bool true, .slice ua un uc, .int .i64 ea]] W fun r w' => r = .returned (.int .i64 t) ∧ Below W.heap.size W w') (kU : ∀ W, Below w.heap.size w W → Calls Tryz.prog 69 #[.slice ua un uc, .int .i64 (ea - e2)] W fun r w' => ∃ v, r = .returned v ∧ Ir w' v X ∧ Below W.heap.size W w') (kB : ∀ W, Calls Tryz.prog 113 #[.bool true, .int .u64 X, .int .i64 e2] W fun r w' => r = .returned (.float .f64 F) ∧ w' = W) :
    Calls Tryz.prog 84 #[.agg #[.bool true, .slice ua un uc, .int .i64 ea], .int .i64 1] w fun r w' => r = .returned (.float .f64 F) ∧ Below w.heap.size w w' := by
  have htn : ¬ 1024 < t := by omega
  obtain ⟨W, hW⟩ : ∃ W, W = w.alloc (.cells #[.bool true, .slice ua un uc, .int .i64 ea] 38) := ⟨_, rfl⟩
  have hBW : Below w.heap.size w W := by rw [hW]; exact (Below.refl _ _).alloc (Nat.le_refl _) _
  have hA : W.heap[w.heap.size]? = some (.cells #[.bool true, .slice ua un uc, .int .i64 ea] 38 (0, 0)) := by rw [hW]; exact heap_alloc_new _ _
  have hsz : W.heap.size = w.heap.size + 1 := by rw [hW]; simp
  have HX : Hid (Below w.heap.size w W) := hBW
  have HK : Hid (∀ w', Below W.heap.size W w' → w'.cell? ⟨w.heap.size, 0, none⟩ = some (.bool true) ∧ w'.cell? ⟨w.heap.size, 1, none⟩ = some (.slice ua un uc) ∧ w'.cell? ⟨w.heap.size, 2, none⟩ = some (.int .i64 ea)) := fun w' hb => (box_cells29 (box_later hA hb (by omega))).1
  have k := kH W hBW
  have HKU : Hid (∀ w4, Below W.heap.size W w4 → Calls Tryz.prog 69 #[.slice ua un uc, .int .i64 (ea - e2)] w4 fun r w' => ∃ v, r = .returned v ∧ Ir w' v X ∧ Below w4.heap.size w4 w') := (fun w4 h4 => kU w4 (hBW.trans (h4.mono hBW.size)) : ∀ w4, Below W.heap.size W w4 → Calls Tryz.prog 69 #[.slice ua un uc, .int .i64 (ea - e2)] w4 fun r w' => ∃ v, r = .returned v ∧ Ir w' v X ∧ Below w4.heap.size w4 w')
  clear kU
  clear kH hA hsz hBW
  go_enter Tryz.func84, Tryz.ntmps84
  go_wp2_with fail
  rw [← hW]
  clear hW
  refine k.mono ?_
  rintro r w1 ⟨rfl, hb1⟩
  have HB1 : Hid (Below W.heap.size W w1) := hb1
  obtain ⟨a0, a1, a2⟩ := HK.out w1 hb1
  clear k hb1
  have kU := HKU.out w1 HB1.out
  go_wp2_with (first | (go_at_call 69; refine kU.mono ?_; rintro r w2 ⟨v, rfl, hv, hb2⟩))
  have HB2 : Hid (Below W.heap.size W w2) := HB1.out.trans (hb2.mono HB1.out.size)
  obtain ⟨a0, a1, a2⟩ := HK.out w2 HB2.out
  have kS : ∀ d, Calls Tryz.prog 114 #[v] (w2.drewN d) fun r w' => r = .returned (.int .u64 X) ∧ w' = w2.drewN d := fun d => rsmall (hv.later ⟨rfl, rfl, rfl, Nat.le_refl _, fun _ _ => rfl⟩) hX
  clear kU hb2 hv
  go_quiet (first | (go_at_call 114; refine Calls.quiet_of_same (kS _)) | (go_at_call 113; refine Calls.quiet_of_same (kB _)))
  go_wp2
  go_ret
  exact ⟨rfl, HX.out.trans ((below_drewN HB2.out _).mono HX.out.size)⟩
set_option maxHeartbeats 4000000 in
set_option maxRecDepth 200000 in
theorem rto_up_2f (ua : Option Addr) (un uc X F : Nat) (ea e2 t : Int) (w : World) (hn0 : ((un : Int) == 0) = false) (ht : t ≤ 1024) (ht3 : -4000000 ≤ t) (he1 : -4000000 ≤ ea) (he2 : ea ≤ 4000000) (hmx : max (t - 53) (-1074) = e2) (h21 : -1074 ≤ e2) (h22 : e2 ≤ 971) (hge : e2 ≤ ea) (hX : X < 9007199254740992) (kH : ∀ W, Below w.heap.size w W → Calls Tryz.prog 96 #[.agg #[.bool false, .slice ua un uc, .int .i64 ea]] W fun r w' => r = .returned (.int .i64 t) ∧ Below W.heap.size W w') (kU : ∀ W, Below w.heap.size w W → Calls Tryz.prog 69 #[.slice ua un uc, .int .i64 (ea - e2)] W fun r w' => ∃ v, r = .returned v ∧ Ir w' v X ∧ Below W.heap.size W w') (kB : ∀ W, Calls Tryz.prog 113 #[.bool false, .int .u64 X, .int .i64 e2] W fun r w' => r = .returned (.float .f64 F) ∧ w' = W) :
    Calls Tryz.prog 84 #[.agg #[.bool false, .slice ua un uc, .int .i64 ea], .int .i64 2] w fun r w' => r = .returned (.float .f64 F) ∧ Below w.heap.size w w' := by
  have htn : ¬ 1024 < t := by omega
  obtain ⟨W, hW⟩ : ∃ W, W = w.alloc (.cells #[.bool false, .slice ua un uc, .int .i64 ea] 38) := ⟨_, rfl⟩
  have hBW : Below w.heap.size w W := by rw [hW]; exact (Below.refl _ _).alloc (Nat.le_refl _) _
  have hA : W.heap[w.heap.size]? = some (.cells #[.bool false, .slice ua un uc, .int .i64 ea] 38 (0, 0)) := by rw [hW]; exact heap_alloc_new _ _
  have hsz : W.heap.size = w.heap.size + 1 := by rw [hW]; simp
  have HX : Hid (Below w.heap.size w W) := hBW
  have HK : Hid (∀ w', Below W.heap.size W w' → w'.cell? ⟨w.heap.size, 0, none⟩ = some (.bool false) ∧ w'.cell? ⟨w.heap.size, 1, none⟩ = some (.slice ua un uc) ∧ w'.cell? ⟨w.heap.size, 2, none⟩ = some (.int .i64 ea)) := fun w' hb => (box_cells29 (box_later hA hb (by omega))).1
  have k := kH W hBW
  have HKU : Hid (∀ w4, Below W.heap.size W w4 → Calls Tryz.prog 69 #[.slice ua un uc, .int .i64 (ea - e2)] w4 fun r w' => ∃ v, r = .returned v ∧ Ir w' v X ∧ Below w4.heap.size w4 w') := (fun w4 h4 => kU w4 (hBW.trans (h4.mono hBW.size)) : ∀ w4, Below W.heap.size W w4 → Calls Tryz.prog 69 #[.slice ua un uc, .int .i64 (ea - e2)] w4 fun r w' => ∃ v, r = .returned v ∧ Ir w' v X ∧ Below w4.heap.size w4 w')
  clear kU
  clear kH hA hsz hBW
  go_enter Tryz.func84, Tryz.ntmps84
  go_wp2_with fail
  rw [← hW]
  clear hW
  refine k.mono ?_
  rintro r w1 ⟨rfl, hb1⟩
  have HB1 : Hid (Below W.heap.size W w1) := hb1
  obtain ⟨a0, a1, a2⟩ := HK.out w1 hb1
  clear k hb1
  have kU := HKU.out w1 HB1.out
  go_wp2_with (first | (go_at_call 69; refine kU.mono ?_; rintro r w2 ⟨v, rfl, hv, hb2⟩))
  have HB2 : Hid (Below W.heap.size W w2) := HB1.out.trans (hb2.mono HB1.out.size)
  obtain ⟨a0, a1, a2⟩ := HK.out w2 HB2.out
  have kS : ∀ d, Calls Tryz.prog 114 #[v] (w2.drewN d) fun r w' => r = .returned (.int .u64 X) ∧ w' = w2.drewN d := fun d => rsmall (hv.later ⟨rfl, rfl, rfl, Nat.le_refl _, fun _ _ => rfl⟩) hX
  clear kU hb2 hv
  go_quiet (first | (go_at_call 114; refine Calls.quiet_of_same (kS _)) | (go_at_call 113; refine Calls.quiet_of_same (kB _)))
  go_wp2
  go_ret
  exact ⟨rfl, HX.out.trans ((below_drewN HB2.out _).mono HX.out.size)⟩
set_option maxHeartbeats 4000000 in
set_option maxRecDepth 200000 in
theorem rto_up_2t (ua : Option Addr) (un uc X F : Nat) (ea e2 t : Int) (w : World) (hn0 : ((un : Int) == 0) = false) (ht : t ≤ 1024) (ht3 : -4000000 ≤ t) (he1 : -4000000 ≤ ea) (he2 : ea ≤ 4000000) (hmx : max (t - 53) (-1074) = e2) (h21 : -1074 ≤ e2) (h22 : e2 ≤ 971) (hge : e2 ≤ ea) (hX : X < 9007199254740992) (kH : ∀ W, Below w.heap.size w W → Calls Tryz.prog 96 #[.agg #[.bool true, .slice ua un uc, .int .i64 ea]] W fun r w' => r = .returned (.int .i64 t) ∧ Below W.heap.size W w') (kU : ∀ W, Below w.heap.size w W → Calls Tryz.prog 69 #[.slice ua un uc, .int .i64 (ea - e2)] W fun r w' => ∃ v, r = .returned v ∧ Ir w' v X ∧ Below W.heap.size W w') (kB : ∀ W, Calls Tryz.prog 113 #[.bool true, .int .u64 X, .int .i64 e2] W fun r w' => r = .returned (.float .f64 F) ∧ w' = W) :
    Calls Tryz.prog 84 #[.agg #[.bool true, .slice ua un uc, .int .i64 ea], .int .i64 2] w fun r w' => r = .returned (.float .f64 F) ∧ Below w.heap.size w w' := by
  have htn : ¬ 1024 < t := by omega
  obtain ⟨W, hW⟩ : ∃ W, W = w.alloc (.cells #[.bool true, .slice ua un uc, .int .i64 ea] 38) := ⟨_, rfl⟩
  have hBW : Below w.heap.size w W := by rw [hW]; exact (Below.refl _ _).alloc (Nat.le_refl _) _
  have hA : W.heap[w.heap.size]? = some (.cells #[.bool true, .slice ua un uc, .int .i64 ea] 38 (0, 0)) := by rw [hW]; exact heap_alloc_new _ _
  have hsz : W.heap.size = w.heap.size + 1 := by rw [hW]; simp
  have HX : Hid (Below w.heap.size w W) := hBW
  have HK : Hid (∀ w', Below W.heap.size W w' → w'.cell? ⟨w.heap.size, 0, none⟩ = some (.bool true) ∧ w'.cell? ⟨w.heap.size, 1, none⟩ = some (.slice ua un uc) ∧ w'.cell? ⟨w.heap.size, 2, none⟩ = some (.int .i64 ea)) := fun w' hb => (box_cells29 (box_later hA hb (by omega))).1
  have k := kH W hBW
  have HKU : Hid (∀ w4, Below W.heap.size W w4 → Calls Tryz.prog 69 #[.slice ua un uc, .int .i64 (ea - e2)] w4 fun r w' => ∃ v, r = .returned v ∧ Ir w' v X ∧ Below w4.heap.size w4 w') := (fun w4 h4 => kU w4 (hBW.trans (h4.mono hBW.size)) : ∀ w4, Below W.heap.size W w4 → Calls Tryz.prog 69 #[.slice ua un uc, .int .i64 (ea - e2)] w4 fun r w' => ∃ v, r = .returned v ∧ Ir w' v X ∧ Below w4.heap.size w4 w')
  clear kU
  clear kH hA hsz hBW
  go_enter Tryz.func84, Tryz.ntmps84
  go_wp2_with fail
  rw [← hW]
  clear hW
  refine k.mono ?_
  rintro r w1 ⟨rfl, hb1⟩
  have HB1 : Hid (Below W.heap.size W w1) := hb1
  obtain ⟨a0, a1, a2⟩ := HK.out w1 hb1
  clear k hb1
  have kU := HKU.out w1 HB1.out
  go_wp2_with (first | (go_at_call 69; refine kU.mono ?_; rintro r w2 ⟨v, rfl, hv, hb2⟩))
  have HB2 : Hid (Below W.heap.size W w2) := HB1.out.trans (hb2.mono HB1.out.size)
  obtain ⟨a0, a1, a2⟩ := HK.out w2 HB2.out
  have kS : ∀ d, Calls Tryz.prog 114 #[v] (w2.drewN d) fun r w' => r = .returned (.int .u64 X) ∧ w' = w2.drewN d := fun d => rsmall (hv.later ⟨rfl, rfl, rfl, Nat.le_refl _, fun _ _ => rfl⟩) hX
  clear kU hb2 hv
  go_quiet (first | (go_at_call 114; refine Calls.quiet_of_same (kS _)) | (go_at_call 113; refine Calls.quiet_of_same (kB _)))
  go_wp2
  go_ret
  exact ⟨rfl, HX.out.trans ((below_drewN HB2.out _).mono HX.out.size)⟩
set_option maxHeartbeats 4000000 in
set_option maxRecDepth 200000 in
theorem rto_up_3f (ua : Option Addr) (un uc X F : Nat) (ea e2 t : Int) (w : World) (hn0 : ((un : Int) == 0) = false) (ht : t ≤ 1024) (ht3 : -4000000 ≤ t) (he1 : -4000000 ≤ ea) (he2 : ea ≤ 4000000) (hmx : max (t - 53) (-1074) = e2) (h21 : -1074 ≤ e2) (h22 : e2 ≤ 971) (hge : e2 ≤ ea) (hX : X < 9007199254740992) (kH : ∀ W, Below w.heap.size w W → Calls Tryz.prog 96 #[.agg #[.bool false, .slice ua un uc, .int .i64 ea]] W fun r w' => r = .returned (.int .i64 t) ∧ Below W.heap.size W w') (kU : ∀ W, Below w.heap.size w W → Calls Tryz.prog 69 #[.slice ua un uc, .int .i64 (ea - e2)] W fun r w' => ∃ v, r = .returned v ∧ Ir w' v X ∧ Below W.heap.size W w') (kB : ∀ W, Calls Tryz.prog 113 #[.bool false, .int .u64 X, .int .i64 e2] W fun r w' => r = .returned (.float .f64 F) ∧ w' = W) :
    Calls Tryz.prog 84 #[.agg #[.bool false, .slice ua un uc, .int .i64 ea], .int .i64 3] w fun r w' => r = .returned (.float .f64 F) ∧ Below w.heap.size w w' := by
  have htn : ¬ 1024 < t := by omega
  obtain ⟨W, hW⟩ : ∃ W, W = w.alloc (.cells #[.bool false, .slice ua un uc, .int .i64 ea] 38) := ⟨_, rfl⟩
  have hBW : Below w.heap.size w W := by rw [hW]; exact (Below.refl _ _).alloc (Nat.le_refl _) _
  have hA : W.heap[w.heap.size]? = some (.cells #[.bool false, .slice ua un uc, .int .i64 ea] 38 (0, 0)) := by rw [hW]; exact heap_alloc_new _ _
  have hsz : W.heap.size = w.heap.size + 1 := by rw [hW]; simp
  have HX : Hid (Below w.heap.size w W) := hBW
  have HK : Hid (∀ w', Below W.heap.size W w' → w'.cell? ⟨w.heap.size, 0, none⟩ = some (.bool false) ∧ w'.cell? ⟨w.heap.size, 1, none⟩ = some (.slice ua un uc) ∧ w'.cell? ⟨w.heap.size, 2, none⟩ = some (.int .i64 ea)) := fun w' hb => (box_cells29 (box_later hA hb (by omega))).1
  have k := kH W hBW
  have HKU : Hid (∀ w4, Below W.heap.size W w4 → Calls Tryz.prog 69 #[.slice ua un uc, .int .i64 (ea - e2)] w4 fun r w' => ∃ v, r = .returned v ∧ Ir w' v X ∧ Below w4.heap.size w4 w') := (fun w4 h4 => kU w4 (hBW.trans (h4.mono hBW.size)) : ∀ w4, Below W.heap.size W w4 → Calls Tryz.prog 69 #[.slice ua un uc, .int .i64 (ea - e2)] w4 fun r w' => ∃ v, r = .returned v ∧ Ir w' v X ∧ Below w4.heap.size w4 w')
  clear kU
  clear kH hA hsz hBW
  go_enter Tryz.func84, Tryz.ntmps84
  go_wp2_with fail
  rw [← hW]
  clear hW
  refine k.mono ?_
  rintro r w1 ⟨rfl, hb1⟩
  have HB1 : Hid (Below W.heap.size W w1) := hb1
  obtain ⟨a0, a1, a2⟩ := HK.out w1 hb1
  clear k hb1
  have kU := HKU.out w1 HB1.out
  go_wp2_with (first | (go_at_call 69; refine kU.mono ?_; rintro r w2 ⟨v, rfl, hv, hb2⟩))
  have HB2 : Hid (Below W.heap.size W w2) := HB1.out.trans (hb2.mono HB1.out.size)
  obtain ⟨a0, a1, a2⟩ := HK.out w2 HB2.out
  have kS : ∀ d, Calls Tryz.prog 114 #[v] (w2.drewN d) fun r w' => r = .returned (.int .u64 X) ∧ w' = w2.drewN d := fun d => rsmall (hv.later ⟨rfl, rfl, rfl, Nat.le_refl _, fun _ _ => rfl⟩) hX
  clear kU hb2 hv
  go_quiet (first | (go_at_call 114; refine Calls.quiet_of_same (kS _)) | (go_at_call 113; refine Calls.quiet_of_same (kB _)))
  go_wp2
  go_ret
  exact ⟨rfl, HX.out.trans ((below_drewN HB2.out _).mono HX.out.size)⟩
set_option maxHeartbeats 4000000 in
set_option maxRecDepth 200000 in
theorem rto_up_3t (ua : Option Addr) (un uc X F : Nat) (ea e2 t : Int) (w : World) (hn0 : ((un : Int) == 0) = false) (ht : t ≤ 1024) (ht3 : -4000000 ≤ t) (he1 : -4000000 ≤ ea) (he2 : ea ≤ 4000000) (hmx : max (t - 53) (-1074) = e2) (h21 : -1074 ≤ e2) (h22 : e2 ≤ 971) (hge : e2 ≤ ea) (hX : X < 9007199254740992) (kH : ∀ W, Below w.heap.size w W → Calls Tryz.prog 96 #[.agg #[.bool true, .slice ua un uc, .int .i64 ea]] W fun r w' => r = .returned (.int .i64 t) ∧ Below W.heap.size W w') (kU : ∀ W, Below w.heap.size w W → Calls Tryz.prog 69 #[.slice ua un uc, .int .i64 (ea - e2)] W fun r w' => ∃ v, r = .returned v ∧ Ir w' v X ∧ Below W.heap.size W w') (kB : ∀ W, Calls Tryz.prog 113 #[.bool true, .int .u64 X, .int .i64 e2] W fun r w' => r = .returned (.float .f64 F) ∧ w' = W) :
    Calls Tryz.prog 84 #[.agg #[.bool true, .slice ua un uc, .int .i64 ea], .int .i64 3] w fun r w' => r = .returned (.float .f64 F) ∧ Below w.heap.size w w' := by
  have htn : ¬ 1024 < t := by omega
  obtain ⟨W, hW⟩ : ∃ W, W = w.alloc (.cells #[.bool true, .slice ua un uc, .int .i64 ea] 38) := ⟨_, rfl⟩
  have hBW : Below w.heap.size w W := by rw [hW]; exact (Below.refl _ _).alloc (Nat.le_refl _) _
  have hA : W.heap[w.heap.size]? = some (.cells #[.bool true, .slice ua un uc, .int .i64 ea] 38 (0, 0)) := by rw [hW]; exact heap_alloc_new _ _
  have hsz : W.heap.size = w.heap.size + 1 := by rw [hW]; simp
  have HX : Hid (Below w.heap.size w W) := hBW
  have HK : Hid (∀ w', Below W.heap.size W w' → w'.cell? ⟨w.heap.size, 0, none⟩ = some (.bool true) ∧ w'.cell? ⟨w.heap.size, 1, none⟩ = some (.slice ua un uc) ∧ w'.cell? ⟨w.heap.size, 2, none⟩ = some (.int .i64 ea)) := fun w' hb => (box_cells29 (box_later hA hb (by omega))).1
  have k := kH W hBW
  have HKU : Hid (∀ w4, Below W.heap.size W w4 → Calls Tryz.prog 69 #[.slice ua un uc, .int .i64 (ea - e2)] w4 fun r w' => ∃ v, r = .returned v ∧ Ir w' v X ∧ Below w4.heap.size w4 w') := (fun w4 h4 => kU w4 (hBW.trans (h4.mono hBW.size)) : ∀ w4, Below W.heap.size W w4 → Calls Tryz.prog 69 #[.slice ua un uc, .int .i64 (ea - e2)] w4 fun r w' => ∃ v, r = .returned v ∧ Ir w' v X ∧ Below w4.heap.size w4 w')
  clear kU
  clear kH hA hsz hBW
  go_enter Tryz.func84, Tryz.ntmps84
  go_wp2_with fail
  rw [← hW]
  clear hW
  refine k.mono ?_
  rintro r w1 ⟨rfl, hb1⟩
  have HB1 : Hid (Below W.heap.size W w1) := hb1
  obtain ⟨a0, a1, a2⟩ := HK.out w1 hb1
  clear k hb1
  have kU := HKU.out w1 HB1.out
  go_wp2_with (first | (go_at_call 69; refine kU.mono ?_; rintro r w2 ⟨v, rfl, hv, hb2⟩))
  have HB2 : Hid (Below W.heap.size W w2) := HB1.out.trans (hb2.mono HB1.out.size)
  obtain ⟨a0, a1, a2⟩ := HK.out w2 HB2.out
  have kS : ∀ d, Calls Tryz.prog 114 #[v] (w2.drewN d) fun r w' => r = .returned (.int .u64 X) ∧ w' = w2.drewN d := fun d => rsmall (hv.later ⟨rfl, rfl, rfl, Nat.le_refl _, fun _ _ => rfl⟩) hX
  clear kU hb2 hv
  go_quiet (first | (go_at_call 114; refine Calls.quiet_of_same (kS _)) | (go_at_call 113; refine Calls.quiet_of_same (kB _)))
  go_wp2
  go_ret
  exact ⟨rfl, HX.out.trans ((below_drewN HB2.out _).mono HX.out.size)⟩
end Go.Proofs.YtajeodimbfppiaaGreatDoor
