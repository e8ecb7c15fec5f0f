/- Own work: contracts of the program's functions, part 12: L8 FM4 HX W46 W47 RC5 L10 W48 RE2. -/
import Derived.Test.YtmhpicccfaklcaaGreatDoorA11
import Derived.Test.YtmhpicccfaklcaaGreatDoorA9
import Derived.Test.YtmhpicccfaklcaaGreatDoorA10
import Derived.Test.YtmhpicccfaklcaaGreatDoorA6
import Derived.Test.YtmhpicccfaklcaaGreatDoorA7
import Derived.Lib.ItoaNum

/- DyadLeast answers true. -/
namespace Go.Proofs.YtmhpicccfaklcaaGreatDoor
set_option linter.unusedVariables false
set_option linter.unusedSimpArgs false
open Go.RowKit Go.Fl64

theorem cmpI_mul {a b : Int} {c : Nat} (hc : 0 < c) : cmpI (a * (c : Int)) (b * (c : Int)) = cmpI a b := by
  have hc' : (0 : Int) < (c : Int) := by omega
  unfold cmpI
  have h1 : (a * (c : Int) < b * (c : Int)) ↔ a < b := ⟨fun h => Int.lt_of_mul_lt_mul_right h (Int.le_of_lt hc'), fun h => Int.mul_lt_mul_of_pos_right h hc'⟩
  have h2 : (b * (c : Int) < a * (c : Int)) ↔ b < a := ⟨fun h => Int.lt_of_mul_lt_mul_right h (Int.le_of_lt hc'), fun h => Int.mul_lt_mul_of_pos_right h hc'⟩
  simp only [h1, h2]
theorem cmpI_neg (a b : Int) : cmpI (-a) (-b) = - cmpI a b := by
  unfold cmpI
  by_cases h1 : a < b
  · rw [if_neg (by omega), if_pos (by omega), if_pos h1]; rfl
  · by_cases h2 : b < a
    · rw [if_pos (by omega), if_neg h1, if_pos h2]
    · rw [if_neg (by omega), if_neg (by omega), if_neg h1, if_neg h2]; rfl

theorem sgI_eq (s : Bool) (x : Nat) : sgI s (dlen x) = if x = 0 then 0 else if s then -1 else 1 := by
  unfold sgI
  by_cases h : x = 0
  · subst h; simp [dlen_zero]
  · rw [if_neg (fun e => h (dlen_eq_zero.1 e)), if_neg h]

/-- Cmp's answer is the order of the values -/
theorem ordN_vz {K : Nat} {na nb : Bool} {x y : Nat} {ea eb : Int} (h1 : 0 ≤ ea + K) (h2 : 0 ≤ eb + K) : ordN na x ea nb y eb = cmpI (vz K na x ea) (vz K nb y eb) := by
  have hm : 0 ≤ min ea eb + (K : Int) := by omega
  have e1 : vz K na x ea = vz K na (x * 2 ^ (ea - min ea eb).toNat) (min ea eb) := by
    rw [vz_shift hm, show min ea eb + ((ea - min ea eb).toNat : Int) = ea by omega]
  have e2 : vz K nb y eb = vz K nb (y * 2 ^ (eb - min ea eb).toNat) (min ea eb) := by
    rw [vz_shift hm, show min ea eb + ((eb - min ea eb).toNat : Int) = eb by omega]
  have hx : x = 0 ↔ x * 2 ^ (ea - min ea eb).toNat = 0 := by
    constructor
    · rintro rfl; rw [Nat.zero_mul]
    · intro h; rcases Nat.mul_eq_zero.1 h with h | h
      · exact h
      · have := Nat.two_pow_pos (ea - min ea eb).toNat; omega
  have hy : y = 0 ↔ y * 2 ^ (eb - min ea eb).toNat = 0 := by
    constructor
    · rintro rfl; rw [Nat.zero_mul]
    · intro h; rcases Nat.mul_eq_zero.1 h with h | h
      · exact h
      · have := Nat.two_pow_pos (eb - min ea eb).toNat; omega
  rw [e1, e2]
  unfold ordN vz
  rw [cmpI_mul (Nat.two_pow_pos _), sgI_eq, sgI_eq]
  generalize x * 2 ^ (ea - min ea eb).toNat = X at *
  generalize y * 2 ^ (eb - min ea eb).toNat = Y at *
  by_cases x0 : x = 0
  · have X0 := hx.1 x0
    rw [if_pos x0, X0]
    by_cases y0 : y = 0
    · rw [if_pos y0, if_pos rfl, hy.1 y0, sv_zero, sv_zero]
      simp [cmpI]
    · have Y0 : Y ≠ 0 := fun h => y0 (hy.2 h)
      rw [if_neg y0, sv_zero]
      cases nb
      · simp [sv, cmpI]; omega
      · simp [sv, cmpI]; omega
  · have X0 : X ≠ 0 := fun h => x0 (hx.2 h)
    rw [if_neg x0]
    by_cases y0 : y = 0
    · rw [if_pos y0, hy.1 y0, sv_zero]
      cases na
      · simp [sv, cmpI]; omega
      · simp [sv, cmpI]; omega
    · have Y0 : Y ≠ 0 := fun h => y0 (hy.2 h)
      rw [if_neg y0]
      cases na <;> cases nb
      · simp [sv]
      · simp [sv, cmpI]; omega
      · simp [sv, cmpI]; omega
      · simp only [if_true, sv]
        rw [cmpI_neg]; omega

theorem cmp_T {K : Nat} {t1 t2 : Tr} (o1 : Ok t1) (o2 : Ok t2) (h1 : 0 ≤ t1.2.2 + K) (h2 : 0 ≤ t2.2.2 + K) : Cm2 t1 t2 (cmpI (vzT K t1) (vzT K t2)) := by
  intro W X Y hX hY
  obtain ⟨ua, uc, rfl, i1⟩ := hX
  obtain ⟨va, vc, rfl, i2⟩ := hY
  obtain ⟨a1, a2, a3, -, -⟩ := o1.facts
  obtain ⟨b1, b2, b3, -, -⟩ := o2.facts
  have := cmp_ok i1 i2 (by omega) (by omega) (by omega) (by omega) o1 o2
  rw [ordN_vz h1 h2] at this
  exact this

theorem isqrt_ex (Q : Nat) : ∃ m, m * m ≤ Q ∧ Q < (m + 1) * (m + 1) := by
  induction Q with
  | zero => exact ⟨0, by omega, by omega⟩
  | succ Q ih =>
    obtain ⟨m, h1, h2⟩ := ih
    by_cases h : Q + 1 < (m + 1) * (m + 1)
    · exact ⟨m, by omega, h⟩
    · refine ⟨m + 1, by omega, ?_⟩
      have : (m + 1 + 1) * (m + 1 + 1) = (m + 1) * (m + 1) + 2 * m + 3 := by grind
      omega
theorem isqrt_eq {m m' Q : Nat} (h1 : m * m ≤ Q ∧ Q < (m + 1) * (m + 1)) (h2 : m' * m' ≤ Q ∧ Q < (m' + 1) * (m' + 1)) : m = m' := by
  have key : ∀ {a b : Nat}, a * a ≤ Q → Q < (b + 1) * (b + 1) → a ≤ b := fun {a b} h3 h4 => by
    refine Nat.le_of_not_lt fun h => ?_
    have := Nat.mul_le_mul (show b + 1 ≤ a from h) (show b + 1 ≤ a from h)
    omega
  have := key h1.1 h2.2
  have := key h2.1 h1.2
  omega

theorem held3_pn {w : World} {s : Bool} {z : Nat} {e : Int} {b : Bool} {r : Ending} {w' : World} (h : Held3 w s z e b r w') (hok : okR s z e = true) :
    ∃ s' ao n cap e', r = .returned (.tuple #[.agg #[.bool s', .slice ao n cap, .int .i64 e'], .bool b, .int .i64 0]) ∧ PN w' (.agg #[.bool s', .slice ao n cap, .int .i64 e']) (cn s z e) ∧ Below w.heap.size w w' := by
  obtain ⟨A, rfl, hN, hb⟩ := h
  rw [hok]
  have hp := hN.pn
  obtain ⟨s', ao, n, cap, e', rfl⟩ := hp.shape
  exact ⟨s', ao, n, cap, e', by simp, hp, hb⟩

theorem vzT_pos {K : Nat} {x : Nat} {e : Int} : vzT K (false, x, e) = ((x * 2 ^ (e + K).toNat : Nat) : Int) := by
  unfold vzT vz sv
  simp only [Bool.false_eq_true, if_false]
  exact (Int.natCast_mul ..).symm

theorem cmp_le {a b : Int} (h : a ≤ b) (ex : Bool) (hx : ex = true ↔ a = b) : cmpI a b ≤ 0 ∧ (ex == (cmpI a b == 0)) = true := by
  rcases cmpI_cases a b with ⟨h1, h2⟩ | ⟨h1, h2⟩ | ⟨h1, h2⟩
  · rw [h2]
    have : ex = false := by
      cases ex
      · rfl
      · have := hx.1 rfl; omega
    subst this
    exact ⟨by omega, rfl⟩
  · omega
  · rw [h2]
    have : ex = true := hx.2 h1
    subst this
    exact ⟨by omega, rfl⟩
theorem cmp_gt {a b : Int} (h : b < a) : 0 < cmpI a b := by
  rcases cmpI_cases a b with ⟨h1, h2⟩ | ⟨h1, h2⟩ | ⟨h1, h2⟩ <;> omega

theorem fits_100 {z : Nat} {e : Int} (hz : dlen z ≤ 100) (h1 : -3000 ≤ e) (h2 : e ≤ 3000) : Fits (-3000) 6200 z e := by
  refine .inr ⟨h1, by omega, ?_⟩
  have hB : ∀ n, B ^ n = 2 ^ (32 * n) := fun n => by
    have : (B : Nat) = 2 ^ 32 := by decide
    rw [this, ← Nat.pow_mul]
  have hn : 32 * 100 ≤ (6200 - e).toNat := by omega
  generalize 100 = n at hz hn
  refine Nat.lt_of_lt_of_le ((dlen_le n z).1 hz) ?_
  rw [hB]
  exact Nat.pow_le_pow_right (by omega) hn

theorem two_add {a b : Int} (ha : 0 ≤ a) (hb : 0 ≤ b) : 2 ^ (a + b).toNat = 2 ^ a.toNat * 2 ^ b.toNat := by
  rw [show (a + b).toNat = a.toNat + b.toNat by omega, Nat.pow_add]

theorem okN_abs {s : Bool} {n z : Nat} {e : Int} (h : okN s n z e = true) : okN false n z e = true := by
  unfold okN at h ⊢
  by_cases h0 : n = 0
  · rw [if_pos h0] at h ⊢
    simp at h ⊢
    exact h.1
  · rw [if_neg h0] at h ⊢; exact h

end Go.Proofs.YtmhpicccfaklcaaGreatDoor

/- Numbers with their signs, rounded each way. -/
namespace Go.Proofs.YtmhpicccfaklcaaGreatDoor
set_option linter.unusedVariables false
set_option linter.unusedSimpArgs false
open Go.RowKit Go.Fl64
open Ie

/-- a value in units of 2^-K -/
def VA (K x : Nat) (e : Int) : Nat := x * 2 ^ (e + (K : Int)).toNat
def UU (K : Nat) : Nat := 2 ^ (K - 1074)
theorem UU_pos (K : Nat) : 0 < UU K := Nat.two_pow_pos _
theorem VA_rounds {K : Nat} (hK : 70000 ≤ K) {x : Nat} {e : Int} (h0 : x ≠ 0) (he : -65536 ≤ e) {way : Nat} : Rounds (VA K x e) (UU K) (rwb x e way) way := rwb_rounds h0 (by omega) (by omega)
theorem VA_zero (K : Nat) (e : Int) : VA K 0 e = 0 := by unfold VA; rw [Nat.zero_mul]
theorem VA_ne {K x : Nat} {e : Int} (h0 : x ≠ 0) : 0 < VA K x e := Nat.mul_pos (by omega) (Nat.two_pow_pos _)
theorem bv_zero : bv 0 = 0 := rfl
theorem bdy_le (x : Nat) (e : Int) (way : Nat) : bdy x e way ≤ 9218868437227405312 := by
  unfold bdy
  split
  · omega
  · split
    · omega
    · split <;> omega
theorem bdy_mono {K : Nat} (hK : 70000 ≤ K) {x y : Nat} {e f : Int} (he : -65536 ≤ e) (hf : -65536 ≤ f) {way : Nat} (hw : way = 0 ∨ way = 1 ∨ way = 2) (h : VA K x e ≤ VA K y f) : bdy x e way ≤ bdy y f way := by
  by_cases hx : x = 0
  · unfold bdy; rw [if_pos hx]; omega
  · by_cases hy : y = 0
    · subst hy
      rw [VA_zero] at h
      have := VA_ne (K := K) (e := e) hx
      omega
    · have hm := Rounds.mono hw (VA_rounds hK hx he) (VA_rounds hK hy hf) h
      unfold bdy
      rw [if_neg hx, if_neg hy]
      split
      · split
        · exact hm
        · split <;> omega
      · rw [if_neg (show ¬ rwb y f way < 9218868437227405312 by omega)]
        exact Nat.le_refl _
theorem bdy_order {K : Nat} (hK : 70000 ≤ K) {x : Nat} {e : Int} (he : -65536 ≤ e) : bdy x e 0 ≤ bdy x e 1 ∧ bdy x e 1 ≤ bdy x e 2 ∧ bdy x e 0 < 9218868437227405312 ∧ bv (bdy x e 0) * UU K ≤ VA K x e ∧ (bdy x e 2 < 9218868437227405312 → VA K x e ≤ bv (bdy x e 2) * UU K) ∧ (bdy x e 0 = bdy x e 2 → VA K x e = bv (bdy x e 0) * UU K) := by
  by_cases hx : x = 0
  · subst hx
    unfold bdy
    simp only [if_pos, VA_zero, bv_zero, Nat.zero_mul]
    simp
  · obtain ⟨h1, h2, h3, h4, h5⟩ := Rounds.order (VA_rounds hK (e := e) hx he) (VA_rounds hK (e := e) hx he) (VA_rounds hK (e := e) hx he)
    unfold bdy
    rw [if_neg hx, if_neg hx, if_neg hx]
    by_cases g0 : rwb x e 0 < 9218868437227405312
    · rw [if_pos g0]
      refine ⟨?_, ?_, g0, h3, ?_, ?_⟩
      · split
        · exact h1
        · rw [if_neg (by decide)]; omega
      · split
        · split
          · exact h2
          · rw [if_neg (by decide)]; omega
        · rw [if_neg (show ¬ rwb x e 2 < 9218868437227405312 by omega), if_neg (by decide), if_neg (by decide)]; exact Nat.le_refl _
      · intro g
        split at g
        · rename_i g2; rw [if_pos g2]; exact h4
        · rw [if_neg (by decide)] at g; omega
      · intro g
        split at g
        · exact h5 g
        · rw [if_neg (by decide)] at g; omega
    · rw [if_neg g0, if_neg (show ¬ rwb x e 1 < 9218868437227405312 by omega), if_neg (show ¬ rwb x e 2 < 9218868437227405312 by omega), if_pos rfl, if_neg (by decide), if_neg (by decide)]
      refine ⟨by omega, by omega, by omega, ?_, fun g => absurd g (by omega), fun g => absurd g (by omega)⟩
      exact Nat.le_trans (Nat.mul_le_mul_right _ (bv_le (by omega))) h3
/-- the way of a mode: 0 inward, 1 to the nearest, 2 outward -/
def wyN (s : Bool) (m : Int) : Nat := if m = 2 then 1 else if (s == (m == 1)) then 2 else 0
theorem wyN_eq (s : Bool) (m : Int) : ((wyN s m : Nat) : Int) = wy s m := by
  unfold wyN wy
  split
  · rfl
  · split <;> rfl
theorem wyN_ways (s : Bool) (m : Int) : wyN s m = 0 ∨ wyN s m = 1 ∨ wyN s m = 2 := by
  unfold wyN
  split
  · exact .inr (.inl rfl)
  · split
    · exact .inr (.inr rfl)
    · exact .inl rfl
theorem tfM_zero : tfM true 0 = 0 := by unfold tfM; rw [show tfD 0 = 0 from rfl]; simp
theorem tfM_ne {x : Nat} (h0 : x ≠ 0) : tfM true x ≠ 0 := by
  unfold tfM
  split
  · have h1 := le_bl h0
    have hp : 2 ^ tfD x ≤ x := Nat.le_trans (Nat.pow_le_pow_right (by omega) (by unfold tfD; omega)) h1
    have := (Nat.le_div_iff_mul_le (Nat.two_pow_pos (tfD x))).2 (show 1 * 2 ^ tfD x ≤ x by omega)
    omega
  · rw [or_one_eq]; omega
/-- toFloat's answer by its body -/
theorem tf_bdy {s : Bool} {x : Nat} {e m : Int} (hm : 1 ≤ m ∧ m ≤ 3) : tfF s true x e m = sig s (bdy x e (wyN s m)) := by
  unfold tfF mk
  rw [if_pos (by omega)]
  congr 1
  by_cases h0 : x = 0
  · subst h0
    rw [tfM_zero, if_pos rfl]
    unfold bdy; rw [if_pos rfl]
  · rw [if_neg (tfM_ne h0), ← wyN_eq, bod_eq h0]
theorem mag_sig {s : Bool} {b : Nat} (h : b ≤ 9218868437227405312) : mag (sig s b) = b ∧ neg (sig s b) = s ∧ sig s b < 18446744073709551616 := by
  unfold mag neg sig
  cases s
  · exact ⟨by show b % _ = b; omega, decide_eq_false (by show ¬ _ ≤ b; omega), by show b < _; omega⟩
  · exact ⟨by show (b + 9223372036854775808) % _ = b; omega, decide_eq_true (by show _ ≤ b + _; omega), by show b + 9223372036854775808 < _; omega⟩
theorem stp_sig {s : Bool} {b : Nat} (h : b ≤ 9218868437227405312) : stp (sig s b) = sv s b ∧ isNaN (sig s b) = false ∧ sig s b < 18446744073709551616 := by
  obtain ⟨h1, h2, h3⟩ := mag_sig (s := s) h
  refine ⟨?_, ?_, h3⟩
  · unfold stp; rw [h1, h2]; rfl
  · unfold isNaN; rw [h1]; exact decide_eq_false (by omega)
theorem vz_VA (K : Nat) (s : Bool) (x : Nat) (e : Int) : vz K s x e = sv s (VA K x e) := by
  unfold vz VA sv
  cases s <;> simp [Int.neg_mul]
/-- a finite float's number -/
theorem vz_num {K : Nat} (hK : 70000 ≤ K) {a : Nat} (hf : mag a < 9218868437227405312) : vz K (nN a) (nM a) (Ie.sE a) = sv (neg a) (bv (mag a) * UU K) := by
  rw [vz_VA]
  by_cases h0 : mag a = 0
  · rw [(num_zero h0).1, VA_zero, sv_zero, h0, bv_zero, Nat.zero_mul, sv_zero]
  · obtain ⟨-, -, h3, h4, h5⟩ := num_parts hf h0
    have hn : nN a = neg a := by unfold nN; rw [if_neg h0]
    have e1 : VA K (nM a) (Ie.sE a) = bv (mag a) * UU K := by
      show _ = val (mag a) * UU K
      rw [← h5]
      unfold VA UU
      rw [Nat.mul_assoc, ← Nat.pow_add, show (Ie.sE a + (K : Int)).toNat = (Ie.sE a + 1074).toNat + (K - 1074) by omega]
    rw [hn, e1]
end Go.Proofs.YtmhpicccfaklcaaGreatDoor

/- Numbers written in base 16. -/
namespace Go.Proofs.YtmhpicccfaklcaaGreatDoor
set_option linter.unusedVariables false
set_option linter.unusedSimpArgs false
open Go.RowKit

/-- a number's digits in base 16, the first ahead; none for 0 -/
def hexN (v : Nat) : List UInt8 := if h : v = 0 then [] else hexN (v / 16) ++ [UInt8.ofNat (hx (v % 16))]
termination_by v
decreasing_by omega
theorem hexN_zero : hexN 0 = [] := by rw [hexN]; rfl
theorem hexN_pos {v : Nat} (h : v ≠ 0) : hexN v = hexN (v / 16) ++ [UInt8.ofNat (hx (v % 16))] := by rw [hexN, dif_neg h]
theorem hexN_step {v d : Nat} (hd : d < 16) (h : v * 16 + d ≠ 0) : hexN (v * 16 + d) = hexN v ++ [UInt8.ofNat (hx d)] := by
  rw [hexN_pos h, show (v * 16 + d) / 16 = v by omega, show (v * 16 + d) % 16 = d by omega]
theorem hexN_nil {v : Nat} : hexN v = [] ↔ v = 0 := by
  constructor
  · intro h
    by_cases h0 : v = 0
    · exact h0
    · rw [hexN_pos h0] at h; simp at h
  · rintro rfl; exact hexN_zero
theorem hexN_len (k : Nat) : ∀ v, v < 16 ^ k → (hexN v).length ≤ k := by
  induction k with
  | zero => intro v h; have h0 : v = 0 := by simpa using h
            subst h0; rw [hexN_zero]; simp
  | succ k ih =>
    intro v h
    by_cases h0 : v = 0
    · subst h0; rw [hexN_zero]; simp
    · rw [hexN_pos h0, List.length_append, List.length_singleton]
      have := ih (v / 16) (by rw [Nat.pow_succ] at h; omega)
      omega
theorem hexL_succ (u j : Nat) : hexL u (j + 1) = hexL (u / 16) j ++ [UInt8.ofNat (hx (u % 16))] := by
  unfold hexL
  rw [List.range_succ, List.map_append]
  congr 1
  · refine List.map_congr_left fun i hi => ?_
    have : i < j + 1 := List.mem_range.1 hi
    rw [show j + 1 - i = (j - i) + 1 by omega, Nat.pow_succ, Nat.mul_comm, Nat.div_div_eq_div_mul]
  · simp
theorem hexL_zero (u : Nat) : hexL u 0 = [UInt8.ofNat (hx (u % 16))] := by simp [hexL, List.range_succ]
/-- k digits more, behind a number that is not 0 -/
theorem hexN_more (k : Nat) : ∀ v d, v ≠ 0 → d < 16 ^ (k + 1) → hexN (v * 16 ^ (k + 1) + d) = hexN v ++ hexL d k := by
  induction k with
  | zero =>
    intro v d hv hd
    rw [hexL_zero, show (16 : Nat) ^ (0 + 1) = 16 by rfl]
    have hd' : d < 16 := by simpa using hd
    rw [hexN_step hd' (by omega), Nat.mod_eq_of_lt hd']
  | succ k ih =>
    intro v d hv hd
    rw [hexL_succ, ← List.append_assoc, ← ih v (d / 16) hv (by rw [Nat.pow_succ] at hd; omega)]
    have e : v * 16 ^ (k + 1 + 1) + d = (v * 16 ^ (k + 1) + d / 16) * 16 + d % 16 := by
      rw [Nat.pow_succ 16 (k + 1), Nat.add_mul, ← Nat.mul_assoc]
      omega
    rw [e]
    refine hexN_step (by omega) ?_
    have : 0 < v * 16 ^ (k + 1) := Nat.mul_pos (by omega) (Nat.pow_pos (by omega))
    omega
/-- the digits of a number that is not 0, as FormatUint tells them -/
theorem hexL_hexN : ∀ (j u : Nat), u / 16 ^ j < 16 → u ≠ 0 → (j = 0 ∨ 16 ≤ u / 16 ^ (j - 1)) → hexL u j = hexN u
  | 0, u, h, h0, _ => by
    have h' : u < 16 := by simpa using h
    rw [hexL_zero, hexN_pos h0, show u / 16 = 0 by omega, hexN_zero]; rfl
  | j + 1, u, h, h0, h1 => by
    rcases h1 with h1 | h1
    · omega
    · rw [Nat.add_sub_cancel] at h1
      have h2 : 16 ≤ u := Nat.le_trans h1 (Nat.div_le_self _ _)
      rw [hexL_succ, hexN_pos h0, hexL_hexN j (u / 16) (by rw [Nat.div_div_eq_div_mul, Nat.mul_comm, ← Nat.pow_succ]; exact h) (by omega)]
      cases j with
      | zero => exact .inl rfl
      | succ j =>
        refine .inr ?_
        rw [Nat.add_sub_cancel, Nat.div_div_eq_div_mul, Nat.mul_comm, ← Nat.pow_succ]
        exact h1
theorem hexL_lead {u j : Nat} (h : u < 16 ^ (j + 1)) : hexL u (j + 1) = 48 :: hexL u j := by
  unfold hexL
  rw [List.range_succ_eq_map (n := j + 1), List.map_cons, List.map_map]
  congr 1
  · rw [Nat.sub_zero, Nat.div_eq_of_lt h]; rfl
  · refine List.map_congr_left fun i hi => ?_
    simp only [Function.comp]
    rw [show j + 1 - (i + 1) = j - i by omega]
/-- noughts ahead -/
theorem hexL_zeros (k : Nat) : ∀ u j, u < 16 ^ (j + 1) → List.replicate k 48 ++ hexL u j = hexL u (j + k) := by
  induction k with
  | zero => intro u j _; rfl
  | succ k ih =>
    intro u j h
    rw [List.replicate_succ', List.append_assoc, List.singleton_append, ← hexL_lead h, ih u (j + 1) (Nat.lt_of_lt_of_le h (Nat.pow_le_pow_right (by omega) (by omega))), show j + (k + 1) = j + 1 + k by omega]
theorem hexL_wide {u j : Nat} (h : u < 16 ^ (j + 1)) (hj : j ≤ 7) : List.replicate (8 - (hexL u j).length) 48 ++ hexL u j = hexL u 7 := by
  rw [hexL_length, hexL_zeros _ u j h]
  congr 1
  omega
end Go.Proofs.YtmhpicccfaklcaaGreatDoor

/- strings.Repeat of the sign for nought. -/
namespace Go.Proofs.YtmhpicccfaklcaaGreatDoor
set_option linter.unusedVariables false
set_option linter.unusedSimpArgs false
open Go.RowKit

set_option maxHeartbeats 4000000 in
set_option maxRecDepth 200000 in
theorem prefix1_yes (s : ByteArray) (w : World) (h1 : (1 : Int) ≤ (s.size : Int)) (hp : s.extract 0 1 = ⟨#[48]⟩) : Calls Tryz.prog 170 #[.string s, .string ⟨#[48]⟩] w fun e w' => e = .returned (.bool true) ∧ w' = w := by
  go_enter Tryz.func170, Tryz.ntmps170
  go_wp2
  go_ret
  exact ⟨rfl, rfl⟩
set_option maxHeartbeats 4000000 in
set_option maxRecDepth 200000 in
theorem prefix_yes (s : ByteArray) (w : World) (h1 : (1 : Int) ≤ (s.size : Int)) (hp : s.extract 0 1 = ⟨#[48]⟩) : Calls Tryz.prog 119 #[.string s, .string ⟨#[48]⟩] w fun e w' => e = .returned (.bool true) ∧ w' = w := by
  have k := prefix1_yes s w h1 hp
  go_enter Tryz.func119, Tryz.ntmps119
  go_wp2_with fail
  refine k.mono ?_
  rintro r w1 ⟨rfl, rfl⟩
  clear k
  go_wp2
  go_ret
  exact ⟨rfl, rfl⟩
set_option maxHeartbeats 4000000 in
set_option maxRecDepth 200000 in
theorem prefix1_no32 (s : ByteArray) (w : World) (h1 : (1 : Int) ≤ (s.size : Int)) (hp : s.extract 0 1 = ⟨#[32]⟩) : Calls Tryz.prog 170 #[.string s, .string ⟨#[48]⟩] w fun e w' => e = .returned (.bool false) ∧ w' = w := by
  go_enter Tryz.func170, Tryz.ntmps170
  go_wp2
  go_ret
  exact ⟨rfl, rfl⟩
set_option maxHeartbeats 4000000 in
set_option maxRecDepth 200000 in
theorem prefix_no32 (s : ByteArray) (w : World) (h1 : (1 : Int) ≤ (s.size : Int)) (hp : s.extract 0 1 = ⟨#[32]⟩) : Calls Tryz.prog 119 #[.string s, .string ⟨#[48]⟩] w fun e w' => e = .returned (.bool false) ∧ w' = w := by
  have k := prefix1_no32 s w h1 hp
  go_enter Tryz.func119, Tryz.ntmps119
  go_wp2_with fail
  refine k.mono ?_
  rintro r w1 ⟨rfl, rfl⟩
  clear k
  go_wp2
  go_ret
  exact ⟨rfl, rfl⟩
set_option maxHeartbeats 4000000 in
set_option maxRecDepth 200000 in
theorem prefix1_no45 (s : ByteArray) (w : World) (h1 : (1 : Int) ≤ (s.size : Int)) (hp : s.extract 0 1 = ⟨#[45]⟩) : Calls Tryz.prog 170 #[.string s, .string ⟨#[48]⟩] w fun e w' => e = .returned (.bool false) ∧ w' = w := by
  go_enter Tryz.func170, Tryz.ntmps170
  go_wp2
  go_ret
  exact ⟨rfl, rfl⟩
set_option maxHeartbeats 4000000 in
set_option maxRecDepth 200000 in
theorem prefix_no45 (s : ByteArray) (w : World) (h1 : (1 : Int) ≤ (s.size : Int)) (hp : s.extract 0 1 = ⟨#[45]⟩) : Calls Tryz.prog 119 #[.string s, .string ⟨#[48]⟩] w fun e w' => e = .returned (.bool false) ∧ w' = w := by
  have k := prefix1_no45 s w h1 hp
  go_enter Tryz.func119, Tryz.ntmps119
  go_wp2_with fail
  refine k.mono ?_
  rintro r w1 ⟨rfl, rfl⟩
  clear k
  go_wp2
  go_ret
  exact ⟨rfl, rfl⟩
set_option maxHeartbeats 4000000 in
set_option maxRecDepth 200000 in
theorem mul64_2 (w : World) : Calls Tryz.prog 169 #[.int .u64 1, .int .u64 2] w fun e w' => e = .returned (.tuple #[.int .u64 0, .int .u64 2]) ∧ w' = w := by
  go_enter Tryz.func169, Tryz.ntmps169
  go_wp2
  go_ret2
  exact ⟨rfl, rfl⟩
set_option maxHeartbeats 4000000 in
set_option maxRecDepth 200000 in
theorem mul_2 (w : World) : Calls Tryz.prog 118 #[.int .u64 1, .int .u64 2] w fun e w' => e = .returned (.tuple #[.int .u64 0, .int .u64 2]) ∧ w' = w := by
  go_enter Tryz.func118, Tryz.ntmps118
  go_wp2_with fail
  refine (mul64_2 _).mono ?_
  rintro r w1 ⟨rfl, rfl⟩
  go_wp2
  go_ret2
  exact ⟨rfl, rfl⟩
set_option maxHeartbeats 4000000 in
set_option maxRecDepth 200000 in
theorem mul64_3 (w : World) : Calls Tryz.prog 169 #[.int .u64 1, .int .u64 3] w fun e w' => e = .returned (.tuple #[.int .u64 0, .int .u64 3]) ∧ w' = w := by
  go_enter Tryz.func169, Tryz.ntmps169
  go_wp2
  go_ret2
  exact ⟨rfl, rfl⟩
set_option maxHeartbeats 4000000 in
set_option maxRecDepth 200000 in
theorem mul_3 (w : World) : Calls Tryz.prog 118 #[.int .u64 1, .int .u64 3] w fun e w' => e = .returned (.tuple #[.int .u64 0, .int .u64 3]) ∧ w' = w := by
  go_enter Tryz.func118, Tryz.ntmps118
  go_wp2_with fail
  refine (mul64_3 _).mono ?_
  rintro r w1 ⟨rfl, rfl⟩
  go_wp2
  go_ret2
  exact ⟨rfl, rfl⟩
set_option maxHeartbeats 4000000 in
set_option maxRecDepth 200000 in
theorem mul64_4 (w : World) : Calls Tryz.prog 169 #[.int .u64 1, .int .u64 4] w fun e w' => e = .returned (.tuple #[.int .u64 0, .int .u64 4]) ∧ w' = w := by
  go_enter Tryz.func169, Tryz.ntmps169
  go_wp2
  go_ret2
  exact ⟨rfl, rfl⟩
set_option maxHeartbeats 4000000 in
set_option maxRecDepth 200000 in
theorem mul_4 (w : World) : Calls Tryz.prog 118 #[.int .u64 1, .int .u64 4] w fun e w' => e = .returned (.tuple #[.int .u64 0, .int .u64 4]) ∧ w' = w := by
  go_enter Tryz.func118, Tryz.ntmps118
  go_wp2_with fail
  refine (mul64_4 _).mono ?_
  rintro r w1 ⟨rfl, rfl⟩
  go_wp2
  go_ret2
  exact ⟨rfl, rfl⟩
set_option maxHeartbeats 4000000 in
set_option maxRecDepth 200000 in
theorem mul64_5 (w : World) : Calls Tryz.prog 169 #[.int .u64 1, .int .u64 5] w fun e w' => e = .returned (.tuple #[.int .u64 0, .int .u64 5]) ∧ w' = w := by
  go_enter Tryz.func169, Tryz.ntmps169
  go_wp2
  go_ret2
  exact ⟨rfl, rfl⟩
set_option maxHeartbeats 4000000 in
set_option maxRecDepth 200000 in
theorem mul_5 (w : World) : Calls Tryz.prog 118 #[.int .u64 1, .int .u64 5] w fun e w' => e = .returned (.tuple #[.int .u64 0, .int .u64 5]) ∧ w' = w := by
  go_enter Tryz.func118, Tryz.ntmps118
  go_wp2_with fail
  refine (mul64_5 _).mono ?_
  rintro r w1 ⟨rfl, rfl⟩
  go_wp2
  go_ret2
  exact ⟨rfl, rfl⟩
set_option maxHeartbeats 4000000 in
set_option maxRecDepth 200000 in
theorem mul64_6 (w : World) : Calls Tryz.prog 169 #[.int .u64 1, .int .u64 6] w fun e w' => e = .returned (.tuple #[.int .u64 0, .int .u64 6]) ∧ w' = w := by
  go_enter Tryz.func169, Tryz.ntmps169
  go_wp2
  go_ret2
  exact ⟨rfl, rfl⟩
set_option maxHeartbeats 4000000 in
set_option maxRecDepth 200000 in
theorem mul_6 (w : World) : Calls Tryz.prog 118 #[.int .u64 1, .int .u64 6] w fun e w' => e = .returned (.tuple #[.int .u64 0, .int .u64 6]) ∧ w' = w := by
  go_enter Tryz.func118, Tryz.ntmps118
  go_wp2_with fail
  refine (mul64_6 _).mono ?_
  rintro r w1 ⟨rfl, rfl⟩
  go_wp2
  go_ret2
  exact ⟨rfl, rfl⟩
set_option maxHeartbeats 4000000 in
set_option maxRecDepth 200000 in
theorem mul64_7 (w : World) : Calls Tryz.prog 169 #[.int .u64 1, .int .u64 7] w fun e w' => e = .returned (.tuple #[.int .u64 0, .int .u64 7]) ∧ w' = w := by
  go_enter Tryz.func169, Tryz.ntmps169
  go_wp2
  go_ret2
  exact ⟨rfl, rfl⟩
set_option maxHeartbeats 4000000 in
set_option maxRecDepth 200000 in
theorem mul_7 (w : World) : Calls Tryz.prog 118 #[.int .u64 1, .int .u64 7] w fun e w' => e = .returned (.tuple #[.int .u64 0, .int .u64 7]) ∧ w' = w := by
  go_enter Tryz.func118, Tryz.ntmps118
  go_wp2_with fail
  refine (mul64_7 _).mono ?_
  rintro r w1 ⟨rfl, rfl⟩
  go_wp2
  go_ret2
  exact ⟨rfl, rfl⟩
set_option maxHeartbeats 4000000 in
set_option maxRecDepth 200000 in
theorem repeat_0 (w : World) : Calls Tryz.prog 62 #[.string ⟨#[48]⟩, .int .i64 0] w fun e w' => e = .returned (.string ⟨(List.replicate 0 (48 : UInt8)).toArray⟩) ∧ w' = w := by
  go_enter Tryz.func62, Tryz.ntmps62
  go_wp2
  go_ret
  exact ⟨rfl, rfl⟩
set_option maxHeartbeats 4000000 in
set_option maxRecDepth 200000 in
theorem repeat_1 (w : World) : Calls Tryz.prog 62 #[.string ⟨#[48]⟩, .int .i64 1] w fun e w' => e = .returned (.string ⟨(List.replicate 1 (48 : UInt8)).toArray⟩) ∧ w' = w := by
  go_enter Tryz.func62, Tryz.ntmps62
  go_wp2
  go_ret
  exact ⟨rfl, rfl⟩
set_option maxHeartbeats 4000000 in
set_option maxRecDepth 200000 in
theorem repeat_2 (w : World) : Calls Tryz.prog 62 #[.string ⟨#[48]⟩, .int .i64 2] w fun e w' => e = .returned (.string ⟨(List.replicate 2 (48 : UInt8)).toArray⟩) ∧ w' = w := by
  go_enter Tryz.func62, Tryz.ntmps62
  go_wp2_with fail
  refine (mul_2 _).mono ?_
  rintro r w1 ⟨rfl, rfl⟩
  go_wp2_with fail
  refine (prefix_no32 _ _ (by decide) (by rfl)).mono ?_
  rintro r w1 ⟨rfl, rfl⟩
  go_wp2_with fail
  refine (prefix_no45 _ _ (by decide) (by rfl)).mono ?_
  rintro r w1 ⟨rfl, rfl⟩
  go_wp2_with fail
  refine (prefix_yes _ _ (by decide) (by rfl)).mono ?_
  rintro r w1 ⟨rfl, rfl⟩
  go_wp2
  go_ret
  exact ⟨rfl, rfl⟩
set_option maxHeartbeats 4000000 in
set_option maxRecDepth 200000 in
theorem repeat_3 (w : World) : Calls Tryz.prog 62 #[.string ⟨#[48]⟩, .int .i64 3] w fun e w' => e = .returned (.string ⟨(List.replicate 3 (48 : UInt8)).toArray⟩) ∧ w' = w := by
  go_enter Tryz.func62, Tryz.ntmps62
  go_wp2_with fail
  refine (mul_3 _).mono ?_
  rintro r w1 ⟨rfl, rfl⟩
  go_wp2_with fail
  refine (prefix_no32 _ _ (by decide) (by rfl)).mono ?_
  rintro r w1 ⟨rfl, rfl⟩
  go_wp2_with fail
  refine (prefix_no45 _ _ (by decide) (by rfl)).mono ?_
  rintro r w1 ⟨rfl, rfl⟩
  go_wp2_with fail
  refine (prefix_yes _ _ (by decide) (by rfl)).mono ?_
  rintro r w1 ⟨rfl, rfl⟩
  go_wp2
  go_ret
  exact ⟨rfl, rfl⟩
set_option maxHeartbeats 4000000 in
set_option maxRecDepth 200000 in
theorem repeat_4 (w : World) : Calls Tryz.prog 62 #[.string ⟨#[48]⟩, .int .i64 4] w fun e w' => e = .returned (.string ⟨(List.replicate 4 (48 : UInt8)).toArray⟩) ∧ w' = w := by
  go_enter Tryz.func62, Tryz.ntmps62
  go_wp2_with fail
  refine (mul_4 _).mono ?_
  rintro r w1 ⟨rfl, rfl⟩
  go_wp2_with fail
  refine (prefix_no32 _ _ (by decide) (by rfl)).mono ?_
  rintro r w1 ⟨rfl, rfl⟩
  go_wp2_with fail
  refine (prefix_no45 _ _ (by decide) (by rfl)).mono ?_
  rintro r w1 ⟨rfl, rfl⟩
  go_wp2_with fail
  refine (prefix_yes _ _ (by decide) (by rfl)).mono ?_
  rintro r w1 ⟨rfl, rfl⟩
  go_wp2
  go_ret
  exact ⟨rfl, rfl⟩
set_option maxHeartbeats 4000000 in
set_option maxRecDepth 200000 in
theorem repeat_5 (w : World) : Calls Tryz.prog 62 #[.string ⟨#[48]⟩, .int .i64 5] w fun e w' => e = .returned (.string ⟨(List.replicate 5 (48 : UInt8)).toArray⟩) ∧ w' = w := by
  go_enter Tryz.func62, Tryz.ntmps62
  go_wp2_with fail
  refine (mul_5 _).mono ?_
  rintro r w1 ⟨rfl, rfl⟩
  go_wp2_with fail
  refine (prefix_no32 _ _ (by decide) (by rfl)).mono ?_
  rintro r w1 ⟨rfl, rfl⟩
  go_wp2_with fail
  refine (prefix_no45 _ _ (by decide) (by rfl)).mono ?_
  rintro r w1 ⟨rfl, rfl⟩
  go_wp2_with fail
  refine (prefix_yes _ _ (by decide) (by rfl)).mono ?_
  rintro r w1 ⟨rfl, rfl⟩
  go_wp2
  go_ret
  exact ⟨rfl, rfl⟩
set_option maxHeartbeats 4000000 in
set_option maxRecDepth 200000 in
theorem repeat_6 (w : World) : Calls Tryz.prog 62 #[.string ⟨#[48]⟩, .int .i64 6] w fun e w' => e = .returned (.string ⟨(List.replicate 6 (48 : UInt8)).toArray⟩) ∧ w' = w := by
  go_enter Tryz.func62, Tryz.ntmps62
  go_wp2_with fail
  refine (mul_6 _).mono ?_
  rintro r w1 ⟨rfl, rfl⟩
  go_wp2_with fail
  refine (prefix_no32 _ _ (by decide) (by rfl)).mono ?_
  rintro r w1 ⟨rfl, rfl⟩
  go_wp2_with fail
  refine (prefix_no45 _ _ (by decide) (by rfl)).mono ?_
  rintro r w1 ⟨rfl, rfl⟩
  go_wp2_with fail
  refine (prefix_yes _ _ (by decide) (by rfl)).mono ?_
  rintro r w1 ⟨rfl, rfl⟩
  go_wp2
  go_ret
  exact ⟨rfl, rfl⟩
set_option maxHeartbeats 4000000 in
set_option maxRecDepth 200000 in
theorem repeat_7 (w : World) : Calls Tryz.prog 62 #[.string ⟨#[48]⟩, .int .i64 7] w fun e w' => e = .returned (.string ⟨(List.replicate 7 (48 : UInt8)).toArray⟩) ∧ w' = w := by
  go_enter Tryz.func62, Tryz.ntmps62
  go_wp2_with fail
  refine (mul_7 _).mono ?_
  rintro r w1 ⟨rfl, rfl⟩
  go_wp2_with fail
  refine (prefix_no32 _ _ (by decide) (by rfl)).mono ?_
  rintro r w1 ⟨rfl, rfl⟩
  go_wp2_with fail
  refine (prefix_no45 _ _ (by decide) (by rfl)).mono ?_
  rintro r w1 ⟨rfl, rfl⟩
  go_wp2_with fail
  refine (prefix_yes _ _ (by decide) (by rfl)).mono ?_
  rintro r w1 ⟨rfl, rfl⟩
  go_wp2
  go_ret
  exact ⟨rfl, rfl⟩
theorem repeat0 (c : Nat) (hc : c ≤ 7) (w : World) : Calls Tryz.prog 62 #[.string ⟨#[48]⟩, .int .i64 (c : Int)] w fun e w' => e = .returned (.string ⟨(List.replicate c (48 : UInt8)).toArray⟩) ∧ w' = w := by
  rcases (by omega : c = 0 ∨ c = 1 ∨ c = 2 ∨ c = 3 ∨ c = 4 ∨ c = 5 ∨ c = 6 ∨ c = 7) with h | h | h | h | h | h | h | h <;> subst h
  · exact repeat_0 w
  · exact repeat_1 w
  · exact repeat_2 w
  · exact repeat_3 w
  · exact repeat_4 w
  · exact repeat_5 w
  · exact repeat_6 w
  · exact repeat_7 w
end Go.Proofs.YtmhpicccfaklcaaGreatDoor

/- Show, of any number. -/
namespace Go.Proofs.YtmhpicccfaklcaaGreatDoor
set_option linter.unusedVariables false
set_option linter.unusedSimpArgs false
open Go.RowKit

theorem div_B (x j : Nat) : x / B ^ j = (x / B ^ (j + 1)) * B + dg x j := by
  unfold dg
  rw [Nat.pow_succ, ← Nat.div_div_eq_div_mul, Nat.mul_comm]
  exact (Nat.div_add_mod _ _).symm
theorem hexN_dg {x j : Nat} (h : x / B ^ (j + 1) ≠ 0) : hexN (x / B ^ j) = hexN (x / B ^ (j + 1)) ++ hexL (dg x j) 7 := by
  rw [div_B, show B = 16 ^ (7 + 1) from rfl]
  exact hexN_more 7 _ _ h (dg_lt x j)
theorem div_top {x m : Nat} (h : dlen x = m + 1) : x / B ^ m = dg x m ∧ dg x m ≠ 0 := by
  have h1 : x < B ^ (m + 1) := (dlen_le (m + 1) x).1 (by omega)
  have h2 : x / B ^ m < B := by rw [Nat.pow_succ] at h1; exact Nat.div_lt_of_lt_mul h1
  refine ⟨(Nat.mod_eq_of_lt h2).symm, ?_⟩
  have := dg_top (x := x) (by rintro rfl; rw [dlen_zero] at h; omega)
  rw [h] at this
  exact this
theorem bc_len (l : List UInt8) : (Lib.byteCells l).length = l.length := by simp [Lib.byteCells]
theorem div_ne {x m j : Nat} (h : dlen x = m + 1) (hj : j ≤ m) : x / B ^ j ≠ 0 := by
  have h1 := div_top h
  have h2 : x / B ^ m ≤ x / B ^ j := Nat.div_le_div_left (Nat.pow_le_pow_right B_pos hj) (Nat.pow_pos B_pos)
  omega
theorem hexN_dlen {x n : Nat} (h : dlen x ≤ n) (j : Nat) : (hexN (x / B ^ j)).length ≤ 8 * n := by
  refine hexN_len _ _ ?_
  have h1 : x < B ^ n := (dlen_le n x).1 h
  have e : B ^ n = 16 ^ (8 * n) := by rw [Nat.pow_mul]; rfl
  rw [← e]
  exact Nat.lt_of_le_of_lt (Nat.div_le_self _ _) h1
/-- FormatUint's text, at base 16 -/
theorem fmt16 (u : Nat) (w : World) (hT : Ie.Tab w) (hu : u < 4294967296) :
    Calls Tryz.prog 61 #[.int .u64 u, .int .i64 16] w fun e w' => ∃ s : ByteArray, e = .returned (.string s) ∧ (1 ≤ s.size ∧ s.size ≤ 8) ∧ Hid (∃ L : List UInt8, s = ⟨L.toArray⟩ ∧ (u ≠ 0 → L = hexN u) ∧ List.replicate (8 - L.length) 48 ++ L = hexL u 7) ∧ Below w.heap.size w w' := by
  refine (c81 u w hT hu).mono ?_
  rintro e w' ⟨j, h1, h2, rfl, hb⟩
  have hj : j ≤ 7 := by
    rcases h2 with h2 | h2
    · omega
    · refine Nat.le_of_not_lt fun h7 => ?_
      have h3 : 16 ^ 7 ≤ 16 ^ (j - 1) := Nat.pow_le_pow_right (by omega) (by omega)
      have h4 : u / 16 ^ (j - 1) ≤ u / 16 ^ 7 := Nat.div_le_div_left h3 (by omega)
      have : u / 16 ^ 7 < 16 := by omega
      omega
  have hl : u < 16 ^ (j + 1) := by
    have := (Nat.div_lt_iff_lt_mul (Nat.pow_pos (by omega) : 0 < 16 ^ j)).1 h1
    rw [Nat.pow_succ, Nat.mul_comm]
    exact this
  refine ⟨_, rfl, by simp [ByteArray.size, hexL_length]; omega, ⟨hexL u j, rfl, fun h0 => hexL_hexN j u h1 h0 h2, hexL_wide hl hj⟩, hb⟩
set_option maxHeartbeats 4000000 in
set_option maxRecDepth 200000 in
theorem show_pos (b o uc m x : Nat) (ea : Int) (T : List UInt8) (w : World) (hcell : ∀ i, i < m + 1 → w.cell? ⟨b, o + i, none⟩ = some (.int .u32 (dg x i : Nat))) (hx : dlen x = m + 1) (hm : m ≤ 100000) (hT : T.length ≤ 1000) (huc : m + 1 ≤ uc) (hI : Ie.Tab w)
    (k43 : ∀ W g, Below w.heap.size w W → W.heap[g]? = some (.cells #[.bool false, .slice (some ⟨b, o, none⟩) (m + 1) uc, .int .i64 ea] 25 (0, 0)) → Calls Tryz.prog 47 #[.slice (some ⟨g, 0, none⟩) 1 1] W fun r w' => r = .returned (.bool true) ∧ Below W.heap.size W w')
    (k74 : ∀ W, Below w.heap.size w W → Calls Tryz.prog 63 #[.int .i64 ea] W fun e w' => e = .returned (.string ⟨T.toArray⟩) ∧ Below W.heap.size W w') :
    Calls Tryz.prog 25 #[.agg #[.bool false, .slice (some ⟨b, o, none⟩) (m + 1) uc, .int .i64 ea]] w fun e w' => e = .returned (.string ⟨([] ++ hexN x ++ 112 :: T).toArray⟩) ∧ Below w.heap.size w w' := by
  obtain ⟨W, hW⟩ : ∃ W, W = w.alloc (.cells #[.bool false, .slice (some ⟨b, o, none⟩) (m + 1) uc, .int .i64 ea] 25) := ⟨_, rfl⟩
  have hBW : Below w.heap.size w W := by rw [hW]; exact (Below.refl _ _).alloc (Nat.le_refl _) _
  have hsz : W.heap.size = w.heap.size + 1 := by rw [hW]; simp
  have hbx : W.heap[w.heap.size]? = some (.cells #[.bool false, .slice (some ⟨b, o, none⟩) (m + 1) uc, .int .i64 ea] 25 (0, 0)) := by rw [hW]; exact heap_alloc_new _ _
  have HX : Hid (Below w.heap.size w W) := hBW
  have HCL : Hid (∀ W', Below W.heap.size W W' → (W'.cell? ⟨w.heap.size, 0, none⟩ = some (.bool false) ∧ W'.cell? ⟨w.heap.size, 1, none⟩ = some (.slice (some ⟨b, o, none⟩) (m + 1) uc) ∧ W'.cell? ⟨w.heap.size, 2, none⟩ = some (.int .i64 ea)) ∧ (∀ i, i < m + 1 → W'.cell? ⟨b, o + i, none⟩ = some (.int .u32 (dg x i : Nat))) ∧ Below w.heap.size w W' ∧ Ie.Tab W') := fun W' h =>
    ⟨(box_cells (box_later hbx h (by omega))).1, fun i hi => by
      have hc := hcell i hi
      have hlt : b < w.heap.size := World.block_lt_of_cell? _ _ hc
      exact ((h.cell (p := ⟨b, o + i, none⟩) (by show b < W.heap.size; omega)).trans (hBW.cell hlt)).trans hc, hBW.trans (h.mono hBW.size), Tab.later hI (hBW.trans (h.mono hBW.size))⟩
  have k1 := k43 (W.alloc (.cells #[.bool false, .slice (some ⟨b, o, none⟩) (m + 1) uc, .int .i64 ea] 25)) (w.heap.size + 1) (hBW.alloc hBW.size _) (by rw [← hsz]; exact heap_alloc_new _ _)
  have HK74 : Hid (∀ W, Below w.heap.size w W → Calls Tryz.prog 63 #[.int .i64 ea] W fun e w' => e = .returned (.string ⟨T.toArray⟩) ∧ Below W.heap.size W w') := k74
  have HL : Hid (T.length ≤ 1000 ∧ dlen x = m + 1 ∧ m ≤ 100000) := ⟨hT, hx, hm⟩
  have HDg : Hid (∀ i, dg x i < 4294967296) := fun i => dg_lt x i
  have hdw : IntKind.u64.wrap (dg x m : Int) = (dg x m : Int) := by have := HDg.out m; rw [IntKind.wrap_u64]; omega
  clear hBW hsz hbx hcell k43 k74 hT hI hx
  go_enter Tryz.func25, Tryz.ntmps25
  go_wp2_with fail
  rw [← hW]
  clear hW
  refine k1.mono ?_
  rintro r w1 ⟨rfl, hb1⟩
  clear k1
  have HB1 : Hid (Below W.heap.size W w1) := ((Below.refl W.heap.size W).alloc (Nat.le_refl _) _).trans (hb1.mono (by simp))
  clear hb1
  obtain ⟨⟨x0, x1, x2⟩, x3, -⟩ := HCL.out w1 HB1.out
  have x4 := x3 m (by omega)
  clear x3
  obtain ⟨W2, hW2⟩ : ∃ W2, W2 = w1.alloc (.cells #[.pointer none, .slice none 0 0] 72) := ⟨_, rfl⟩
  have HD0 : Hid (Bd w1.heap.size w1.heap.size (Lib.byteCells []) W2 ∧ Below w1.heap.size w1 W2) := ⟨by rw [hW2]; exact Bd.new w1, by rw [hW2]; exact (Below.refl _ _).alloc (Nat.le_refl _) _⟩
  obtain ⟨⟨y0, y1, y2⟩, y3, y4, y5⟩ := HCL.out W2 (HB1.out.trans (HD0.out.2.mono HB1.out.size))
  have y6 := y3 m (by omega)
  have k3 := fmt16 (dg x m) W2 y5 (HDg.out m)
  clear y3 y4 y5
  rw [hW2] at y0 y1 y2 y6
  go_wp2_with fail
  rw [← hW2]
  clear hW2
  refine k3.mono ?_
  rintro r w3 ⟨s3, rfl, hs3, hL3, hb3⟩
  have HD3 : Hid (Bd w1.heap.size w1.heap.size (Lib.byteCells []) w3 ∧ Below w1.heap.size w1 w3) := ⟨HD0.out.1.later hb3, HD0.out.2.trans (hb3.mono HD0.out.2.size)⟩
  clear k3 hb3 y0 y1 y2 y6 x0 x1 x2 x4
  have k4 := c71 s3 HD3.out.1 (by simp [Lib.byteCells]; omega) HD3.out.2.size
  go_wp2_with fail
  refine k4.mono ?_
  rintro r w4 ⟨rfl, hd4, hb4⟩
  have HD4 : Hid (Bd w1.heap.size w1.heap.size (Lib.byteCells ([] ++ hexN (x / B ^ m))) w4 ∧ Below w1.heap.size w1 w4) := ⟨by
    obtain ⟨L, hL, hL1, -⟩ := hL3.out
    have h5 := div_top HL.out.2.1
    rw [h5.1, ← hL1 h5.2]
    rw [hL] at hd4
    have e : Lib.byteCells [] ++ Lib.strCells ⟨L.toArray⟩ = Lib.byteCells ([] ++ L) := by simp [Lib.byteCells, Lib.strCells]
    rwa [e] at hd4, HD3.out.2.trans hb4⟩
  clear k4 hd4 hb4 hL3 hs3
  go_wp2_with fail
  go_loopw [5] (fun v wr => ∃ j : Nat, v = .int .i64 ((j : Int) - 1) ∧ j ≤ m ∧ Hid (Bd w1.heap.size w1.heap.size (Lib.byteCells ([] ++ hexN (x / B ^ j))) wr ∧ Below w1.heap.size w1 wr)) (fun v _ => (intOf v + 1).toNat)
  case atStart => exact ⟨m, rfl, by omega, HD4.out⟩
  case round =>
    obtain ⟨j, rfl, hj, HD⟩ := hrel
    clear HD4 HD3 HD0 
    by_cases hj0 : j = 0
    · subst hj0
      have HD4 : Hid (Bd w1.heap.size w1.heap.size (Lib.byteCells ([] ++ hexN x)) wr ∧ Below w1.heap.size w1 wr) := by have := HD.out; rw [Nat.pow_zero, Nat.div_one] at this; exact this
      have hlen : (hexN x).length ≤ 900000 := by have := hexN_dlen (x := x) (n := m + 1) (by have := HL.out.2.1; omega) 0; rw [Nat.pow_zero, Nat.div_one] at this; omega
      have HLN : Hid ((hexN x).length ≤ 900000) := hlen
      clear HD hlen
      have k5 := c70 112 HD4.out.1 (by have := HLN.out; simp [Lib.byteCells]; omega) HD4.out.2.size
      go_wp2_with fail
      refine k5.mono ?_
      rintro r w5 ⟨rfl, hd5, hb5⟩
      have HD5 : Hid (Bd w1.heap.size w1.heap.size (Lib.byteCells ([] ++ hexN x) ++ [.int .u8 112]) w5 ∧ Below w1.heap.size w1 w5) := ⟨hd5, HD4.out.2.trans hb5⟩
      clear k5 hd5 hb5
      obtain ⟨⟨z0, z1, z2⟩, z3, z4, -⟩ := HCL.out w5 (HB1.out.trans (HD5.out.2.mono HB1.out.size))
      have k6 := HK74.out w5 z4
      clear z3 z4
      go_wp2_with fail
      refine k6.mono ?_
      rintro r w6 ⟨rfl, hb6⟩
      have HD6 : Hid (Bd w1.heap.size w1.heap.size (Lib.byteCells ([] ++ hexN x) ++ [.int .u8 112]) w6 ∧ Below w1.heap.size w1 w6) := ⟨HD5.out.1.later hb6, HD5.out.2.trans (hb6.mono HD5.out.2.size)⟩
      clear k6 hb6
      have k7 := c71 ⟨T.toArray⟩ HD6.out.1 (by have := HLN.out; have := HL.out.1; simp [Lib.byteCells, ByteArray.size]; omega) HD6.out.2.size
      go_wp2_with fail
      refine k7.mono ?_
      rintro r w7 ⟨rfl, hd7, hb7⟩
      have e7 : Lib.byteCells ([] ++ hexN x) ++ [.int .u8 112] ++ Lib.strCells ⟨T.toArray⟩ = Lib.byteCells ([] ++ hexN x ++ 112 :: T) := by simp [Lib.byteCells, Lib.strCells]
      rw [e7] at hd7
      have HB7 : Hid (Below w1.heap.size w1 w7) := HD6.out.2.trans hb7
      have k8 := Tryz.Builder_String _ _ _ _ hd7 (by simp)
      clear k7 hd7 hb7
      obtain ⟨R, hR⟩ : ∃ R : ByteArray, R = ⟨([] ++ hexN x ++ 112 :: T).toArray⟩ := ⟨_, rfl⟩
      rw [← hR] at k8
      go_wp2_with fail
      refine k8.mono ?_
      rintro r w8 ⟨rfl, hb8⟩
      have HB8 : Hid (Below w.heap.size w w8) := (HCL.out w8 (HB1.out.trans ((HB7.out.trans hb8).mono HB1.out.size))).2.2.1
      have HR : Hid (R = ⟨([] ++ hexN x ++ 112 :: T).toArray⟩) := hR
      clear k8 hb8 hR
      go_wp2_with fail
      go_ret
      exact ⟨congrArg (fun q => Ending.returned (Value.string q)) HR.out, HB8.out⟩
    · obtain ⟨k, rfl⟩ : ∃ k, j = k + 1 := ⟨j - 1, by omega⟩
      rw [show ((k + 1 : Nat) : Int) - 1 = (k : Int) by omega]
      clear hj0
      obtain ⟨⟨y0, y1, y2⟩, y3, -, y5⟩ := HCL.out wr (HB1.out.trans (HD.out.2.mono HB1.out.size))
      have y6 := y3 k (by omega)
      have k3 := fmt16 (dg x k) wr y5 (HDg.out k)
      obtain ⟨LH, hLH⟩ : ∃ L : List UInt8, L = hexN (x / B ^ (k + 1)) := ⟨_, rfl⟩
      have hlen : LH.length ≤ 900000 := by have h8 := hexN_dlen (x := x) (n := m + 1) (by have := HL.out.2.1; omega) (k + 1); rw [← hLH] at h8; omega
      rw [← hLH] at HD
      have HLH : Hid (LH = hexN (x / B ^ (k + 1))) := hLH
      clear hLH
      clear y3 y5 hdw
      have hdw : IntKind.u64.wrap (dg x k : Int) = (dg x k : Int) := by have := HDg.out k; rw [IntKind.wrap_u64]; omega
      go_wp2_with fail
      refine k3.mono ?_
      rintro r w5 ⟨s5, rfl, hs5, hL5, hb5⟩
      have HD5 : Hid (Bd w1.heap.size w1.heap.size (Lib.byteCells ([] ++ LH)) w5 ∧ Below w1.heap.size w1 w5) := ⟨HD.out.1.later hb5, HD.out.2.trans (hb5.mono HD.out.2.size)⟩
      clear k3 hb5 y0 y1 y2 y6 HD
      obtain ⟨c5, hc5⟩ : ∃ c : Nat, c = 8 - s5.size := ⟨_, rfl⟩
      have hw5 : (8 : Int) - (s5.size : Int) = (c5 : Int) := by omega
      have hc7 : c5 ≤ 7 := by omega
      have HC5 : Hid (c5 = 8 - s5.size) := hc5
      clear hc5
      obtain ⟨z5, hz5⟩ : ∃ z : ByteArray, z = ⟨(List.replicate c5 (48 : UInt8)).toArray⟩ := ⟨_, rfl⟩
      have kr := repeat0 c5 hc7 w5
      rw [← hz5] at kr
      have hzs : z5.size = c5 := by rw [hz5]; simp [ByteArray.size]
      have HZ5 : Hid (z5 = ⟨(List.replicate c5 (48 : UInt8)).toArray⟩) := hz5
      clear hz5
      go_wp2_with fail
      refine kr.mono ?_
      rintro r w6 ⟨rfl, rfl⟩
      have k7 := c71 z5 HD5.out.1 (by rw [bc_len, List.length_append]; simp only [List.length_nil, List.length_cons]; omega) HD5.out.2.size
      clear kr
      go_wp2_with fail
      refine k7.mono ?_
      rintro r w7 ⟨rfl, hd7, hb7⟩
      have HD7 : Hid (Bd w1.heap.size w1.heap.size (Lib.byteCells ([] ++ LH) ++ Lib.strCells z5) w7 ∧ Below w1.heap.size w1 w7) := ⟨hd7, HD5.out.2.trans hb7⟩
      clear k7 hd7 hb7
      have k8 := c71 s5 HD7.out.1 (by rw [List.length_append, bc_len, List.length_append, Lib.strCells_length]; simp only [List.length_nil, List.length_cons]; omega) HD7.out.2.size
      go_wp2_with fail
      refine k8.mono ?_
      rintro r w8 ⟨rfl, hd8, hb8⟩
      have HD8 : Hid (Bd w1.heap.size w1.heap.size (Lib.byteCells ([] ++ hexN (x / B ^ k))) w8 ∧ Below w1.heap.size w1 w8) := ⟨by
        obtain ⟨L, hL, -, hL2⟩ := hL5.out
        rw [hexN_dg (div_ne HL.out.2.1 hj), ← hL2, ← HLH.out]
        have hcl : c5 = 8 - L.length := by have := HC5.out; rw [hL] at this; simpa [ByteArray.size] using this
        rw [← hcl]
        rw [hL, HZ5.out] at hd8
        have e : Lib.byteCells ([] ++ LH) ++ Lib.strCells ⟨(List.replicate c5 (48 : UInt8)).toArray⟩ ++ Lib.strCells ⟨L.toArray⟩ = Lib.byteCells ([] ++ (LH ++ (List.replicate c5 48 ++ L))) := by simp [Lib.byteCells, Lib.strCells]
        rwa [e] at hd8, HD7.out.2.trans hb8⟩
      clear k8 hd8 hb8 hL5 HD7 HD5
      go_wp2
      exact ⟨⟨k, by simp, by omega, HD8⟩, by simp [intOf]⟩
set_option maxHeartbeats 4000000 in
set_option maxRecDepth 200000 in
theorem show_neg (b o uc m x : Nat) (ea : Int) (T : List UInt8) (w : World) (hcell : ∀ i, i < m + 1 → w.cell? ⟨b, o + i, none⟩ = some (.int .u32 (dg x i : Nat))) (hx : dlen x = m + 1) (hm : m ≤ 100000) (hT : T.length ≤ 1000) (huc : m + 1 ≤ uc) (hI : Ie.Tab w)
    (k43 : ∀ W g, Below w.heap.size w W → W.heap[g]? = some (.cells #[.bool true, .slice (some ⟨b, o, none⟩) (m + 1) uc, .int .i64 ea] 25 (0, 0)) → Calls Tryz.prog 47 #[.slice (some ⟨g, 0, none⟩) 1 1] W fun r w' => r = .returned (.bool true) ∧ Below W.heap.size W w')
    (k74 : ∀ W, Below w.heap.size w W → Calls Tryz.prog 63 #[.int .i64 ea] W fun e w' => e = .returned (.string ⟨T.toArray⟩) ∧ Below W.heap.size W w') :
    Calls Tryz.prog 25 #[.agg #[.bool true, .slice (some ⟨b, o, none⟩) (m + 1) uc, .int .i64 ea]] w fun e w' => e = .returned (.string ⟨([45] ++ hexN x ++ 112 :: T).toArray⟩) ∧ Below w.heap.size w w' := by
  obtain ⟨W, hW⟩ : ∃ W, W = w.alloc (.cells #[.bool true, .slice (some ⟨b, o, none⟩) (m + 1) uc, .int .i64 ea] 25) := ⟨_, rfl⟩
  have hBW : Below w.heap.size w W := by rw [hW]; exact (Below.refl _ _).alloc (Nat.le_refl _) _
  have hsz : W.heap.size = w.heap.size + 1 := by rw [hW]; simp
  have hbx : W.heap[w.heap.size]? = some (.cells #[.bool true, .slice (some ⟨b, o, none⟩) (m + 1) uc, .int .i64 ea] 25 (0, 0)) := by rw [hW]; exact heap_alloc_new _ _
  have HX : Hid (Below w.heap.size w W) := hBW
  have HCL : Hid (∀ W', Below W.heap.size W W' → (W'.cell? ⟨w.heap.size, 0, none⟩ = some (.bool true) ∧ W'.cell? ⟨w.heap.size, 1, none⟩ = some (.slice (some ⟨b, o, none⟩) (m + 1) uc) ∧ W'.cell? ⟨w.heap.size, 2, none⟩ = some (.int .i64 ea)) ∧ (∀ i, i < m + 1 → W'.cell? ⟨b, o + i, none⟩ = some (.int .u32 (dg x i : Nat))) ∧ Below w.heap.size w W' ∧ Ie.Tab W') := fun W' h =>
    ⟨(box_cells (box_later hbx h (by omega))).1, fun i hi => by
      have hc := hcell i hi
      have hlt : b < w.heap.size := World.block_lt_of_cell? _ _ hc
      exact ((h.cell (p := ⟨b, o + i, none⟩) (by show b < W.heap.size; omega)).trans (hBW.cell hlt)).trans hc, hBW.trans (h.mono hBW.size), Tab.later hI (hBW.trans (h.mono hBW.size))⟩
  have k1 := k43 (W.alloc (.cells #[.bool true, .slice (some ⟨b, o, none⟩) (m + 1) uc, .int .i64 ea] 25)) (w.heap.size + 1) (hBW.alloc hBW.size _) (by rw [← hsz]; exact heap_alloc_new _ _)
  have HK74 : Hid (∀ W, Below w.heap.size w W → Calls Tryz.prog 63 #[.int .i64 ea] W fun e w' => e = .returned (.string ⟨T.toArray⟩) ∧ Below W.heap.size W w') := k74
  have HL : Hid (T.length ≤ 1000 ∧ dlen x = m + 1 ∧ m ≤ 100000) := ⟨hT, hx, hm⟩
  have HDg : Hid (∀ i, dg x i < 4294967296) := fun i => dg_lt x i
  have hdw : IntKind.u64.wrap (dg x m : Int) = (dg x m : Int) := by have := HDg.out m; rw [IntKind.wrap_u64]; omega
  clear hBW hsz hbx hcell k43 k74 hT hI hx
  go_enter Tryz.func25, Tryz.ntmps25
  go_wp2_with fail
  rw [← hW]
  clear hW
  refine k1.mono ?_
  rintro r w1 ⟨rfl, hb1⟩
  clear k1
  have HB1 : Hid (Below W.heap.size W w1) := ((Below.refl W.heap.size W).alloc (Nat.le_refl _) _).trans (hb1.mono (by simp))
  clear hb1
  obtain ⟨⟨x0, x1, x2⟩, x3, -⟩ := HCL.out w1 HB1.out
  have x4 := x3 m (by omega)
  clear x3
  obtain ⟨W2, hW2⟩ : ∃ W2, W2 = w1.alloc (.cells #[.pointer none, .slice none 0 0] 72) := ⟨_, rfl⟩
  have HD0 : Hid (Bd w1.heap.size w1.heap.size (Lib.byteCells []) W2 ∧ Below w1.heap.size w1 W2) := ⟨by rw [hW2]; exact Bd.new w1, by rw [hW2]; exact (Below.refl _ _).alloc (Nat.le_refl _) _⟩
  obtain ⟨⟨y0, y1, y2⟩, -⟩ := HCL.out W2 (HB1.out.trans (HD0.out.2.mono HB1.out.size))
  rw [hW2] at y0 y1 y2
  have k2 := c70 45 HD0.out.1 (by simp [Lib.byteCells]) HD0.out.2.size
  rw [show Lib.byteCells [] ++ [Value.int .u8 45] = Lib.byteCells [45] from rfl] at k2
  rw [hW2] at k2
  go_wp2_with fail
  refine k2.mono ?_
  rintro r w2 ⟨rfl, hd2, hb2⟩
  rw [← hW2] at hb2
  have HD2 : Hid (Bd w1.heap.size w1.heap.size (Lib.byteCells [45]) w2 ∧ Below w1.heap.size w1 w2) := ⟨hd2, HD0.out.2.trans hb2⟩
  clear k2 hd2 hb2 hW2 y0 y1 y2
  obtain ⟨⟨y0, y1, y2⟩, y3, y4, y5⟩ := HCL.out w2 (HB1.out.trans (HD2.out.2.mono HB1.out.size))
  have y6 := y3 m (by omega)
  have k3 := fmt16 (dg x m) w2 y5 (HDg.out m)
  clear y3 y4 y5
  go_wp2_with fail
  refine k3.mono ?_
  rintro r w3 ⟨s3, rfl, hs3, hL3, hb3⟩
  have HD3 : Hid (Bd w1.heap.size w1.heap.size (Lib.byteCells [45]) w3 ∧ Below w1.heap.size w1 w3) := ⟨HD2.out.1.later hb3, HD2.out.2.trans (hb3.mono HD2.out.2.size)⟩
  clear k3 hb3 y0 y1 y2 y6 x0 x1 x2 x4
  have k4 := c71 s3 HD3.out.1 (by simp [Lib.byteCells]; omega) HD3.out.2.size
  go_wp2_with fail
  refine k4.mono ?_
  rintro r w4 ⟨rfl, hd4, hb4⟩
  have HD4 : Hid (Bd w1.heap.size w1.heap.size (Lib.byteCells ([45] ++ hexN (x / B ^ m))) w4 ∧ Below w1.heap.size w1 w4) := ⟨by
    obtain ⟨L, hL, hL1, -⟩ := hL3.out
    have h5 := div_top HL.out.2.1
    rw [h5.1, ← hL1 h5.2]
    rw [hL] at hd4
    have e : Lib.byteCells [45] ++ Lib.strCells ⟨L.toArray⟩ = Lib.byteCells ([45] ++ L) := by simp [Lib.byteCells, Lib.strCells]
    rwa [e] at hd4, HD3.out.2.trans hb4⟩
  clear k4 hd4 hb4 hL3 hs3
  go_wp2_with fail
  go_loopw [5] (fun v wr => ∃ j : Nat, v = .int .i64 ((j : Int) - 1) ∧ j ≤ m ∧ Hid (Bd w1.heap.size w1.heap.size (Lib.byteCells ([45] ++ hexN (x / B ^ j))) wr ∧ Below w1.heap.size w1 wr)) (fun v _ => (intOf v + 1).toNat)
  case atStart => exact ⟨m, rfl, by omega, HD4.out⟩
  case round =>
    obtain ⟨j, rfl, hj, HD⟩ := hrel
    clear HD4 HD3 HD2 HD0
    by_cases hj0 : j = 0
    · subst hj0
      have HD4 : Hid (Bd w1.heap.size w1.heap.size (Lib.byteCells ([45] ++ hexN x)) wr ∧ Below w1.heap.size w1 wr) := by have := HD.out; rw [Nat.pow_zero, Nat.div_one] at this; exact this
      have hlen : (hexN x).length ≤ 900000 := by have := hexN_dlen (x := x) (n := m + 1) (by have := HL.out.2.1; omega) 0; rw [Nat.pow_zero, Nat.div_one] at this; omega
      have HLN : Hid ((hexN x).length ≤ 900000) := hlen
      clear HD hlen
      have k5 := c70 112 HD4.out.1 (by have := HLN.out; simp [Lib.byteCells]; omega) HD4.out.2.size
      go_wp2_with fail
      refine k5.mono ?_
      rintro r w5 ⟨rfl, hd5, hb5⟩
      have HD5 : Hid (Bd w1.heap.size w1.heap.size (Lib.byteCells ([45] ++ hexN x) ++ [.int .u8 112]) w5 ∧ Below w1.heap.size w1 w5) := ⟨hd5, HD4.out.2.trans hb5⟩
      clear k5 hd5 hb5
      obtain ⟨⟨z0, z1, z2⟩, z3, z4, -⟩ := HCL.out w5 (HB1.out.trans (HD5.out.2.mono HB1.out.size))
      have k6 := HK74.out w5 z4
      clear z3 z4
      go_wp2_with fail
      refine k6.mono ?_
      rintro r w6 ⟨rfl, hb6⟩
      have HD6 : Hid (Bd w1.heap.size w1.heap.size (Lib.byteCells ([45] ++ hexN x) ++ [.int .u8 112]) w6 ∧ Below w1.heap.size w1 w6) := ⟨HD5.out.1.later hb6, HD5.out.2.trans (hb6.mono HD5.out.2.size)⟩
      clear k6 hb6
      have k7 := c71 ⟨T.toArray⟩ HD6.out.1 (by have := HLN.out; have := HL.out.1; simp [Lib.byteCells, ByteArray.size]; omega) HD6.out.2.size
      go_wp2_with fail
      refine k7.mono ?_
      rintro r w7 ⟨rfl, hd7, hb7⟩
      have e7 : Lib.byteCells ([45] ++ hexN x) ++ [.int .u8 112] ++ Lib.strCells ⟨T.toArray⟩ = Lib.byteCells ([45] ++ hexN x ++ 112 :: T) := by simp [Lib.byteCells, Lib.strCells]
      rw [e7] at hd7
      have HB7 : Hid (Below w1.heap.size w1 w7) := HD6.out.2.trans hb7
      have k8 := Tryz.Builder_String _ _ _ _ hd7 (by simp)
      clear k7 hd7 hb7
      obtain ⟨R, hR⟩ : ∃ R : ByteArray, R = ⟨([45] ++ hexN x ++ 112 :: T).toArray⟩ := ⟨_, rfl⟩
      rw [← hR] at k8
      go_wp2_with fail
      refine k8.mono ?_
      rintro r w8 ⟨rfl, hb8⟩
      have HB8 : Hid (Below w.heap.size w w8) := (HCL.out w8 (HB1.out.trans ((HB7.out.trans hb8).mono HB1.out.size))).2.2.1
      have HR : Hid (R = ⟨([45] ++ hexN x ++ 112 :: T).toArray⟩) := hR
      clear k8 hb8 hR
      go_wp2_with fail
      go_ret
      exact ⟨congrArg (fun q => Ending.returned (Value.string q)) HR.out, HB8.out⟩
    · obtain ⟨k, rfl⟩ : ∃ k, j = k + 1 := ⟨j - 1, by omega⟩
      rw [show ((k + 1 : Nat) : Int) - 1 = (k : Int) by omega]
      clear hj0
      obtain ⟨⟨y0, y1, y2⟩, y3, -, y5⟩ := HCL.out wr (HB1.out.trans (HD.out.2.mono HB1.out.size))
      have y6 := y3 k (by omega)
      have k3 := fmt16 (dg x k) wr y5 (HDg.out k)
      obtain ⟨LH, hLH⟩ : ∃ L : List UInt8, L = hexN (x / B ^ (k + 1)) := ⟨_, rfl⟩
      have hlen : LH.length ≤ 900000 := by have h8 := hexN_dlen (x := x) (n := m + 1) (by have := HL.out.2.1; omega) (k + 1); rw [← hLH] at h8; omega
      rw [← hLH] at HD
      have HLH : Hid (LH = hexN (x / B ^ (k + 1))) := hLH
      clear hLH
      clear y3 y5 hdw
      have hdw : IntKind.u64.wrap (dg x k : Int) = (dg x k : Int) := by have := HDg.out k; rw [IntKind.wrap_u64]; omega
      go_wp2_with fail
      refine k3.mono ?_
      rintro r w5 ⟨s5, rfl, hs5, hL5, hb5⟩
      have HD5 : Hid (Bd w1.heap.size w1.heap.size (Lib.byteCells ([45] ++ LH)) w5 ∧ Below w1.heap.size w1 w5) := ⟨HD.out.1.later hb5, HD.out.2.trans (hb5.mono HD.out.2.size)⟩
      clear k3 hb5 y0 y1 y2 y6 HD
      obtain ⟨c5, hc5⟩ : ∃ c : Nat, c = 8 - s5.size := ⟨_, rfl⟩
      have hw5 : (8 : Int) - (s5.size : Int) = (c5 : Int) := by omega
      have hc7 : c5 ≤ 7 := by omega
      have HC5 : Hid (c5 = 8 - s5.size) := hc5
      clear hc5
      obtain ⟨z5, hz5⟩ : ∃ z : ByteArray, z = ⟨(List.replicate c5 (48 : UInt8)).toArray⟩ := ⟨_, rfl⟩
      have kr := repeat0 c5 hc7 w5
      rw [← hz5] at kr
      have hzs : z5.size = c5 := by rw [hz5]; simp [ByteArray.size]
      have HZ5 : Hid (z5 = ⟨(List.replicate c5 (48 : UInt8)).toArray⟩) := hz5
      clear hz5
      go_wp2_with fail
      refine kr.mono ?_
      rintro r w6 ⟨rfl, rfl⟩
      have k7 := c71 z5 HD5.out.1 (by rw [bc_len, List.length_append]; simp only [List.length_nil, List.length_cons]; omega) HD5.out.2.size
      clear kr
      go_wp2_with fail
      refine k7.mono ?_
      rintro r w7 ⟨rfl, hd7, hb7⟩
      have HD7 : Hid (Bd w1.heap.size w1.heap.size (Lib.byteCells ([45] ++ LH) ++ Lib.strCells z5) w7 ∧ Below w1.heap.size w1 w7) := ⟨hd7, HD5.out.2.trans hb7⟩
      clear k7 hd7 hb7
      have k8 := c71 s5 HD7.out.1 (by rw [List.length_append, bc_len, List.length_append, Lib.strCells_length]; simp only [List.length_nil, List.length_cons]; omega) HD7.out.2.size
      go_wp2_with fail
      refine k8.mono ?_
      rintro r w8 ⟨rfl, hd8, hb8⟩
      have HD8 : Hid (Bd w1.heap.size w1.heap.size (Lib.byteCells ([45] ++ hexN (x / B ^ k))) w8 ∧ Below w1.heap.size w1 w8) := ⟨by
        obtain ⟨L, hL, -, hL2⟩ := hL5.out
        rw [hexN_dg (div_ne HL.out.2.1 hj), ← hL2, ← HLH.out]
        have hcl : c5 = 8 - L.length := by have := HC5.out; rw [hL] at this; simpa [ByteArray.size] using this
        rw [← hcl]
        rw [hL, HZ5.out] at hd8
        have e : Lib.byteCells ([45] ++ LH) ++ Lib.strCells ⟨(List.replicate c5 (48 : UInt8)).toArray⟩ ++ Lib.strCells ⟨L.toArray⟩ = Lib.byteCells ([45] ++ (LH ++ (List.replicate c5 48 ++ L))) := by simp [Lib.byteCells, Lib.strCells]
        rwa [e] at hd8, HD7.out.2.trans hb8⟩
      clear k8 hd8 hb8 hL5 HD7 HD5
      go_wp2
      exact ⟨⟨k, by simp, by omega, HD8⟩, by simp [intOf]⟩
end Go.Proofs.YtmhpicccfaklcaaGreatDoor

/- The document's and the program's Add, Sub, Mul, Shift, of all numbers. -/
namespace Go.Proofs.YtmhpicccfaklcaaGreatDoor
set_option linter.unusedVariables false
set_option linter.unusedSimpArgs false
open Go.RowKit

theorem okN_len {s : Bool} {n z : Nat} {e : Int} (hz : dlen z ≤ n) (h : okN s n z e = true) : dlen z = n := by
  refine dlen_here hz ?_
  by_cases h0 : n = 0
  · exact .inl h0
  · right
    unfold okN at h
    rw [if_neg h0] at h
    simp only [Bool.and_eq_true, bne_iff_ne, ne_eq] at h
    exact h.1.1.1.2

/-- the second number turned -/
def ngT (nb : Bool) (y : Nat) : Bool := !nb && decide (0 < dlen y)
theorem ok_ng {nb : Bool} {y : Nat} {eb : Int} (h : Ok (nb, y, eb)) : Ok (ngT nb y, y, eb) := by
  have f := h.facts
  simp only at f
  unfold Ok okN ngT at *
  simp only at h ⊢
  by_cases h0 : dlen y = 0
  · rw [if_pos h0] at h ⊢
    have : ¬ 0 < dlen y := by omega
    simp [this] at h ⊢
    exact h.1
  · rw [if_neg h0] at h ⊢
    exact h

end Go.Proofs.YtmhpicccfaklcaaGreatDoor

/- DyadSums. -/
namespace Go.Proofs.YtmhpicccfaklcaaGreatDoor
set_option linter.unusedVariables false
set_option linter.unusedSimpArgs false
open Go.RowKit

/-- mayBe of two numbers, that may be or not -/
theorem maybe2_at {na nb : Bool} {ua va : Option Addr} {un uc vn vc x y g : Nat} {ea eb : Int} {W : World} (hg : W.heap[g]? = some (.cells #[.bool na, .slice ua un uc, .int .i64 ea, .bool nb, .slice va vn vc, .int .i64 eb] 25 (0, 0)))
    (h1 : At W ua un x) (h2 : At W va vn y) (hx : un ≤ 35184372088832) (hy : vn ≤ 35184372088832) :
    Calls Tryz.prog 47 #[.slice (some ⟨g, 0, none⟩) 2 2] W fun r w' => r = .returned (.bool (okN na un x ea && okN nb vn y eb)) ∧ Below W.heap.size W w' := by
  have k := c67 g 2 (fun i => if i = 0 then na else nb) (fun i => if i = 0 then ua else va) (fun i => if i = 0 then un else vn) (fun i => if i = 0 then uc else vc) (fun i => if i = 0 then x else y) (fun i => if i = 0 then ea else eb) W (by omega)
    (fun i hi => by rcases (show i = 0 ∨ i = 1 by omega) with rfl | rfl <;> simp [World.cell?, hg])
    (fun i hi => by rcases (show i = 0 ∨ i = 1 by omega) with rfl | rfl <;> simp [World.cell?, hg])
    (fun i hi => by rcases (show i = 0 ∨ i = 1 by omega) with rfl | rfl <;> simp [World.cell?, hg])
    (fun i hi => by rcases (show i = 0 ∨ i = 1 by omega) with rfl | rfl <;> simp <;> assumption)
    (fun i hi => by rcases (show i = 0 ∨ i = 1 by omega) with rfl | rfl <;> simp <;> omega)
  refine k.mono ?_
  rintro r w' ⟨rfl, hb⟩
  refine ⟨congrArg Ending.returned (congrArg Value.bool ?_), hb⟩
  rw [Bool.eq_iff_iff]
  simp only [decide_eq_true_eq, Bool.and_eq_true]
  constructor
  · intro h
    have h0 := h 0 (by omega)
    have h1 := h 1 (by omega)
    simp at h0 h1
    exact ⟨h0, h1⟩
  · rintro ⟨h0, h1⟩ i hi
    rcases (show i = 0 ∨ i = 1 by omega) with rfl | rfl
    · simpa using h0
    · simpa using h1
theorem maybe1_at {na : Bool} {ua : Option Addr} {un uc x g : Nat} {ea : Int} {W : World} (hg : W.heap[g]? = some (.cells #[.bool na, .slice ua un uc, .int .i64 ea] 25 (0, 0)))
    (h1 : At W ua un x) (hx : un ≤ 35184372088832) :
    Calls Tryz.prog 47 #[.slice (some ⟨g, 0, none⟩) 1 1] W fun r w' => r = .returned (.bool (okN na un x ea)) ∧ Below W.heap.size W w' := by
  have k := c67 g 1 (fun _ => na) (fun _ => ua) (fun _ => un) (fun _ => uc) (fun _ => x) (fun _ => ea) W (by omega)
    (fun i hi => by obtain rfl : i = 0 := by omega
                    simp [World.cell?, hg])
    (fun i hi => by obtain rfl : i = 0 := by omega
                    simp [World.cell?, hg])
    (fun i hi => by obtain rfl : i = 0 := by omega
                    simp [World.cell?, hg])
    (fun i hi => h1) (fun i hi => hx)
  refine k.mono ?_
  rintro r w' ⟨rfl, hb⟩
  refine ⟨congrArg Ending.returned (congrArg Value.bool ?_), hb⟩
  rw [Bool.eq_iff_iff]
  simp only [decide_eq_true_eq]
  exact ⟨fun h => h 0 (by omega), fun h i _ => h⟩

/-- digits that give laid -/
def PI (s : Bool) (n z : Nat) (e : Int) (W : World) (A : Value) : Prop := ∃ v b, A = .agg #[.bool s, v, .int .i64 e] ∧ Dn W b v n z
theorem PI.lasts (s : Bool) (n z : Nat) (e : Int) : Lasts (PI s n z e) := fun W W' A hb ⟨v, b, h1, h2⟩ => ⟨v, b, h1, h2.later hb⟩
theorem PN.lasts (t : Bool × Nat × Int) : Lasts (fun W A => PN W A t) := fun W W' A hb h => h.later hb
theorem RN.lasts (t : Bool × Nat × Int) : Lasts (fun W A => ∃ b, RN W b A t) := fun W W' A hb ⟨b, h⟩ => ⟨b, h.later hb⟩
theorem pn_nil (w : World) : PN w (.agg #[.bool false, .slice none 0 0, .int .i64 0]) (false, 0, 0) := ⟨none, 0, by rw [dlen_zero], by rw [dlen_zero]; exact is_nil w⟩

theorem held_out {w : World} {s : Bool} {z : Nat} {e : Int} {r : Ending} {w' : World} (h : Held w s z e r w') : Out w (fun W A => PN W A (Ans (okR s z e) (cn s z e))) (if okR s z e then 0 else 2) r w' := by
  obtain ⟨A, rfl, hN, hb⟩ := h
  have hp := hN.pn
  cases hV : okR s z e
  · exact ⟨_, _, _, _, _, rfl, pn_nil w', hb⟩
  · obtain ⟨s', ao, n, cap, e', rfl⟩ := hp.shape
    exact ⟨s', ao, n, cap, e', rfl, hp, hb⟩
theorem ansR_out {w : World} {V : Bool} {t : Bool × Nat × Int} {r : Ending} {w' : World} (h : AnsR w V t r w') : Out w (fun W A => ∃ b, RN W b A (Ans V t)) (if V then 0 else 2) r w' := by
  obtain ⟨A, rfl, hN, hb⟩ := h
  obtain ⟨s', ao, n, cap, e', rfl⟩ := hN.shape
  exact ⟨s', ao, n, cap, e', rfl, ⟨_, hN⟩, hb⟩
theorem Ans.len {V : Bool} {t : Bool × Nat × Int} (h : V = true → dlen t.2.1 ≤ 35184372088832) : dlen (Ans V t).2.1 ≤ 35184372088832 := by
  unfold Ans
  cases V
  · rw [if_neg (by simp)]; show dlen 0 ≤ _; rw [dlen_zero]; omega
  · rw [if_pos rfl]; exact h rfl
theorem ok_len {s : Bool} {z : Nat} {e : Int} (h : okR s z e = true) : dlen (cn s z e).2.1 ≤ 35184372088832 := by
  have := (ok_cn h).facts.1
  omega

theorem same_pr {W : World} {A C : Value} {t : Bool × Nat × Int} (hl : dlen t.2.1 ≤ 35184372088832) (h1 : PN W A t) (h2 : ∃ b, RN W b C t) :
    Calls Tryz.prog 12 #[A, C] W fun r w' => r = .returned (.bool true) ∧ Below W.heap.size W w' := by
  obtain ⟨ua, uc, rfl, i1⟩ := h1
  obtain ⟨b, va, vc, rfl, -, i2⟩ := h2
  obtain ⟨ao, cap, e1, -, -, at1⟩ := i1
  simp only [Value.slice.injEq] at e1
  obtain ⟨rfl, -, rfl⟩ := e1
  exact same_1 t.1 t.2.2 ua va _ uc vc t.2.1 W at1 i2 hl
theorem same_in {W : World} {X : Value} {s : Bool} {ua : Option Addr} {n uc z : Nat} {e : Int} (h1 : PI s n z e W X) (h2 : Arg W ua n uc z) :
    Calls Tryz.prog 12 #[X, .agg #[.bool s, .slice ua n uc, .int .i64 e]] W fun r w' => r = .returned (.bool true) ∧ Below W.heap.size W w' := by
  obtain ⟨v, b, rfl, d1⟩ := h1
  obtain ⟨pa, pc, rfl, p1, p2⟩ := d1.at
  exact same_1 s e pa ua n pc uc z W p2 h2.at_ h2.small

end Go.Proofs.YtmhpicccfaklcaaGreatDoor

/- Sign, Bits, Top, Cmp, Show: refused; Bits, Top; Show of nought. -/
namespace Go.Proofs.YtmhpicccfaklcaaGreatDoor
set_option linter.unusedVariables false
set_option linter.unusedSimpArgs false
open Go.RowKit

set_option maxHeartbeats 4000000 in
set_option maxRecDepth 200000 in
theorem pSign_no (na : Bool) (ua : Option Addr) (un uc : Nat) (ea : Int) (w : World)
    (k43 : ∀ W g, Below w.heap.size w W → W.heap[g]? = some (.cells #[.bool na, .slice ua un uc, .int .i64 ea] 25 (0, 0)) → Calls Tryz.prog 47 #[.slice (some ⟨g, 0, none⟩) 1 1] W fun r w' => r = .returned (.bool false) ∧ Below W.heap.size W w') :
    Calls Tryz.prog 17 #[.agg #[.bool na, .slice ua un uc, .int .i64 ea]] w fun r w' => r = .returned (.int .i64 0) ∧ Below w.heap.size w w' := by
  obtain ⟨W, hW⟩ : ∃ W, W = w.alloc (.cells #[.bool na, .slice ua un uc, .int .i64 ea] 25) := ⟨_, rfl⟩
  have hBW : Below w.heap.size w W := by rw [hW]; exact (Below.refl _ _).alloc (Nat.le_refl _) _
  have hsz : W.heap.size = w.heap.size + 1 := by rw [hW]; simp
  have hbx : W.heap[w.heap.size]? = some (.cells #[.bool na, .slice ua un uc, .int .i64 ea] 25 (0, 0)) := by rw [hW]; exact heap_alloc_new _ _
  have k1 := k43 (W.alloc (.cells #[.bool na, .slice ua un uc, .int .i64 ea] 25)) (w.heap.size + 1) (hBW.alloc hBW.size _) (by rw [← hsz]; exact heap_alloc_new _ _)
  have HX : Hid (Below w.heap.size w W ∧ W.heap.size = w.heap.size + 1 ∧ W.heap[w.heap.size]? = some (.cells #[.bool na, .slice ua un uc, .int .i64 ea] 25 (0, 0))) := ⟨hBW, hsz, hbx⟩
  clear hBW hsz hbx k43
  go_enter Tryz.func17, Tryz.ntmps17
  go_wp2_with fail
  rw [← hW]
  clear hW
  refine k1.mono ?_
  rintro r w1 ⟨rfl, hb1⟩
  have HB1 : Hid (Below W.heap.size W w1) := ((Below.refl W.heap.size W).alloc (Nat.le_refl _) _).trans (hb1.mono (by simp))
  clear k1 hb1
  obtain ⟨⟨x0, x1, x2⟩, -⟩ := box_cells (box_later HX.out.2.2 HB1.out (by have := HX.out.2.1; omega))
  have HB2 : Hid (Below w.heap.size w w1) := HX.out.1.trans (HB1.out.mono HX.out.1.size)
  go_wp2
  go_ret
  exact ⟨rfl, HB2.out⟩
set_option maxHeartbeats 4000000 in
set_option maxRecDepth 200000 in
theorem pBits_no (na : Bool) (ua : Option Addr) (un uc : Nat) (ea : Int) (w : World)
    (k43 : ∀ W g, Below w.heap.size w W → W.heap[g]? = some (.cells #[.bool na, .slice ua un uc, .int .i64 ea] 25 (0, 0)) → Calls Tryz.prog 47 #[.slice (some ⟨g, 0, none⟩) 1 1] W fun r w' => r = .returned (.bool false) ∧ Below W.heap.size W w') :
    Calls Tryz.prog 19 #[.agg #[.bool na, .slice ua un uc, .int .i64 ea]] w fun r w' => r = .returned (.int .i64 0) ∧ Below w.heap.size w w' := by
  obtain ⟨W, hW⟩ : ∃ W, W = w.alloc (.cells #[.bool na, .slice ua un uc, .int .i64 ea] 25) := ⟨_, rfl⟩
  have hBW : Below w.heap.size w W := by rw [hW]; exact (Below.refl _ _).alloc (Nat.le_refl _) _
  have hsz : W.heap.size = w.heap.size + 1 := by rw [hW]; simp
  have hbx : W.heap[w.heap.size]? = some (.cells #[.bool na, .slice ua un uc, .int .i64 ea] 25 (0, 0)) := by rw [hW]; exact heap_alloc_new _ _
  have k1 := k43 (W.alloc (.cells #[.bool na, .slice ua un uc, .int .i64 ea] 25)) (w.heap.size + 1) (hBW.alloc hBW.size _) (by rw [← hsz]; exact heap_alloc_new _ _)
  have HX : Hid (Below w.heap.size w W ∧ W.heap.size = w.heap.size + 1 ∧ W.heap[w.heap.size]? = some (.cells #[.bool na, .slice ua un uc, .int .i64 ea] 25 (0, 0))) := ⟨hBW, hsz, hbx⟩
  clear hBW hsz hbx k43
  go_enter Tryz.func19, Tryz.ntmps19
  go_wp2_with fail
  rw [← hW]
  clear hW
  refine k1.mono ?_
  rintro r w1 ⟨rfl, hb1⟩
  have HB1 : Hid (Below W.heap.size W w1) := ((Below.refl W.heap.size W).alloc (Nat.le_refl _) _).trans (hb1.mono (by simp))
  clear k1 hb1
  obtain ⟨⟨x0, x1, x2⟩, -⟩ := box_cells (box_later HX.out.2.2 HB1.out (by have := HX.out.2.1; omega))
  have HB2 : Hid (Below w.heap.size w w1) := HX.out.1.trans (HB1.out.mono HX.out.1.size)
  go_wp2
  go_ret
  exact ⟨rfl, HB2.out⟩
set_option maxHeartbeats 4000000 in
set_option maxRecDepth 200000 in
theorem pTop_no (na : Bool) (ua : Option Addr) (un uc : Nat) (ea : Int) (w : World)
    (k43 : ∀ W g, Below w.heap.size w W → W.heap[g]? = some (.cells #[.bool na, .slice ua un uc, .int .i64 ea] 25 (0, 0)) → Calls Tryz.prog 47 #[.slice (some ⟨g, 0, none⟩) 1 1] W fun r w' => r = .returned (.bool false) ∧ Below W.heap.size W w') :
    Calls Tryz.prog 21 #[.agg #[.bool na, .slice ua un uc, .int .i64 ea]] w fun r w' => r = .returned (.int .i64 0) ∧ Below w.heap.size w w' := by
  obtain ⟨W, hW⟩ : ∃ W, W = w.alloc (.cells #[.bool na, .slice ua un uc, .int .i64 ea] 25) := ⟨_, rfl⟩
  have hBW : Below w.heap.size w W := by rw [hW]; exact (Below.refl _ _).alloc (Nat.le_refl _) _
  have hsz : W.heap.size = w.heap.size + 1 := by rw [hW]; simp
  have hbx : W.heap[w.heap.size]? = some (.cells #[.bool na, .slice ua un uc, .int .i64 ea] 25 (0, 0)) := by rw [hW]; exact heap_alloc_new _ _
  have k1 := k43 (W.alloc (.cells #[.bool na, .slice ua un uc, .int .i64 ea] 25)) (w.heap.size + 1) (hBW.alloc hBW.size _) (by rw [← hsz]; exact heap_alloc_new _ _)
  have HX : Hid (Below w.heap.size w W ∧ W.heap.size = w.heap.size + 1 ∧ W.heap[w.heap.size]? = some (.cells #[.bool na, .slice ua un uc, .int .i64 ea] 25 (0, 0))) := ⟨hBW, hsz, hbx⟩
  clear hBW hsz hbx k43
  go_enter Tryz.func21, Tryz.ntmps21
  go_wp2_with fail
  rw [← hW]
  clear hW
  refine k1.mono ?_
  rintro r w1 ⟨rfl, hb1⟩
  have HB1 : Hid (Below W.heap.size W w1) := ((Below.refl W.heap.size W).alloc (Nat.le_refl _) _).trans (hb1.mono (by simp))
  clear k1 hb1
  obtain ⟨⟨x0, x1, x2⟩, -⟩ := box_cells (box_later HX.out.2.2 HB1.out (by have := HX.out.2.1; omega))
  have HB2 : Hid (Below w.heap.size w w1) := HX.out.1.trans (HB1.out.mono HX.out.1.size)
  go_wp2
  go_ret
  exact ⟨rfl, HB2.out⟩
set_option maxHeartbeats 4000000 in
set_option maxRecDepth 200000 in
theorem pShow_no (na : Bool) (ua : Option Addr) (un uc : Nat) (ea : Int) (w : World)
    (k43 : ∀ W g, Below w.heap.size w W → W.heap[g]? = some (.cells #[.bool na, .slice ua un uc, .int .i64 ea] 25 (0, 0)) → Calls Tryz.prog 47 #[.slice (some ⟨g, 0, none⟩) 1 1] W fun r w' => r = .returned (.bool false) ∧ Below W.heap.size W w') :
    Calls Tryz.prog 25 #[.agg #[.bool na, .slice ua un uc, .int .i64 ea]] w fun r w' => r = .returned (.string ⟨#[]⟩) ∧ Below w.heap.size w w' := by
  obtain ⟨W, hW⟩ : ∃ W, W = w.alloc (.cells #[.bool na, .slice ua un uc, .int .i64 ea] 25) := ⟨_, rfl⟩
  have hBW : Below w.heap.size w W := by rw [hW]; exact (Below.refl _ _).alloc (Nat.le_refl _) _
  have hsz : W.heap.size = w.heap.size + 1 := by rw [hW]; simp
  have hbx : W.heap[w.heap.size]? = some (.cells #[.bool na, .slice ua un uc, .int .i64 ea] 25 (0, 0)) := by rw [hW]; exact heap_alloc_new _ _
  have k1 := k43 (W.alloc (.cells #[.bool na, .slice ua un uc, .int .i64 ea] 25)) (w.heap.size + 1) (hBW.alloc hBW.size _) (by rw [← hsz]; exact heap_alloc_new _ _)
  have HX : Hid (Below w.heap.size w W ∧ W.heap.size = w.heap.size + 1 ∧ W.heap[w.heap.size]? = some (.cells #[.bool na, .slice ua un uc, .int .i64 ea] 25 (0, 0))) := ⟨hBW, hsz, hbx⟩
  clear hBW hsz hbx k43
  go_enter Tryz.func25, Tryz.ntmps25
  go_wp2_with fail
  rw [← hW]
  clear hW
  refine k1.mono ?_
  rintro r w1 ⟨rfl, hb1⟩
  have HB1 : Hid (Below W.heap.size W w1) := ((Below.refl W.heap.size W).alloc (Nat.le_refl _) _).trans (hb1.mono (by simp))
  clear k1 hb1
  obtain ⟨⟨x0, x1, x2⟩, -⟩ := box_cells (box_later HX.out.2.2 HB1.out (by have := HX.out.2.1; omega))
  have HB2 : Hid (Below w.heap.size w w1) := HX.out.1.trans (HB1.out.mono HX.out.1.size)
  go_wp2
  go_ret
  exact ⟨rfl, HB2.out⟩
set_option maxHeartbeats 4000000 in
set_option maxRecDepth 200000 in
theorem pBits_1 (na : Bool) (ua : Option Addr) (un uc : Nat) (ea c : Int) (w : World)
    (k43 : ∀ W g, Below w.heap.size w W → W.heap[g]? = some (.cells #[.bool na, .slice ua un uc, .int .i64 ea] 25 (0, 0)) → Calls Tryz.prog 47 #[.slice (some ⟨g, 0, none⟩) 1 1] W fun r w' => r = .returned (.bool true) ∧ Below W.heap.size W w')
    (kC : ∀ W, Below w.heap.size w W → Calls Tryz.prog 54 #[.slice ua un uc] W fun r w' => r = .returned (.int .i64 c) ∧ Below W.heap.size W w') :
    Calls Tryz.prog 19 #[.agg #[.bool na, .slice ua un uc, .int .i64 ea]] w fun r w' => r = .returned (.int .i64 c) ∧ Below w.heap.size w w' := by
  have HKC : Hid (∀ W, Below w.heap.size w W → Calls Tryz.prog 54 #[.slice ua un uc] W fun r w' => r = .returned (.int .i64 c) ∧ Below W.heap.size W w') := kC
  clear kC
  obtain ⟨W, hW⟩ : ∃ W, W = w.alloc (.cells #[.bool na, .slice ua un uc, .int .i64 ea] 25) := ⟨_, rfl⟩
  have hBW : Below w.heap.size w W := by rw [hW]; exact (Below.refl _ _).alloc (Nat.le_refl _) _
  have hsz : W.heap.size = w.heap.size + 1 := by rw [hW]; simp
  have hbx : W.heap[w.heap.size]? = some (.cells #[.bool na, .slice ua un uc, .int .i64 ea] 25 (0, 0)) := by rw [hW]; exact heap_alloc_new _ _
  have k1 := k43 (W.alloc (.cells #[.bool na, .slice ua un uc, .int .i64 ea] 25)) (w.heap.size + 1) (hBW.alloc hBW.size _) (by rw [← hsz]; exact heap_alloc_new _ _)
  have HX : Hid (Below w.heap.size w W ∧ W.heap.size = w.heap.size + 1 ∧ W.heap[w.heap.size]? = some (.cells #[.bool na, .slice ua un uc, .int .i64 ea] 25 (0, 0))) := ⟨hBW, hsz, hbx⟩
  clear hBW hsz hbx k43
  go_enter Tryz.func19, Tryz.ntmps19
  go_wp2_with fail
  rw [← hW]
  clear hW
  refine k1.mono ?_
  rintro r w1 ⟨rfl, hb1⟩
  have HB1 : Hid (Below W.heap.size W w1) := ((Below.refl W.heap.size W).alloc (Nat.le_refl _) _).trans (hb1.mono (by simp))
  clear k1 hb1
  obtain ⟨⟨x0, x1, x2⟩, -⟩ := box_cells (box_later HX.out.2.2 HB1.out (by have := HX.out.2.1; omega))
  have HB2 : Hid (Below w.heap.size w w1) := HX.out.1.trans (HB1.out.mono HX.out.1.size)
  have k3 := HKC.out w1 HB2.out
  go_wp2_with fail
  refine k3.mono ?_
  rintro r w3 ⟨rfl, hb3⟩
  have HB3 : Hid (Below w.heap.size w w3) := HB2.out.trans (hb3.mono HB2.out.size)
  clear k3 hb3 x0 x1 x2
  go_wp2_with fail
  go_ret
  exact ⟨rfl, HB3.out⟩
set_option maxHeartbeats 4000000 in
set_option maxRecDepth 200000 in
theorem pTop_1 (na : Bool) (ua : Option Addr) (un uc : Nat) (ea c : Int) (w : World)
    (k43 : ∀ W g, Below w.heap.size w W → W.heap[g]? = some (.cells #[.bool na, .slice ua un uc, .int .i64 ea] 25 (0, 0)) → Calls Tryz.prog 47 #[.slice (some ⟨g, 0, none⟩) 1 1] W fun r w' => r = .returned (.bool true) ∧ Below W.heap.size W w')
    (kC : ∀ W, Below w.heap.size w W → Calls Tryz.prog 55 #[.agg #[.bool na, .slice ua un uc, .int .i64 ea]] W fun r w' => r = .returned (.int .i64 c) ∧ Below W.heap.size W w') :
    Calls Tryz.prog 21 #[.agg #[.bool na, .slice ua un uc, .int .i64 ea]] w fun r w' => r = .returned (.int .i64 c) ∧ Below w.heap.size w w' := by
  have HKC : Hid (∀ W, Below w.heap.size w W → Calls Tryz.prog 55 #[.agg #[.bool na, .slice ua un uc, .int .i64 ea]] W fun r w' => r = .returned (.int .i64 c) ∧ Below W.heap.size W w') := kC
  clear kC
  obtain ⟨W, hW⟩ : ∃ W, W = w.alloc (.cells #[.bool na, .slice ua un uc, .int .i64 ea] 25) := ⟨_, rfl⟩
  have hBW : Below w.heap.size w W := by rw [hW]; exact (Below.refl _ _).alloc (Nat.le_refl _) _
  have hsz : W.heap.size = w.heap.size + 1 := by rw [hW]; simp
  have hbx : W.heap[w.heap.size]? = some (.cells #[.bool na, .slice ua un uc, .int .i64 ea] 25 (0, 0)) := by rw [hW]; exact heap_alloc_new _ _
  have k1 := k43 (W.alloc (.cells #[.bool na, .slice ua un uc, .int .i64 ea] 25)) (w.heap.size + 1) (hBW.alloc hBW.size _) (by rw [← hsz]; exact heap_alloc_new _ _)
  have HX : Hid (Below w.heap.size w W ∧ W.heap.size = w.heap.size + 1 ∧ W.heap[w.heap.size]? = some (.cells #[.bool na, .slice ua un uc, .int .i64 ea] 25 (0, 0))) := ⟨hBW, hsz, hbx⟩
  clear hBW hsz hbx k43
  go_enter Tryz.func21, Tryz.ntmps21
  go_wp2_with fail
  rw [← hW]
  clear hW
  refine k1.mono ?_
  rintro r w1 ⟨rfl, hb1⟩
  have HB1 : Hid (Below W.heap.size W w1) := ((Below.refl W.heap.size W).alloc (Nat.le_refl _) _).trans (hb1.mono (by simp))
  clear k1 hb1
  obtain ⟨⟨x0, x1, x2⟩, -⟩ := box_cells (box_later HX.out.2.2 HB1.out (by have := HX.out.2.1; omega))
  have HB2 : Hid (Below w.heap.size w w1) := HX.out.1.trans (HB1.out.mono HX.out.1.size)
  have k3 := HKC.out w1 HB2.out
  go_wp2_with fail
  refine k3.mono ?_
  rintro r w3 ⟨rfl, hb3⟩
  have HB3 : Hid (Below w.heap.size w w3) := HB2.out.trans (hb3.mono HB2.out.size)
  clear k3 hb3 x0 x1 x2
  go_wp2_with fail
  go_ret
  exact ⟨rfl, HB3.out⟩
set_option maxHeartbeats 4000000 in
set_option maxRecDepth 200000 in
theorem pShow_0 (na : Bool) (ua : Option Addr) (uc : Nat) (ea : Int) (w : World)
    (k43 : ∀ W g, Below w.heap.size w W → W.heap[g]? = some (.cells #[.bool na, .slice ua 0 uc, .int .i64 ea] 25 (0, 0)) → Calls Tryz.prog 47 #[.slice (some ⟨g, 0, none⟩) 1 1] W fun r w' => r = .returned (.bool true) ∧ Below W.heap.size W w') :
    Calls Tryz.prog 25 #[.agg #[.bool na, .slice ua 0 uc, .int .i64 ea]] w fun r w' => r = .returned (.string ⟨#[48, 112, 48]⟩) ∧ Below w.heap.size w w' := by
  obtain ⟨W, hW⟩ : ∃ W, W = w.alloc (.cells #[.bool na, .slice ua 0 uc, .int .i64 ea] 25) := ⟨_, rfl⟩
  have hBW : Below w.heap.size w W := by rw [hW]; exact (Below.refl _ _).alloc (Nat.le_refl _) _
  have hsz : W.heap.size = w.heap.size + 1 := by rw [hW]; simp
  have hbx : W.heap[w.heap.size]? = some (.cells #[.bool na, .slice ua 0 uc, .int .i64 ea] 25 (0, 0)) := by rw [hW]; exact heap_alloc_new _ _
  have k1 := k43 (W.alloc (.cells #[.bool na, .slice ua 0 uc, .int .i64 ea] 25)) (w.heap.size + 1) (hBW.alloc hBW.size _) (by rw [← hsz]; exact heap_alloc_new _ _)
  have HX : Hid (Below w.heap.size w W ∧ W.heap.size = w.heap.size + 1 ∧ W.heap[w.heap.size]? = some (.cells #[.bool na, .slice ua 0 uc, .int .i64 ea] 25 (0, 0))) := ⟨hBW, hsz, hbx⟩
  clear hBW hsz hbx k43
  go_enter Tryz.func25, Tryz.ntmps25
  go_wp2_with fail
  rw [← hW]
  clear hW
  refine k1.mono ?_
  rintro r w1 ⟨rfl, hb1⟩
  have HB1 : Hid (Below W.heap.size W w1) := ((Below.refl W.heap.size W).alloc (Nat.le_refl _) _).trans (hb1.mono (by simp))
  clear k1 hb1
  obtain ⟨⟨x0, x1, x2⟩, -⟩ := box_cells (box_later HX.out.2.2 HB1.out (by have := HX.out.2.1; omega))
  have HB2 : Hid (Below w.heap.size w w1) := HX.out.1.trans (HB1.out.mono HX.out.1.size)
  go_wp2
  go_ret
  exact ⟨rfl, HB2.out⟩
set_option maxHeartbeats 4000000 in
set_option maxRecDepth 200000 in
theorem pCmp_no (na nb : Bool) (ua va : Option Addr) (un uc vn vc : Nat) (ea eb : Int) (w : World)
    (k67 : ∀ W g, Below w.heap.size w W → W.heap[g]? = some (.cells #[.bool na, .slice ua un uc, .int .i64 ea, .bool nb, .slice va vn vc, .int .i64 eb] 25 (0, 0)) → Calls Tryz.prog 47 #[.slice (some ⟨g, 0, none⟩) 2 2] W fun r w' => r = .returned (.bool false) ∧ Below W.heap.size W w') :
    Calls Tryz.prog 23 #[.agg #[.bool na, .slice ua un uc, .int .i64 ea], .agg #[.bool nb, .slice va vn vc, .int .i64 eb]] w fun r w' => r = .returned (.int .i64 0) ∧ Below w.heap.size w w' := by
  obtain ⟨W, hW⟩ : ∃ W, W = ((w.alloc (.cells #[.bool na, .slice ua un uc, .int .i64 ea] 25)).alloc (.cells #[.bool nb, .slice va vn vc, .int .i64 eb] 25)).alloc (.cells #[.bool na, .slice ua un uc, .int .i64 ea, .bool nb, .slice va vn vc, .int .i64 eb] 25) := ⟨_, rfl⟩
  obtain ⟨hA, hBb, hC, hsz, hBW⟩ := boxes3 _ _ _ hW
  have k1 := k67 W (w.heap.size + 1 + 1) hBW hC
  have HH : Hid ((W.heap[w.heap.size]? = some (.cells #[.bool na, .slice ua un uc, .int .i64 ea] 25 (0, 0)) ∧ W.heap[w.heap.size + 1]? = some (.cells #[.bool nb, .slice va vn vc, .int .i64 eb] 25 (0, 0))) ∧ W.heap.size = w.heap.size + 1 + 1 + 1 ∧ Below w.heap.size w W) := ⟨⟨hA, hBb⟩, hsz, hBW⟩
  clear hA hBb hC hsz hBW k67
  go_enter Tryz.func23, Tryz.ntmps23
  go_wp2_with fail
  rw [← hW]
  clear hW
  refine k1.mono ?_
  rintro r w1 ⟨rfl, hB1⟩
  clear k1
  have HB1 : Hid (Below w.heap.size w w1) := HH.out.2.2.trans (hB1.mono HH.out.2.2.size)
  obtain ⟨⟨a0, a1, a2⟩, -⟩ := box_cells (box_later HH.out.1.1 hB1 (by have := HH.out.2.1; omega))
  obtain ⟨⟨b0, b1, b2⟩, -⟩ := box_cells (box_later HH.out.1.2 hB1 (by have := HH.out.2.1; omega))
  clear hB1
  go_wp2
  go_ret
  exact ⟨rfl, HB1.out⟩
end Go.Proofs.YtmhpicccfaklcaaGreatDoor

/- The document's decimal. -/
namespace Go.Proofs.YtmhpicccfaklcaaGreatDoor
set_option linter.unusedVariables false
set_option linter.unusedSimpArgs false
open Go.RowKit

theorem dec_get (n : Nat) (hn : n < 10) : (⟨#[48, 49, 50, 51, 52, 53, 54, 55, 56, 57]⟩ : ByteArray).extract n (n + 1) = ⟨[UInt8.ofNat (48 + n)].toArray⟩ := by
  rcases (by omega : n = 0 ∨ n = 1 ∨ n = 2 ∨ n = 3 ∨ n = 4 ∨ n = 5 ∨ n = 6 ∨ n = 7 ∨ n = 8 ∨ n = 9) with h | h | h | h | h | h | h | h | h | h <;> subst h <;> rfl

theorem bytes_cat (L M : List UInt8) : (⟨L.toArray⟩ : ByteArray) ++ ⟨M.toArray⟩ = ⟨(L ++ M).toArray⟩ := by
  apply ByteArray.ext
  simp
set_option maxHeartbeats 4000000 in
set_option maxRecDepth 200000 in
theorem rdec_0 (n : Nat) (w : World) (hn : n < 10) :
    Calls Tryz.prog 66 #[.int .i64 (n : Int)] w fun r w' => r = .returned (.string ⟨(Lib.decDigits n).toArray⟩) ∧ Below w.heap.size w w' := by
  rw [Lib.decDigits, dif_pos hn, ← dec_get n hn]
  have h0 : ¬ (n : Int) < 0 := by omega
  have h1 : (n : Int) < 10 := by omega
  go_enter Tryz.func66, Tryz.ntmps66
  go_wp2
  go_ret
  exact ⟨rfl, Below.refl _ _⟩
set_option maxHeartbeats 4000000 in
set_option maxRecDepth 200000 in
theorem rdec_1 (n q m : Nat) (w : World) (L : List UInt8) (hL : L.length ≤ 1000) (hn : ¬ n < 10) (hn1 : n ≤ 1000000000) (hq : n / 10 = q) (hm : n % 10 = m)
    (k : ∀ W, Below w.heap.size w W → Calls Tryz.prog 66 #[.int .i64 (q : Int)] W fun r w' => r = .returned (.string ⟨L.toArray⟩) ∧ Below W.heap.size W w') :
    Calls Tryz.prog 66 #[.int .i64 (n : Int)] w fun r w' => r = .returned (.string ⟨(L ++ [UInt8.ofNat (48 + m)]).toArray⟩) ∧ Below w.heap.size w w' := by
  have h0 : ¬ (n : Int) < 0 := by omega
  have h1 : ¬ (n : Int) < 10 := by omega
  have hml : m < 10 := by omega
  have hq' : (n : Int).tdiv 10 = (q : Int) := by rw [Int.tdiv_eq_ediv_of_nonneg (by omega)]; omega
  have hm' : (n : Int).tmod 10 = (m : Int) := by rw [Int.tmod_eq_emod_of_nonneg (by omega)]; omega
  have HQ : Hid (n / 10 = q ∧ n % 10 = m) := ⟨hq, hm⟩
  obtain ⟨R, hR⟩ : ∃ R : ByteArray, R = ⟨(L ++ [UInt8.ofNat (48 + m)]).toArray⟩ := ⟨_, rfl⟩
  have hcat : ∀ W, (Op.stringOp .add ⟨L.toArray⟩ ((⟨#[48, 49, 50, 51, 52, 53, 54, 55, 56, 57]⟩ : ByteArray).extract m (m + 1))).run Tryz.prog W = .ok (.string R) W := fun W => by
    rw [hR, ← bytes_cat, ← dec_get m hml]
    exact run_string_add_sum _ _ _ (by rw [dec_get m hml]; simp [ByteArray.size]; omega)
  rw [← hR]
  clear hR
  have hwq : IntKind.i64.wrap (q : Int) = (q : Int) := by rw [IntKind.wrap_i64]; omega
  have hwm : IntKind.i64.wrap ((m : Int) + 1) = (m : Int) + 1 := by rw [IntKind.wrap_i64]; omega
  have hm0 : (0 : Int) ≤ (m : Int) := by omega
  have hm1 : (m : Int) ≤ (m : Int) + 1 := by omega
  have hm2 : (m : Int) + 1 ≤ 10 := by omega
  have hm3 : (0 : Int) ≤ (m : Int) + 1 := by omega
  have hm4 : ((m : Int) + 1).toNat = m + 1 := by omega
  have k' : ∀ w4, Below w.heap.size w w4 → Calls Tryz.prog 66 #[.int .i64 (q : Int)] w4 fun r w' => r = .returned (.string ⟨L.toArray⟩) ∧ Below w.heap.size w w' := fun w4 h4 => (k w4 h4).mono fun r w' ⟨e1, o2⟩ => ⟨e1, h4.trans (o2.mono h4.size)⟩
  have hBR : Below w.heap.size w w.drew := (Below.refl _ _).drew
  clear hq hm k
  go_enter Tryz.func66, Tryz.ntmps66
  go_upto_region 5 with fail
  go_region_held3 (fun _ => True) (trivial)
    (first | (go_at_call 66; with_reducible refine (k' _ (by first | (with_reducible assumption) | exact hBR)).mono ?_; rintro r w5 ⟨rfl, hb5⟩))
  have HB : Hid (Below w.heap.size w w5) := hb5
  clear k' hBR hb5 hcat
  go_wp2
  go_ret
  exact ⟨rfl, HB.out⟩
theorem decDigits_len (k : Nat) : ∀ n, n < 10 ^ (k + 1) → (Lib.decDigits n).length ≤ k + 1 := by
  induction k with
  | zero => intro n h; rw [Lib.decDigits, dif_pos (by simpa using h)]; simp
  | succ k ih =>
    intro n h
    by_cases h0 : n < 10
    · rw [Lib.decDigits, dif_pos h0]; simp
    · rw [Lib.decDigits, dif_neg h0, List.length_append, List.length_singleton]
      have := ih (n / 10) (by rw [Nat.pow_succ] at h; omega)
      omega
/-- decimal, of a number from 0 on -/
theorem rdec (k : Nat) : ∀ n w, n < 10 ^ k → k ≤ 9 → Calls Tryz.prog 66 #[.int .i64 ((n : Nat) : Int)] w fun r w' => r = .returned (.string ⟨(Lib.decDigits n).toArray⟩) ∧ Below w.heap.size w w' := by
  induction k with
  | zero => intro n w h _; exact rdec_0 n w (by have : n < 1 := by simpa using h
                                                omega)
  | succ k ih =>
    intro n w h hk
    by_cases h0 : n < 10
    · exact rdec_0 n w h0
    · rw [Lib.decDigits, dif_neg h0]
      have h9 : n < 10 ^ 9 := Nat.lt_of_lt_of_le h (Nat.pow_le_pow_right (by omega) hk)
      have hl := decDigits_len 8 (n / 10) (by omega)
      exact rdec_1 n _ _ w _ (by omega) h0 (by omega) rfl rfl fun W _ => ih (n / 10) W (by rw [Nat.pow_succ] at h; omega) (by omega)

set_option maxHeartbeats 4000000 in
set_option maxRecDepth 200000 in
theorem rdec_neg (n : Nat) (w : World) (L : List UInt8) (hL : L.length ≤ 1000) (hn : 0 < n) (hn1 : n ≤ 1000000000)
    (k : Calls Tryz.prog 66 #[.int .i64 (n : Int)] w fun r w' => r = .returned (.string ⟨L.toArray⟩) ∧ Below w.heap.size w w') :
    Calls Tryz.prog 66 #[.int .i64 (-(n : Int))] w fun r w' => r = .returned (.string ⟨(45 :: L).toArray⟩) ∧ Below w.heap.size w w' := by
  have h0 : (-(n : Int)) < 0 := by omega
  have h1 : IntKind.i64.wrap (n : Int) = (n : Int) := by rw [IntKind.wrap_i64]; omega
  have h2 : - -(n : Int) = (n : Int) := by omega
  obtain ⟨R, hR⟩ : ∃ R : ByteArray, R = ⟨(45 :: L).toArray⟩ := ⟨_, rfl⟩
  have hcat : ∀ W, (Op.stringOp .add (⟨#[45]⟩ : ByteArray) ⟨L.toArray⟩).run Tryz.prog W = .ok (.string R) W := fun W => by
    have e : (⟨#[45]⟩ : ByteArray) = ⟨[45].toArray⟩ := rfl
    rw [hR, show 45 :: L = [45] ++ L from rfl, ← bytes_cat, ← e]
    exact run_string_add_sum _ _ _ (by rw [e]; simp [ByteArray.size]; omega)
  rw [← hR]
  obtain ⟨mm, hmm⟩ : ∃ mm : Int, mm = -(n : Int) := ⟨_, rfl⟩
  rw [← hmm] at h0 h2 ⊢
  clear hR hmm hn hn1 hL
  go_enter Tryz.func66, Tryz.ntmps66
  go_wp2_with fail
  refine k.mono ?_
  rintro r w1 ⟨rfl, hb⟩
  have HB : Hid (Below w.heap.size w w1) := hb
  clear k hb
  go_wp2
  go_ret
  exact ⟨rfl, HB.out⟩
theorem rdecimal (e : Int) (w : World) (h : -100000000 < e ∧ e < 100000000) :
    Calls Tryz.prog 66 #[.int .i64 e] w fun r w' => r = .returned (.string ⟨(Lib.itoa e).toArray⟩) ∧ Below w.heap.size w w' := by
  unfold Lib.itoa
  by_cases h0 : e < 0
  · rw [if_pos h0]
    obtain ⟨n, rfl⟩ : ∃ n : Nat, e = -(n : Int) := ⟨e.natAbs, by omega⟩
    rw [Int.natAbs_neg, Int.natAbs_natCast]
    have hl := decDigits_len 8 n (by omega)
    exact rdec_neg n w _ (by omega) (by omega) (by omega) (rdec 9 n w (by omega) (by omega))
  · rw [if_neg h0]
    obtain ⟨n, rfl⟩ : ∃ n : Nat, e = (n : Int) := ⟨e.toNat, by omega⟩
    rw [Int.toNat_natCast]
    exact rdec 9 n w (by omega) (by omega)
end Go.Proofs.YtmhpicccfaklcaaGreatDoor
