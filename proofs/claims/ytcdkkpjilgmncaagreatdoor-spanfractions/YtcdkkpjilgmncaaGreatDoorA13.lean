/- Own work: contracts of the program's functions, part 13: DE2 FR1 FR2 FR3 FR4 DL5 PV PV2 FR5. -/
import Derived.Test.YtcdkkpjilgmncaaGreatDoorA12
import Derived.Test.YtcdkkpjilgmncaaGreatDoorA8
import Derived.Test.YtcdkkpjilgmncaaGreatDoorA1
import Derived.Test.YtcdkkpjilgmncaaGreatDoorA11
import Derived.Test.YtcdkkpjilgmncaaGreatDoorA5
import Derived.Test.YtcdkkpjilgmncaaGreatDoorA7
import Derived.Deep.MidRow

set_option maxHeartbeats 16000000
namespace Go.Proofs.YtcdkkpjilgmncaaGreatDoor
set_option linter.unusedVariables false
set_option linter.unusedSimpArgs false
open Go.RowKit Go.Fl64
theorem fl_pos {N D : Nat} : ((N : Int) / (D : Int)) = ((N / D : Nat) : Int) := by simp
theorem fl_neg {N D : Nat} (hD : 0 < D) : (-(N : Int)) / (D : Int) = if N % D = 0 then -((N / D : Nat) : Int) else -((N / D + 1 : Nat) : Int) := by
  have h1 := Nat.div_add_mod N D
  have h2 := Nat.mod_lt N hD
  generalize N / D = q at *
  generalize N % D = r at *
  have h3 : (N : Int) = D * q + r := by rw [← h1]; push_cast; rfl
  split
  · rename_i h
    have : (-(N : Int)) / (D : Int) = -(q : Int) ∧ (-(N : Int)) % (D : Int) = 0 := (Int.ediv_emod_unique (by omega)).2 ⟨by rw [h3, h, Int.mul_neg]; simp, Int.le_refl _, by omega⟩
    exact this.1
  · rename_i h
    have : (-(N : Int)) / (D : Int) = -((q + 1 : Nat) : Int) ∧ (-(N : Int)) % (D : Int) = D - r := (Int.ediv_emod_unique (by omega)).2 ⟨by rw [h3, Int.mul_neg]; push_cast; rw [Int.mul_add, Int.mul_one]; omega, by omega, by omega⟩
    exact this.1
theorem un_parts {a : Int} {p : Nat} (h : a ≠ 0) : (un a p).1 = decide (a < 0) ∧ (un a p).2.1 * 2 ^ tz a.natAbs = a.natAbs ∧ (un a p).2.2 = -(p : Int) + tz a.natAbs := by
  have h0 : a.natAbs ≠ 0 := by omega
  unfold un cn
  rw [if_neg h0]
  refine ⟨rfl, ?_, rfl⟩
  have h2 := (tz_spec a.natAbs a.natAbs (Nat.le_refl _) h0).1
  rw [Nat.mul_comm]; exact h2
theorem un_zero (p : Nat) : un 0 p = (false, 0, 0) := by unfold un cn; rw [if_pos (by decide)]
theorem gover {a b : Int} {p q r bA bB : Nat} {X Y : Value} {w : World} (hb : 0 < b) (ha : a.natAbs < 2 ^ bA) (hbb : b.natAbs < 2 ^ bB) (hbA : bA ≤ 90000) (hbB : bB ≤ 90000) (hp : p ≤ 90000) (hq : q ≤ 90000) (hr : r ≤ 90000) (h1 : DN w X (un a p)) (h2 : DN w Y (un b q)) :
    Calls Tryz.prog 65 #[X, Y, .int .i64 r] w fun res w' => ∃ A ex, res = .returned (.tuple #[A, .bool ex]) ∧ DN w' A (un (a * ((2 ^ (r + q) : Nat) : Int) / (b * ((2 ^ p : Nat) : Int))) r) ∧ Below w.heap.size w w' := by
  obtain ⟨ao, cap, rfl, a1⟩ := h1
  obtain ⟨ao', cap', rfl, a2⟩ := h2
  have ea := un_e (p := p) ha
  have eb := un_e (p := q) hbb
  have la := dlen_two9 (un_small (p := p) ha)
  have lb := dlen_two9 (un_small (p := q) hbb)
  have y0 : (un b q).2.1 ≠ 0 := fun h => by have := un_sign.2.1 h; omega
  refine (rover (na := (un a p).1) (nb := (un b q).1) a1.at_ a1.le a2.at_ a2.le y0 (by omega) (by omega) ⟨by omega, by omega⟩ ⟨by omega, by omega⟩ ⟨by omega, by omega⟩ rfl rfl).mono ?_
  rintro res w' ⟨A, e, hN, hbl⟩
  refine ⟨A, _, e, ?_, hbl⟩
  have hd := hN.dn
  have key : cn ((un a p).1 != (un b q).1) (if (((un a p).1 != (un b q).1) && !decide (ovX (un a p).2.1 (un a p).2.2 (un b q).2.2 (r : Int) % ovY (un b q).2.1 (un a p).2.2 (un b q).2.2 (r : Int) = 0)) = true then ovX (un a p).2.1 (un a p).2.2 (un b q).2.2 (r : Int) / ovY (un b q).2.1 (un a p).2.2 (un b q).2.2 (r : Int) + 1 else ovX (un a p).2.1 (un a p).2.2 (un b q).2.2 (r : Int) / ovY (un b q).2.1 (un a p).2.2 (un b q).2.2 (r : Int)) (-(r : Int)) = un (a * ((2 ^ (r + q) : Nat) : Int) / (b * ((2 ^ p : Nat) : Int))) r := by
    refine un_eq (K := r) (Nat.le_refl _) (by omega) ?_
    unfold vz
    rw [show (-(r : Int) + (r : Int)).toNat = 0 by omega, Nat.sub_self, Nat.pow_zero]
    simp only [Int.natCast_one, Int.mul_one]
    obtain ⟨pb1, pb2, pb3⟩ := un_parts (a := b) (p := q) (by omega)
    have nb : (un b q).1 = false := by rw [pb1]; exact decide_eq_false (by omega)
    rw [nb, Bool.bne_false]
    obtain ⟨bN, rfl⟩ : ∃ bN : Nat, b = bN := ⟨b.toNat, by omega⟩
    simp only [Int.natAbs_natCast] at pb2 pb3
    by_cases a0 : a = 0
    · subst a0
      rw [un_zero]
      unfold ovX
      simp [sv]
    · obtain ⟨pa1, pa2, pa3⟩ := un_parts (a := a) (p := p) a0
      -- X P = |a| 2^(r + q), Y P = b 2^p
      obtain ⟨m, hm⟩ : ∃ m : Nat, (m : Int) = min ((un a p).2.2 + (r : Int)) (un (bN : Int) q).2.2 + p + q := ⟨(min ((un a p).2.2 + (r : Int)) (un (bN : Int) q).2.2 + p + q).toNat, by omega⟩
      have hX : ovX (un a p).2.1 (un a p).2.2 (un (bN : Int) q).2.2 (r : Int) * 2 ^ m = a.natAbs * 2 ^ (r + q) := by
        have ee : ((un a p).2.2 + (r : Int) - min ((un a p).2.2 + (r : Int)) (un (bN : Int) q).2.2).toNat + m = tz a.natAbs + (r + q) := by omega
        unfold ovX
        rw [Nat.mul_assoc, ← Nat.pow_add, ee, Nat.pow_add, ← Nat.mul_assoc, pa2]
      have hY : ovY (un (bN : Int) q).2.1 (un a p).2.2 (un (bN : Int) q).2.2 (r : Int) * 2 ^ m = bN * 2 ^ p := by
        have ee : ((un (bN : Int) q).2.2 - min ((un a p).2.2 + (r : Int)) (un (bN : Int) q).2.2).toNat + m = tz bN + p := by omega
        unfold ovY
        rw [Nat.mul_assoc, ← Nat.pow_add, ee, Nat.pow_add, ← Nat.mul_assoc, pb2]
      have hP := Nat.two_pow_pos m
      have hD : 0 < bN * 2 ^ p := Nat.mul_pos (by omega) (Nat.two_pow_pos p)
      have hdiv : ovX (un a p).2.1 (un a p).2.2 (un (bN : Int) q).2.2 (r : Int) / ovY (un (bN : Int) q).2.1 (un a p).2.2 (un (bN : Int) q).2.2 (r : Int) = a.natAbs * 2 ^ (r + q) / (bN * 2 ^ p) := by
        rw [← hX, ← hY, Nat.mul_div_mul_right _ _ hP]
      have hmod : ovX (un a p).2.1 (un a p).2.2 (un (bN : Int) q).2.2 (r : Int) % ovY (un (bN : Int) q).2.1 (un a p).2.2 (un (bN : Int) q).2.2 (r : Int) = 0 ↔ a.natAbs * 2 ^ (r + q) % (bN * 2 ^ p) = 0 := by
        rw [← hX, ← hY, Nat.mul_mod_mul_right]
        constructor
        · intro h; rw [h, Nat.zero_mul]
        · intro h; rcases Nat.mul_eq_zero.1 h with h | h
          · exact h
          · omega
      rw [hdiv, pa1]
      have e1 : (bN : Int) * ((2 ^ p : Nat) : Int) = ((bN * 2 ^ p : Nat) : Int) := by push_cast; rfl
      rw [e1]
      by_cases hneg : a < 0
      · rw [decide_eq_true hneg, Bool.true_and]
        have e2 : a * ((2 ^ (r + q) : Nat) : Int) = -((a.natAbs * 2 ^ (r + q) : Nat) : Int) := by
          rw [Int.natCast_mul, ← Int.neg_mul]; congr 1; omega
        rw [e2, fl_neg hD]
        by_cases h0 : a.natAbs * 2 ^ (r + q) % (bN * 2 ^ p) = 0
        · rw [if_pos h0, decide_eq_true (hmod.2 h0)]
          simp [sv]
        · rw [if_neg h0, decide_eq_false (fun h => h0 (hmod.1 h))]
          simp [sv]
      · rw [decide_eq_false hneg, Bool.false_and]
        have e2 : a * ((2 ^ (r + q) : Nat) : Int) = ((a.natAbs * 2 ^ (r + q) : Nat) : Int) := by
          rw [Int.natCast_mul]; congr 1; omega
        rw [e2, fl_pos]
        simp [sv]
  rw [← key]
  exact hd
theorem gover1 {a : Int} {k p bA bB : Nat} {X Y : Value} {w : World} (hk : 0 < k) (ha : a.natAbs < 2 ^ bA) (hbb : k < 2 ^ bB) (hbA : bA ≤ 90000) (hbB : bB ≤ 90000) (hp : p ≤ 90000) (h1 : DN w X (un a p)) (h2 : DN w Y (un k 0)) :
    Calls Tryz.prog 65 #[X, Y, .int .i64 p] w fun res w' => ∃ A ex, res = .returned (.tuple #[A, .bool ex]) ∧ DN w' A (un (a / (k : Int)) p) ∧ Below w.heap.size w w' := by
  have h := gover (r := p) (show (0 : Int) < (k : Int) by omega) ha (by simpa using hbb) hbA hbB hp (Nat.zero_le _) hp h1 h2
  have e : a * ((2 ^ (p + 0) : Nat) : Int) / ((k : Int) * ((2 ^ p : Nat) : Int)) = a / (k : Int) := by
    rw [Nat.add_zero]
    exact Int.mul_ediv_mul_of_pos_left _ _ (by exact_mod_cast Nat.two_pow_pos p)
  rw [e] at h
  exact h
end Go.Proofs.YtcdkkpjilgmncaaGreatDoor
namespace Go.Proofs.YtcdkkpjilgmncaaGreatDoor
set_option linter.unusedVariables false
set_option linter.unusedSimpArgs false
inductive Smp : Nat → Nat → Nat → Nat → Nat → Nat → Prop
  | whole {a b c d : Nat} : 0 < b → a % b = 0 → Smp a b c d (a / b) 1
  | above {a b c d : Nat} : 0 < b → a % b ≠ 0 → (a / b + 1) * d ≤ c → Smp a b c d (a / b + 1) 1
  | more {a b c d p q : Nat} : 0 < b → a % b ≠ 0 → c < (a / b + 1) * d → Smp d (c - a / b * d) b (a % b) p q → Smp a b c d (a / b * p + q) p
theorem smp_left {a b c d : Nat} (hb : 0 < b) (h0 : a % b ≠ 0) (hle : a * d ≤ c * b) (hc : c < (a / b + 1) * d) :
    0 < d ∧ a / b * d < c ∧ c - a / b * d < d ∧ d * (a % b) ≤ b * (c - a / b * d) := by
  have hd : 0 < d := by
    rcases Nat.eq_zero_or_pos d with h | h
    · subst h; rw [Nat.mul_zero] at hc; omega
    · exact h
  have e := Nat.div_add_mod a b
  obtain ⟨n, hn⟩ : ∃ n, n = a / b := ⟨_, rfl⟩
  obtain ⟨r, hr⟩ : ∃ r, r = a % b := ⟨_, rfl⟩
  rw [← hn, ← hr] at e
  rw [← hr] at h0
  rw [← hn] at hc
  rw [← hn, ← hr]
  have h1 : a * d = b * (n * d) + r * d := by rw [← e, Nat.add_mul, Nat.mul_assoc]
  have h2 : b * (n * d) < b * c := by
    have : 0 < r * d := Nat.mul_pos (by omega) hd
    rw [Nat.mul_comm b c]
    omega
  have h3 : n * d < c := Nat.lt_of_mul_lt_mul_left h2
  rw [Nat.add_mul, Nat.one_mul] at hc
  refine ⟨hd, h3, by omega, ?_⟩
  rw [Nat.mul_sub, Nat.mul_comm d r, Nat.mul_comm b c]
  omega
theorem smp_next {a b c d : Nat} (hb : 0 < b) (h0 : a % b ≠ 0) (hle : a * d ≤ c * b) (hc : c < (a / b + 1) * d) : 0 < c - a / b * d ∧ 0 < a % b ∧ d * (a % b) ≤ b * (c - a / b * d) := by
  have h := smp_left hb h0 hle hc
  exact ⟨by omega, by omega, h.2.2.2⟩
theorem smp_ex (m : Nat) : ∀ a b c d, b + d ≤ m → 0 < b → a * d ≤ c * b → ∃ p q, Smp a b c d p q := by
  induction m with
  | zero => intro a b c d h hb; omega
  | succ m ih =>
    intro a b c d h hb hle
    by_cases h0 : a % b = 0
    · exact ⟨_, _, .whole hb h0⟩
    · rcases Nat.lt_or_ge c ((a / b + 1) * d) with hc | hc
      · have hl := smp_left hb h0 hle hc
        have hn := smp_next hb h0 hle hc
        have hr := Nat.mod_lt a hb
        obtain ⟨p, q, hs⟩ := ih d (c - a / b * d) b (a % b) (by omega) hn.1 hn.2.2
        exact ⟨_, _, .more hb h0 hc hs⟩
      · exact ⟨_, _, .above hb h0 hc⟩
theorem smp_det {a b c d p q : Nat} (h : Smp a b c d p q) : ∀ {p' q' : Nat}, Smp a b c d p' q' → p = p' ∧ q = q' := by
  induction h with
  | whole hb h0 =>
    intro p' q' h'
    cases h' with
    | whole _ _ => exact ⟨rfl, rfl⟩
    | above _ h1 _ => exact absurd h0 h1
    | more _ h1 _ _ => exact absurd h0 h1
  | above hb h0 hc =>
    intro p' q' h'
    cases h' with
    | whole _ h1 => exact absurd h1 h0
    | above _ _ _ => exact ⟨rfl, rfl⟩
    | more _ _ h1 _ => omega
  | more hb h0 hc hs ih =>
    intro p' q' h'
    cases h' with
    | whole _ h1 => exact absurd h1 h0
    | above _ _ h1 => omega
    | more _ _ _ h1 =>
      obtain ⟨rfl, rfl⟩ := ih h1
      exact ⟨rfl, rfl⟩
theorem smp_scale {a b c d p q : Nat} (h : Smp a b c d p q) : ∀ {s t : Nat}, 0 < s → 0 < t → Smp (a * s) (b * s) (c * t) (d * t) p q := by
  induction h with
  | @whole a b c d hb h0 =>
    intro s t hs ht
    have e : a * s / (b * s) = a / b := Nat.mul_div_mul_right _ _ hs
    rw [← e]
    exact .whole (Nat.mul_pos hb hs) (by rw [Nat.mul_mod_mul_right, h0, Nat.zero_mul])
  | @above a b c d hb h0 hc =>
    intro s t hs ht
    have e : a * s / (b * s) = a / b := Nat.mul_div_mul_right _ _ hs
    have hm : a * s % (b * s) = a % b * s := Nat.mul_mod_mul_right ..
    rw [← e]
    refine .above (Nat.mul_pos hb hs) ?_ ?_
    · rw [hm]; have := Nat.mul_pos (Nat.pos_of_ne_zero h0) hs; omega
    · rw [e, ← Nat.mul_assoc]; exact Nat.mul_le_mul_right _ hc
  | @more a b c d p q hb h0 hc hs ih =>
    intro s t hs' ht
    have e : a * s / (b * s) = a / b := Nat.mul_div_mul_right _ _ hs'
    have hm : a * s % (b * s) = a % b * s := Nat.mul_mod_mul_right ..
    rw [← e]
    refine .more (Nat.mul_pos hb hs') ?_ ?_ ?_
    · rw [hm]; have := Nat.mul_pos (Nat.pos_of_ne_zero h0) hs'; omega
    · rw [e, ← Nat.mul_assoc]; exact Nat.mul_lt_mul_of_pos_right hc ht
    · rw [e, hm, ← Nat.mul_assoc, ← Nat.sub_mul]
      exact ih ht hs'
theorem smp_pos {a b c d p q : Nat} (h : Smp a b c d p q) (hle : a * d ≤ c * b) : 0 < q ∧ (0 < a → 0 < p) := by
  induction h with
  | @whole a b c d hb h0 =>
    refine ⟨Nat.one_pos, fun ha => Nat.div_pos (Nat.le_of_dvd ha (Nat.dvd_of_mod_eq_zero h0)) hb⟩
  | above hb h0 hc => exact ⟨Nat.one_pos, fun _ => Nat.succ_pos _⟩
  | @more a b c d p q hb h0 hc hs ih =>
    have hl := smp_left hb h0 hle hc
    have := ih hl.2.2.2
    exact ⟨this.2 hl.1, fun _ => by have := this.1; omega⟩
theorem smp_le {a b c d p q : Nat} (h : Smp a b c d p q) (hle : a * d ≤ c * b) : (p ≤ a ∧ q ≤ b) ∧ (0 < d → p ≤ c ∧ q ≤ d) := by
  induction h with
  | @whole a b c d hb h0 =>
    have e := Nat.div_add_mod a b
    rw [h0, Nat.add_zero] at e
    refine ⟨⟨Nat.div_le_self _ _, hb⟩, fun hd => ⟨?_, hd⟩⟩
    have h1 : b * (a / b * d) ≤ b * c := by rw [← Nat.mul_assoc, e, Nat.mul_comm b c]; exact hle
    have h2 := Nat.le_of_mul_le_mul_left h1 hb
    exact Nat.le_trans (Nat.le_mul_of_pos_right _ hd) h2
  | @above a b c d hb h0 hc =>
    refine ⟨⟨?_, hb⟩, fun hd => ⟨Nat.le_trans (Nat.le_mul_of_pos_right _ hd) hc, hd⟩⟩
    have hb2 : 2 ≤ b := by
      rcases (show b = 1 ∨ 2 ≤ b by omega) with h | h
      · subst h; rw [Nat.mod_one] at h0; exact absurd rfl h0
      · exact h
    have e := Nat.div_add_mod a b
    have h1 : 2 * (a / b) ≤ b * (a / b) := Nat.mul_le_mul_right _ hb2
    omega
  | @more a b c d p q hb h0 hc hs ih =>
    have hl := smp_left hb h0 hle hc
    obtain ⟨⟨i1, i2⟩, i3⟩ := ih hl.2.2.2
    obtain ⟨i4, i5⟩ := i3 (by omega)
    have e := Nat.div_add_mod a b
    have e2 : b * (a / b) = a / b * b := Nat.mul_comm _ _
    have h1 : a / b * p ≤ a / b * b := Nat.mul_le_mul_left _ i4
    have h2 : a / b * p ≤ a / b * d := Nat.mul_le_mul_left _ i1
    refine ⟨⟨by omega, i4⟩, fun hd => ⟨by omega, i1⟩⟩
theorem smp_in {a b c d p q : Nat} (h : Smp a b c d p q) (hle : a * d ≤ c * b) : (a * q ≤ p * b ∧ p * d ≤ c * q) ∧ ∀ p' q', 0 < q' → a * q' ≤ p' * b → p' * d ≤ c * q' → p ≤ p' ∧ q ≤ q' := by
  induction h with
  | @whole a b c d hb h0 =>
    have e := Nat.div_add_mod a b
    rw [h0, Nat.add_zero] at e
    have e2 : a / b * b = a := by rw [Nat.mul_comm]; exact e
    refine ⟨⟨by rw [e2]; omega, ?_⟩, fun p' q' hq h1 h2 => ⟨?_, hq⟩⟩
    · have h1 : b * (a / b * d) ≤ b * (c * 1) := by rw [← Nat.mul_assoc, e, Nat.mul_one, Nat.mul_comm b c]; exact hle
      exact Nat.le_of_mul_le_mul_left h1 hb
    · have h3 : a ≤ p' * b := Nat.le_trans (Nat.le_mul_of_pos_right _ hq) h1
      rw [← e2] at h3
      exact Nat.le_of_mul_le_mul_right h3 hb
  | @above a b c d hb h0 hc =>
    have e := Nat.div_add_mod a b
    have hr := Nat.mod_lt a hb
    obtain ⟨n, hn⟩ : ∃ n, n = a / b := ⟨_, rfl⟩
    rw [← hn] at e hc ⊢
    have e2 : b * n = n * b := Nat.mul_comm _ _
    refine ⟨⟨by rw [Nat.add_mul]; omega, by omega⟩, fun p' q' hq h1 h2 => ⟨?_, hq⟩⟩
    have h3 : a ≤ p' * b := Nat.le_trans (Nat.le_mul_of_pos_right _ hq) h1
    have h4 : n * b < p' * b := by omega
    exact Nat.lt_of_mul_lt_mul_right h4
  | @more a b c d p q hb h0 hc hs ih =>
    have hl := smp_left hb h0 hle hc
    obtain ⟨⟨i1, i2⟩, i3⟩ := ih hl.2.2.2
    have e := Nat.div_add_mod a b
    obtain ⟨n, hn⟩ : ∃ n, n = a / b := ⟨_, rfl⟩
    obtain ⟨r, hr⟩ : ∃ r, r = a % b := ⟨_, rfl⟩
    rw [← hn] at e hc hl i1 ⊢
    rw [← hr] at e hl i2
    simp only [← hn, ← hr] at i3
    obtain ⟨l, hL⟩ : ∃ l, l = c - n * d := ⟨_, rfl⟩
    have ec : c = n * d + l := by omega
    rw [← hL] at i1 hl
    simp only [← hL] at i3
    have ea : a = b * n + r := e.symm
    refine ⟨⟨?_, ?_⟩, fun p' q' hq h1 h2 => ?_⟩
    · rw [ea, Nat.add_mul, Nat.add_mul, Nat.mul_comm b n, Nat.mul_right_comm n b p]
      have : r * p ≤ q * b := by rw [Nat.mul_comm r p, Nat.mul_comm q b]; exact i2
      omega
    · rw [ec, Nat.add_mul, Nat.add_mul, Nat.mul_right_comm n p d]
      have : q * d ≤ l * p := by rw [Nat.mul_comm q d, Nat.mul_comm l p]; exact i1
      omega
    · -- p' = n q' + r', with q' / r' between the inverses
      have g1 : n * q' < p' := by
        have h3 : b * (n * q') < b * p' := by
          rw [Nat.mul_comm b p']
          have h4 : a * q' = b * (n * q') + r * q' := by rw [ea, Nat.add_mul, Nat.mul_assoc]
          have h5 : 0 < r * q' := Nat.mul_pos (by omega) hq
          omega
        exact Nat.lt_of_mul_lt_mul_left h3
      obtain ⟨r', hr'⟩ : ∃ r', p' = n * q' + r' := ⟨p' - n * q', by omega⟩
      have h6 : r * q' ≤ r' * b := by
        have h4 : a * q' = n * q' * b + r * q' := by rw [ea, Nat.add_mul, Nat.mul_comm b n, Nat.mul_right_comm n b q']
        rw [hr', Nat.add_mul] at h1
        omega
      have h7 : r' * d ≤ l * q' := by
        have h4 : c * q' = n * q' * d + l * q' := by rw [ec, Nat.add_mul, Nat.mul_right_comm n d q']
        rw [hr', Nat.add_mul] at h2
        omega
      have := i3 q' r' (by omega) (by rw [Nat.mul_comm d r', Nat.mul_comm q' l]; exact h7) (by rw [Nat.mul_comm q' r, Nat.mul_comm b r']; exact h6)
      have h8 : n * p ≤ n * q' := Nat.mul_le_mul_left _ this.1
      exact ⟨by omega, this.1⟩
end Go.Proofs.YtcdkkpjilgmncaaGreatDoor
namespace Go.Proofs.YtcdkkpjilgmncaaGreatDoor
set_option linter.unusedVariables false
set_option linter.unusedSimpArgs false
open Go.RowKit Go.Fl64
theorem okR_un {Z : Int} {p b : Nat} (h : Z.natAbs < 2 ^ b) (hb : b ≤ 60000) (hp : p ≤ 60000) : okR (decide (Z < 0)) Z.natAbs (-(p : Int)) = true :=
  Fits.ok (lo := -(p : Int)) (hi := (b : Int) - p) (.inr ⟨by omega, by omega, by rw [show ((b : Int) - p - (-(p : Int))).toNat = b by omega]; exact h⟩) (by omega) (by omega) (by omega)
theorem ok_un {Z : Int} {p b : Nat} (h : Z.natAbs < 2 ^ b) (hb : b ≤ 60000) (hp : p ≤ 60000) : Ok (un Z p) := ok_cn (okR_un h hb hp)
theorem pow_grow {x b : Nat} (k : Nat) (h : x < 2 ^ b) : x < 2 ^ (b + k) := Nat.lt_of_lt_of_le h (Nat.pow_le_pow_right (by decide) (by omega))
theorem abs_add {a b : Int} {k : Nat} (h1 : a.natAbs < 2 ^ k) (h2 : b.natAbs < 2 ^ k) : (a + b).natAbs < 2 ^ (k + 1) := by rw [Nat.pow_succ]; omega
theorem abs_sub {a b : Int} {k : Nat} (h1 : a.natAbs < 2 ^ k) (h2 : b.natAbs < 2 ^ k) : (a - b).natAbs < 2 ^ (k + 1) := by rw [Nat.pow_succ]; omega
theorem abs_mul {a b : Int} {k l : Nat} (h1 : a.natAbs < 2 ^ k) (h2 : b.natAbs < 2 ^ l) : (a * b).natAbs < 2 ^ (k + l) := by
  rw [Int.natAbs_mul, Nat.pow_add]
  exact Nat.mul_lt_mul'' h1 h2
theorem padd_un {a b : Int} {p k : Nat} (h1 : a.natAbs < 2 ^ k) (h2 : b.natAbs < 2 ^ k) (hk : k < 60000) (hp : p ≤ 60000) : Op2 39 (un a p) (un b p) (un (a + b) p) := by
  have e := gS_un (a := a) (b := b) (p := p)
  have := add_op (ok_un (p := p) h1 (by omega) hp) (ok_un (p := p) h2 (by omega) hp) (by
    rw [okR_cn]
    have o := ok_un (p := p) (abs_add h1 h2) (by omega) hp
    rw [← e] at o
    exact o)
  rw [← e]
  exact this
theorem psub_un {a b : Int} {p k : Nat} (h1 : a.natAbs < 2 ^ k) (h2 : b.natAbs < 2 ^ k) (hk : k < 60000) (hp : p ≤ 60000) : Op2 87 (un a p) (un b p) (un (a - b) p) := by
  have e := gD_un (a := a) (b := b) (p := p)
  have := sub_op (ok_un (p := p) h1 (by omega) hp) (ok_un (p := p) h2 (by omega) hp) (by
    rw [okR_cn]
    have o := ok_un (p := p) (abs_sub h1 h2) (by omega) hp
    rw [← e] at o
    exact o)
  rw [← e]
  exact this
theorem pmul_un {a b : Int} {p q k l : Nat} (h1 : a.natAbs < 2 ^ k) (h2 : b.natAbs < 2 ^ l) (hk : k + l ≤ 60000) (hp : p + q ≤ 60000) : Op2 84 (un a p) (un b q) (un (a * b) (p + q)) := by
  have e := gM_un (a := a) (b := b) (p := p) (q := q)
  have := mul_op (ok_un (p := p) h1 (by omega) (by omega)) (ok_un (p := q) h2 (by omega) (by omega)) (by
    rw [okR_cn]
    have o := ok_un (p := p + q) (abs_mul h1 h2) (by omega) hp
    rw [← e] at o
    exact o)
  rw [← e]
  exact this
theorem ord_un {a b : Int} {p : Nat} : ordN (un a p).1 (un a p).2.1 (un a p).2.2 (un b p).1 (un b p).2.1 (un b p).2.2 = cmpI a b := by
  have e1 := (un_e (p := p) (Nat.lt_two_pow_self (n := a.natAbs))).2.2
  have e2 := (un_e (p := p) (Nat.lt_two_pow_self (n := b.natAbs))).2.2
  rw [ordN_vz e1 e2, vz_un a (Nat.le_refl _), vz_un b (Nat.le_refl _), Nat.sub_self, Nat.pow_zero]
  simp
theorem pcmp_un {a b : Int} {p k : Nat} (h1 : a.natAbs < 2 ^ k) (h2 : b.natAbs < 2 ^ k) (hk : k ≤ 60000) (hp : p ≤ 60000) {W : World} {X Y : Value} (hX : PN W X (un a p)) (hY : PN W Y (un b p)) :
    Calls Tryz.prog 85 #[X, Y] W fun r w' => r = .returned (.int .i64 (cmpI a b)) ∧ Below W.heap.size W w' := by
  have o1 := ok_un (p := p) h1 hk hp
  have o2 := ok_un (p := p) h2 hk hp
  have f1 := o1.facts
  have f2 := o2.facts
  obtain ⟨ua, uc, rfl, i1⟩ := hX
  obtain ⟨va, vc, rfl, i2⟩ := hY
  have := cmp_ok i1 i2 (by omega) (by omega) (by omega) (by omega) o1 o2
  rw [ord_un] at this
  exact this
theorem div_cross {X Y A B : Nat} (hY : 0 < Y) (hB : 0 < B) (h : X * B = A * Y) : X / Y = A / B ∧ (X % Y = 0 ↔ A % B = 0) := by
  have h1 : X / Y = A / B := by
    rw [← Nat.mul_div_mul_right X Y hB, h, Nat.mul_comm Y B, Nat.mul_div_mul_right A B hY]
  refine ⟨h1, ?_⟩
  have e1 := Nat.div_add_mod X Y
  have e2 := Nat.div_add_mod A B
  have e3 : X % Y * B = A % B * Y := by
    have g1 : X * B = Y * (A / B) * B + X % Y * B := by rw [← Nat.add_mul, ← h1, e1]
    have g2 : A * Y = B * (A / B) * Y + A % B * Y := by rw [← Nat.add_mul, e2]
    have g3 : Y * (A / B) * B = B * (A / B) * Y := by ac_rfl
    omega
  constructor
  · intro h0
    rw [h0, Nat.zero_mul] at e3
    rcases Nat.mul_eq_zero.1 e3.symm with h | h
    · exact h
    · omega
  · intro h0
    rw [h0, Nat.zero_mul] at e3
    rcases Nat.mul_eq_zero.1 e3 with h | h
    · exact h
    · omega
theorem un_nat {A p : Nat} : (un (A : Int) p).1 = false := by
  unfold un cn
  rw [decide_eq_false (by omega)]
  split <;> rfl
theorem pquo_un {A B p k : Nat} (h1 : A < 2 ^ k) (h2 : B < 2 ^ k) (h0 : 0 < B) (hk : k ≤ 60000) (hp : p ≤ 60000) {W : World} {X Y : Value} (hT : Tab32 W) (hX : PN W X (un (A : Int) p)) (hY : PN W Y (un (B : Int) p)) :
    Calls Tryz.prog 81 #[X, Y, .int .i64 0] W fun r w' => ∃ s ao n cap e, r = .returned (.tuple #[.agg #[.bool s, .slice ao n cap, .int .i64 e], .bool (decide (A % B = 0)), .int .i64 0]) ∧ PN w' (.agg #[.bool s, .slice ao n cap, .int .i64 e]) (un ((A / B : Nat) : Int) 0) ∧ Below W.heap.size W w' := by
  have a1 : ((A : Nat) : Int).natAbs < 2 ^ k := by rw [Int.natAbs_natCast]; exact h1
  have b1 : ((B : Nat) : Int).natAbs < 2 ^ k := by rw [Int.natAbs_natCast]; exact h2
  have o1 := ok_un (p := p) a1 hk hp
  have o2 := ok_un (p := p) b1 hk hp
  have f1 := o1.facts
  have f2 := o2.facts
  have v1 := vz_un (K := p) (p := p) (A : Int) (Nat.le_refl _)
  have v2 := vz_un (K := p) (p := p) (B : Int) (Nat.le_refl _)
  have g1 := (un_e (p := p) a1).2.2
  have g2 := (un_e (p := p) b1).2.2
  have n1 := un_nat (A := A) (p := p)
  have n2 := un_nat (A := B) (p := p)
  have z2 : (un (B : Int) p).2.1 ≠ 0 := fun h => by have := un_sign.2.1 h; omega
  obtain ⟨ua, uc, rfl, i1⟩ := hX
  obtain ⟨va, vc, rfl, i2⟩ := hY
  obtain ⟨t1, ht1⟩ : ∃ t, t = un (A : Int) p := ⟨_, rfl⟩
  obtain ⟨t2, ht2⟩ : ∃ t, t = un (B : Int) p := ⟨_, rfl⟩
  rw [← ht1] at o1 f1 v1 g1 n1 i1 ⊢
  rw [← ht2] at o2 f2 v2 g2 n2 z2 i2 ⊢
  obtain ⟨s1, x, ea⟩ := t1
  obtain ⟨s2, y, eb⟩ := t2
  simp only at o1 f1 v1 g1 n1 i1 o2 f2 v2 g2 n2 z2 i2 ⊢
  subst n1
  subst n2
  have eA : x * 2 ^ (ea + (p : Int)).toNat = A := by
    unfold vz sv at v1
    rw [Nat.sub_self, Nat.pow_zero] at v1
    simp only [Bool.false_eq_true, if_false, Int.mul_one] at v1
    have : ((x * 2 ^ (ea + (p : Int)).toNat : Nat) : Int) = (A : Int) := by
      rw [Int.natCast_mul]; simpa using v1
    exact Int.ofNat.inj this
  have eB : y * 2 ^ (eb + (p : Int)).toNat = B := by
    unfold vz sv at v2
    rw [Nat.sub_self, Nat.pow_zero] at v2
    simp only [Bool.false_eq_true, if_false, Int.mul_one] at v2
    have : ((y * 2 ^ (eb + (p : Int)).toNat : Nat) : Int) = (B : Int) := by
      rw [Int.natCast_mul]; simpa using v2
    exact Int.ofNat.inj this
  obtain ⟨P, hP⟩ : ∃ P, x * 2 ^ (ea + 0 - min (ea + 0) eb).toNat = P := ⟨_, rfl⟩
  obtain ⟨Q, hQ⟩ : ∃ Q, y * 2 ^ (eb - min (ea + 0) eb).toNat = Q := ⟨_, rfl⟩
  have hQ0 : 0 < Q := by rw [← hQ]; exact Nat.mul_pos (Nat.pos_of_ne_zero z2) (Nat.two_pow_pos _)
  have hcr : P * B = A * Q := by
    rw [← hP, ← hQ, ← eA, ← eB]
    have e1 : (ea + 0 - min (ea + 0) eb).toNat + (eb + (p : Int)).toNat = (ea + (p : Int)).toNat + (eb - min (ea + 0) eb).toNat := by omega
    generalize (ea + 0 - min (ea + 0) eb).toNat = j1 at *
    generalize (eb + (p : Int)).toNat = j2 at *
    generalize (ea + (p : Int)).toNat = j3 at *
    generalize (eb - min (ea + 0) eb).toNat = j4 at *
    have e2 : (2 : Nat) ^ j1 * 2 ^ j2 = 2 ^ j3 * 2 ^ j4 := by rw [← Nat.pow_add, ← Nat.pow_add, e1]
    calc x * 2 ^ j1 * (y * 2 ^ j2) = x * y * (2 ^ j1 * 2 ^ j2) := by ac_rfl
      _ = x * y * (2 ^ j3 * 2 ^ j4) := by rw [e2]
      _ = x * 2 ^ j3 * (y * 2 ^ j4) := by ac_rfl
  obtain ⟨d1, d2⟩ := div_cross hQ0 h0 hcr
  refine (c44 (na := false) (nb := false) (place := 0) i1 i2 hT z2 (by omega) (by omega) o1 o2 ⟨f1.2.1, f1.2.2.1⟩ ⟨f2.2.1, f2.2.2.1⟩ (by omega) P Q hP hQ).mono ?_
  rintro r w' ⟨N, rfl, hN, hb⟩
  have hz : (if ((false : Bool) != false) && !(decide (P % Q = 0)) then P / Q + 1 else P / Q) = A / B := by rw [← d1]; rfl
  have hdec : decide (P % Q = 0) = decide (A % B = 0) := by
    by_cases h : A % B = 0
    · rw [decide_eq_true h, decide_eq_true (d2.2 h)]
    · rw [decide_eq_false h, decide_eq_false (fun g => h (d2.1 g))]
  rw [hz] at hN
  have hq1 : ((A / B : Nat) : Int).natAbs < 2 ^ k := by rw [Int.natAbs_natCast]; exact Nat.lt_of_le_of_lt (Nat.div_le_self _ _) h1
  have hokq : okR ((false : Bool) != false) (A / B) (-(0 : Int)) = true := by
    have := okR_un (p := 0) hq1 hk (by omega)
    rw [decide_eq_false (by omega), Int.natAbs_natCast] at this
    exact this
  rw [hz, hokq, hdec]
  have hpn := hN.pn
  have he : cn ((false : Bool) != false) (A / B) (-(0 : Int)) = un ((A / B : Nat) : Int) 0 := by
    unfold un
    rw [decide_eq_false (by omega), Int.natAbs_natCast]
    rfl
  rw [he] at hpn
  obtain ⟨s', ao, n, cap, e', rfl⟩ := hpn.shape
  exact ⟨s', ao, n, cap, e', by rw [Bool.and_true]; rfl, hpn, hb⟩
def Fv (W : World) (U : Value) (t1 t2 : Bool × Nat × Int) : Prop := ∃ (s1 : Bool) (ao1 : Option Addr) (n1 cp1 : Nat) (e1 : Int) (s2 : Bool) (ao2 : Option Addr) (n2 cp2 : Nat) (e2 : Int), U = .agg #[.bool s1, .slice ao1 n1 cp1, .int .i64 e1, .bool s2, .slice ao2 n2 cp2, .int .i64 e2] ∧ PN W (.agg #[.bool s1, .slice ao1 n1 cp1, .int .i64 e1]) t1 ∧ PN W (.agg #[.bool s2, .slice ao2 n2 cp2, .int .i64 e2]) t2
theorem Fv.later {W w' : World} {U : Value} {t1 t2 : Bool × Nat × Int} (h : Fv W U t1 t2) (hb : Below W.heap.size W w') : Fv w' U t1 t2 := by
  obtain ⟨_, _, _, _, _, _, _, _, _, _, e, h1, h2⟩ := h
  exact ⟨_, _, _, _, _, _, _, _, _, _, e, h1.later hb, h2.later hb⟩
theorem cells6F {w : World} {g : Nat} {a b c d e f : Value} {T : TypeId} (h : w.heap[g]? = some (.cells #[a, b, c, d, e, f] T (0, 0))) :
    (w.cell? ⟨g, 0, none⟩ = some a ∧ w.cell? ⟨g, 1, none⟩ = some b ∧ w.cell? ⟨g, 2, none⟩ = some c ∧ w.cell? ⟨g, 3, none⟩ = some d ∧ w.cell? ⟨g, 4, none⟩ = some e ∧ w.cell? ⟨g, 5, none⟩ = some f) ∧ (w.frozen? ⟨g, 0, none⟩ = false ∧ w.frozen? ⟨g, 1, none⟩ = false ∧ w.frozen? ⟨g, 2, none⟩ = false ∧ w.frozen? ⟨g, 3, none⟩ = false ∧ w.frozen? ⟨g, 4, none⟩ = false ∧ w.frozen? ⟨g, 5, none⟩ = false) := by
  simp [World.cell?, World.frozen?, h]
theorem cells3N {w : World} {g : Nat} {a b c : Value} {T : TypeId} (h : w.heap[g]? = some (.cells #[a, b, c] T (0, 0))) :
    (w.cell? ⟨g, 0, none⟩ = some a ∧ w.cell? ⟨g, 1, none⟩ = some b ∧ w.cell? ⟨g, 2, none⟩ = some c) ∧ (w.frozen? ⟨g, 0, none⟩ = false ∧ w.frozen? ⟨g, 1, none⟩ = false ∧ w.frozen? ⟨g, 2, none⟩ = false) := by
  simp [World.cell?, World.frozen?, h]
theorem two_new {w W : World} (a b : Obj) (hW : W = (w.alloc a).alloc b) : W.heap[w.heap.size]? = some a ∧ W.heap[w.heap.size + 1]? = some b ∧ W.heap.size = w.heap.size + 1 + 1 ∧ Below w.heap.size w W := by
  subst hW
  refine ⟨?_, ?_, by simp, ((Below.refl _ _).alloc (Nat.le_refl _) _).alloc (by simp) _⟩
  · rw [Below.heap_alloc _ _ _ (by simp)]; exact heap_alloc_new _ _
  · have := heap_alloc_new (w.alloc a) b
    simpa using this
set_option maxRecDepth 200000 in
theorem fbelow_1 (s1 : Bool) (ao1 : Option Addr) (n1 cp1 : Nat) (e1 : Int) (s2 : Bool) (ao2 : Option Addr) (n2 cp2 : Nat) (e2 : Int) (s3 : Bool) (ao3 : Option Addr) (n3 cp3 : Nat) (e3 c : Int) (T : Bool × Nat × Int) (w : World)
    (k1 : ∀ W, Below w.heap.size w W → Calls Tryz.prog 84 #[.agg #[.bool s3, .slice ao3 n3 cp3, .int .i64 e3], .agg #[.bool s2, .slice ao2 n2 cp2, .int .i64 e2]] W fun r w' => ∃ s ao n cap e, r = .returned (.tuple #[.agg #[.bool s, .slice ao n cap, .int .i64 e], .int .i64 0]) ∧ PN w' (.agg #[.bool s, .slice ao n cap, .int .i64 e]) T ∧ Below W.heap.size W w')
    (k2 : ∀ W Y, Below w.heap.size w W → PN W Y T → Calls Tryz.prog 85 #[.agg #[.bool s1, .slice ao1 n1 cp1, .int .i64 e1], Y] W fun r w' => r = .returned (.int .i64 c) ∧ Below W.heap.size W w') :
    Calls Tryz.prog 40 #[.agg #[.bool s1, .slice ao1 n1 cp1, .int .i64 e1, .bool s2, .slice ao2 n2 cp2, .int .i64 e2], .agg #[.bool s3, .slice ao3 n3 cp3, .int .i64 e3]] w fun r w' => r = .returned (.bool (decide (c < 0))) ∧ Below w.heap.size w w' := by
  obtain ⟨W, hW⟩ : ∃ W, W = (w.alloc (.cells #[.bool s1, .slice ao1 n1 cp1, .int .i64 e1, .bool s2, .slice ao2 n2 cp2, .int .i64 e2] 45)).alloc (.cells #[.bool s3, .slice ao3 n3 cp3, .int .i64 e3] 28) := ⟨_, rfl⟩
  obtain ⟨hF, hN, hsz, hBW⟩ := two_new _ _ hW
  obtain ⟨⟨a0, a1, a2, a3, a4, a5⟩, -⟩ := cells6F hF
  obtain ⟨⟨b0, b1, b2⟩, -⟩ := cells3N hN
  have HK2 : Hid _ := k2
  have HF : Hid (W.heap[w.heap.size]? = some (.cells #[.bool s1, .slice ao1 n1 cp1, .int .i64 e1, .bool s2, .slice ao2 n2 cp2, .int .i64 e2] 45 (0, 0)) ∧ Below w.heap.size w W) := ⟨hF, hBW⟩
  have kk := k1 W hBW
  clear k1 k2 hF hN hsz hBW
  go_enter Tryz.func40, Tryz.ntmps40
  go_upto_region 1 with fail
  rw [← hW]
  clear hW
  go_wp2_with fail
  refine kk.mono ?_
  rintro r w1 ⟨s4, ao4, n4, cp4, e4, rfl, hP, hb1⟩
  clear kk a0 a1 a2 a3 a4 a5 b0 b1 b2
  obtain ⟨W1, hW1⟩ : ∃ W1, W1 = w1.alloc (.cells #[.bool s4, .slice ao4 n4 cp4, .int .i64 e4] 28) := ⟨_, rfl⟩
  have hbW : Below W.heap.size W W1 := by rw [hW1]; exact hb1.alloc hb1.size _
  obtain ⟨⟨a0, a1, a2, a3, a4, a5⟩, -⟩ := cells6F (box_later HF.out.1 hbW (lt_of_box HF.out.1))
  obtain ⟨⟨b0, b1, b2⟩, -⟩ := cells3N (by rw [hW1]; exact heap_alloc_new _ _ : W1.heap[w1.heap.size]? = some (.cells #[.bool s4, .slice ao4 n4 cp4, .int .i64 e4] 28 (0, 0)))
  have HB : Hid (Below w.heap.size w W1) := HF.out.2.trans (hbW.mono HF.out.2.size)
  have kk := HK2.out W1 _ HB.out (hP.later (by rw [hW1]; exact (Below.refl _ _).alloc (Nat.le_refl _) _))
  clear hP hb1 hbW
  rw [hW1] at a0 a1 a2 a3 a4 a5 b0 b1 b2
  go_wp2_with fail
  rw [← hW1]
  clear hW1 a0 a1 a2 a3 a4 a5 b0 b1 b2
  refine kk.mono ?_
  rintro r w2 ⟨rfl, hb2⟩
  have HB2 : Hid (Below w.heap.size w w2) := HB.out.trans (hb2.mono HB.out.size)
  clear kk hb2
  go_wp2_with fail
  go_ret
  exact ⟨rfl, HB2.out⟩
theorem at_cells {W W' : World} {ao : Option Addr} {n z g : Nat} {T : TypeId} {s1 s2 : Bool} {a1 a2 : Option Addr} {m1 c1 m2 c2 : Nat} {e1 e2 : Int} (h : At W ao n z) (hE : W.heap[g]? = some (.cells #[.bool s1, .slice a1 m1 c1, .int .i64 e1] T (0, 0)) ∨ W.heap[g]? = some (.cells #[.bool s1, .slice a1 m1 c1, .int .i64 e1, .bool s2, .slice a2 m2 c2, .int .i64 e2] T (0, 0))) (hW : ∀ b, b ≠ g → W'.heap[b]? = W.heap[b]?) : At W' ao n z := by
  obtain ⟨bb, o, h1, h2⟩ := h
  refine ⟨bb, o, h1, fun i hi => ?_⟩
  have hc := h2 i hi
  have hne : bb ≠ g := by
    rintro rfl
    rcases hE with hE | hE
    · simp only [World.cell?, hE] at hc
      rcases (show o + i = 0 ∨ o + i = 1 ∨ o + i = 2 ∨ 3 ≤ o + i by omega) with e | e | e | e
      · rw [e] at hc; simp at hc
      · rw [e] at hc; simp at hc
      · rw [e] at hc; simp at hc
      · rw [Array.getElem?_eq_none (by simpa using e)] at hc; cases hc
    · simp only [World.cell?, hE] at hc
      rcases (show o + i = 0 ∨ o + i = 1 ∨ o + i = 2 ∨ o + i = 3 ∨ o + i = 4 ∨ o + i = 5 ∨ 6 ≤ o + i by omega) with e | e | e | e | e | e | e
      · rw [e] at hc; simp at hc
      · rw [e] at hc; simp at hc
      · rw [e] at hc; simp at hc
      · rw [e] at hc; simp at hc
      · rw [e] at hc; simp at hc
      · rw [e] at hc; simp at hc
      · rw [Array.getElem?_eq_none (by simpa using e)] at hc; cases hc
  unfold World.cell? at hc ⊢
  rw [hW bb hne]
  exact hc
theorem set_other (W : World) (g b i : Nat) (v : Value) (h : b ≠ g) : (W.setCell ⟨g, i, none⟩ v).heap[b]? = W.heap[b]? := by
  simp [World.setCell, Array.getElem?_modify, Ne.symm h]
theorem PN.cells {W W' : World} {A : Value} {t : Bool × Nat × Int} {g : Nat} {T : TypeId} {s1 s2 : Bool} {a1 a2 : Option Addr} {m1 c1 m2 c2 : Nat} {e1 e2 : Int} (h : PN W A t) (hE : W.heap[g]? = some (.cells #[.bool s1, .slice a1 m1 c1, .int .i64 e1] T (0, 0)) ∨ W.heap[g]? = some (.cells #[.bool s1, .slice a1 m1 c1, .int .i64 e1, .bool s2, .slice a2 m2 c2, .int .i64 e2] T (0, 0))) (hW : ∀ b, b ≠ g → W'.heap[b]? = W.heap[b]?) : PN W' A t := by
  obtain ⟨ao, cap, rfl, a', c', h1, h2, h3, h4⟩ := h
  exact ⟨ao, cap, rfl, a', c', h1, h2, h3, at_cells h4 hE hW⟩
theorem PN.set3 {W : World} {A : Value} {t : Bool × Nat × Int} {g : Nat} {T : TypeId} {s1 : Bool} {a1 : Option Addr} {m1 c1 : Nat} {e1 : Int} (h : PN W A t) (hE : W.heap[g]? = some (.cells #[.bool s1, .slice a1 m1 c1, .int .i64 e1] T (0, 0))) (x y z : Value) : PN (((W.setCell ⟨g, 0, none⟩ x).setCell ⟨g, 1, none⟩ y).setCell ⟨g, 2, none⟩ z) A t :=
  h.cells (s2 := false) (a2 := none) (m2 := 0) (c2 := 0) (e2 := 0) (.inl hE) fun b hb => by rw [set_other _ _ _ _ _ hb, set_other _ _ _ _ _ hb, set_other _ _ _ _ _ hb]
theorem set6_at {w : World} {g : Nat} {a b c d e f : Value} {T : TypeId} (a1 b1 c1 a2 b2 c2 : Value) (h : w.heap[g]? = some (.cells #[a, b, c, d, e, f] T (0, 0))) :
    ((((((w.setCell ⟨g, 0, none⟩ a1).setCell ⟨g, 1, none⟩ b1).setCell ⟨g, 2, none⟩ c1).setCell ⟨g, 3, none⟩ a2).setCell ⟨g, 4, none⟩ b2).setCell ⟨g, 5, none⟩ c2).heap[g]? = some (.cells #[a1, b1, c1, a2, b2, c2] T (0, 0)) := by
  simp [World.setCell, Array.getElem?_modify, h]
theorem PN.set6 {W : World} {A : Value} {t : Bool × Nat × Int} {g : Nat} {T : TypeId} {s1 s2 : Bool} {a1 a2 : Option Addr} {m1 c1 m2 c2 : Nat} {e1 e2 : Int} (h : PN W A t) (hE : W.heap[g]? = some (.cells #[.bool s1, .slice a1 m1 c1, .int .i64 e1, .bool s2, .slice a2 m2 c2, .int .i64 e2] T (0, 0))) (x y z x' y' z' : Value) : PN ((((((W.setCell ⟨g, 0, none⟩ x).setCell ⟨g, 1, none⟩ y).setCell ⟨g, 2, none⟩ z).setCell ⟨g, 3, none⟩ x').setCell ⟨g, 4, none⟩ y').setCell ⟨g, 5, none⟩ z') A t :=
  h.cells (.inr hE) fun b hb => by rw [set_other _ _ _ _ _ hb, set_other _ _ _ _ _ hb, set_other _ _ _ _ _ hb, set_other _ _ _ _ _ hb, set_other _ _ _ _ _ hb, set_other _ _ _ _ _ hb]
theorem below_set3 {B : Nat} {w0 w : World} {g : Nat} (h : Below B w0 w) (hg : B ≤ g) (x y z : Value) : Below B w0 (((w.setCell ⟨g, 0, none⟩ x).setCell ⟨g, 1, none⟩ y).setCell ⟨g, 2, none⟩ z) := ((h.setCell hg _).setCell hg _).setCell hg _
theorem below_set6 {B : Nat} {w0 w : World} {g : Nat} (h : Below B w0 w) (hg : B ≤ g) (x y z x' y' z' : Value) : Below B w0 ((((((w.setCell ⟨g, 0, none⟩ x).setCell ⟨g, 1, none⟩ y).setCell ⟨g, 2, none⟩ z).setCell ⟨g, 3, none⟩ x').setCell ⟨g, 4, none⟩ y').setCell ⟨g, 5, none⟩ z') := (((((h.setCell hg _).setCell hg _).setCell hg _).setCell hg _).setCell hg _).setCell hg _
theorem set3_at {w : World} {g : Nat} {a b c : Value} {T : TypeId} (a1 b1 c1 : Value) (h : w.heap[g]? = some (.cells #[a, b, c] T (0, 0))) :
    (((w.setCell ⟨g, 0, none⟩ a1).setCell ⟨g, 1, none⟩ b1).setCell ⟨g, 2, none⟩ c1).heap[g]? = some (.cells #[a1, b1, c1] T (0, 0)) := by
  simp [World.setCell, Array.getElem?_modify, h]
def CN2 (w : World) (f : FuncId) (X Y : Value) (T : Bool × Nat × Int) : Prop := ∀ W, Below w.heap.size w W → Calls Tryz.prog f #[X, Y] W fun r w' => ∃ s ao n cap e, r = .returned (.tuple #[.agg #[.bool s, .slice ao n cap, .int .i64 e], .int .i64 0]) ∧ PN w' (.agg #[.bool s, .slice ao n cap, .int .i64 e]) T ∧ Below W.heap.size W w'
set_option maxRecDepth 200000 in
theorem ffloor_1 (s1 : Bool) (ao1 : Option Addr) (n1 cp1 : Nat) (e1 : Int) (s2 : Bool) (ao2 : Option Addr) (n2 cp2 : Nat) (e2 : Int) (x : Bool) (T : Bool × Nat × Int) (w : World)
    (k1 : ∀ W, Below w.heap.size w W → Calls Tryz.prog 81 #[.agg #[.bool s1, .slice ao1 n1 cp1, .int .i64 e1], .agg #[.bool s2, .slice ao2 n2 cp2, .int .i64 e2], .int .i64 0] W fun r w' => ∃ s ao n cap e, r = .returned (.tuple #[.agg #[.bool s, .slice ao n cap, .int .i64 e], .bool x, .int .i64 0]) ∧ PN w' (.agg #[.bool s, .slice ao n cap, .int .i64 e]) T ∧ Below W.heap.size W w') :
    Calls Tryz.prog 38 #[.agg #[.bool s1, .slice ao1 n1 cp1, .int .i64 e1, .bool s2, .slice ao2 n2 cp2, .int .i64 e2]] w fun r w' => ∃ s ao n cap e, r = .returned (.tuple #[.agg #[.bool s, .slice ao n cap, .int .i64 e], .bool x]) ∧ PN w' (.agg #[.bool s, .slice ao n cap, .int .i64 e]) T ∧ Below w.heap.size w w' := by
  obtain ⟨W, hW⟩ : ∃ W, W = (w.alloc (.cells #[.bool s1, .slice ao1 n1 cp1, .int .i64 e1, .bool s2, .slice ao2 n2 cp2, .int .i64 e2] 45)).alloc (.cells #[.bool false, .slice none 0 0, .int .i64 0] 28) := ⟨_, rfl⟩
  obtain ⟨hF, hN, hsz, hBW⟩ := two_new _ _ hW
  obtain ⟨⟨a0, a1, a2, a3, a4, a5⟩, -⟩ := cells6F hF
  have HF : Hid (W.heap[w.heap.size + 1]? = some (.cells #[.bool false, .slice none 0 0, .int .i64 0] 28 (0, 0)) ∧ Below w.heap.size w W) := ⟨hN, hBW⟩
  have kk := k1 W hBW
  clear k1 hF hN hsz hBW
  go_enter Tryz.func38, Tryz.ntmps38
  go_upto_region 1 with fail
  rw [← hW]
  clear hW
  go_wp2_with fail
  refine kk.mono ?_
  rintro r w1 ⟨s4, ao4, n4, cp4, e4, rfl, hP, hb1⟩
  clear kk a0 a1 a2 a3 a4 a5
  obtain ⟨W1, hW1⟩ : ∃ W1, W1 = w1.alloc (.cells #[.bool s4, .slice ao4 n4 cp4, .int .i64 e4] 28) := ⟨_, rfl⟩
  have hbW : Below W.heap.size W W1 := by rw [hW1]; exact hb1.alloc hb1.size _
  have HG : Hid (W1.heap[w.heap.size + 1]? = some (.cells #[.bool false, .slice none 0 0, .int .i64 0] 28 (0, 0)) ∧ Below w.heap.size w W1 ∧ PN W1 (.agg #[.bool s4, .slice ao4 n4 cp4, .int .i64 e4]) T) := ⟨box_later HF.out.1 hbW (lt_of_box HF.out.1), HF.out.2.trans (hbW.mono HF.out.2.size), hP.later (by rw [hW1]; exact (Below.refl _ _).alloc (Nat.le_refl _) _)⟩
  obtain ⟨⟨a0, a1, a2⟩, a3, a4, a5⟩ := cells3N HG.out.1
  obtain ⟨⟨b0, b1, b2⟩, -⟩ := cells3N (by rw [hW1]; exact heap_alloc_new _ _ : W1.heap[w1.heap.size]? = some (.cells #[.bool s4, .slice ao4 n4 cp4, .int .i64 e4] 28 (0, 0)))
  clear hP hb1 hbW
  rw [hW1] at a0 a1 a2 a3 a4 a5 b0 b1 b2
  go_wp2_with fail
  rw [← hW1]
  refine bodyPost_ret (results_cell_tmp_row rfl _ _ (w.heap.size + 1) 28 #[.bool s4, .slice ao4 n4 cp4, .int .i64 e4] (0, 0) _ rfl (set3_at _ _ _ HG.out.1) Tryz.underlying28 rfl Tryz.info28) rfl ?_
  exact ⟨_, _, _, _, _, rfl, HG.out.2.2.set3 HG.out.1 _ _ _, below_set3 HG.out.2.1 (by omega) _ _ _⟩
theorem three_new {w W : World} (a b c : Obj) (hW : W = ((w.alloc a).alloc b).alloc c) : W.heap[w.heap.size]? = some a ∧ W.heap[w.heap.size + 1]? = some b ∧ W.heap[w.heap.size + 1 + 1]? = some c ∧ Below w.heap.size w W := by
  obtain ⟨V, hV⟩ : ∃ V, V = (w.alloc a).alloc b := ⟨_, rfl⟩
  obtain ⟨h1, h2, h3, h4⟩ := two_new a b hV
  have hb : Below V.heap.size V W := by rw [hW, ← hV]; exact (Below.refl _ _).alloc (Nat.le_refl _) _
  refine ⟨box_later h1 hb (by omega), box_later h2 hb (by omega), ?_, h4.trans (hb.mono h4.size)⟩
  rw [hW, ← hV, ← h3]; exact heap_alloc_new _ _
theorem four_new {w W : World} (a b c d : Obj) (hW : W = (((w.alloc a).alloc b).alloc c).alloc d) : W.heap[w.heap.size]? = some a ∧ W.heap[w.heap.size + 1]? = some b ∧ W.heap[w.heap.size + 1 + 1]? = some c ∧ W.heap[w.heap.size + 1 + 1 + 1]? = some d ∧ Below w.heap.size w W := by
  obtain ⟨V, hV⟩ : ∃ V, V = ((w.alloc a).alloc b).alloc c := ⟨_, rfl⟩
  obtain ⟨h1, h2, h3, h4⟩ := three_new a b c hV
  have hs : V.heap.size = w.heap.size + 1 + 1 + 1 := by rw [hV]; simp
  have hb : Below V.heap.size V W := by rw [hW, ← hV]; exact (Below.refl _ _).alloc (Nat.le_refl _) _
  refine ⟨box_later h1 hb (by omega), box_later h2 hb (by omega), box_later h3 hb (by omega), ?_, h4.trans (hb.mono h4.size)⟩
  rw [hW, ← hV, ← hs]; exact heap_alloc_new _ _
def OutP (W : World) (T : Bool × Nat × Int) (r : Ending) (w' : World) : Prop := ∃ s ao n cap e, r = .returned (.agg #[.bool s, .slice ao n cap, .int .i64 e]) ∧ PN w' (.agg #[.bool s, .slice ao n cap, .int .i64 e]) T ∧ Below W.heap.size W w'
def OutFv (W : World) (t1 t2 : Bool × Nat × Int) (r : Ending) (w' : World) : Prop := ∃ U, r = .returned U ∧ Fv w' U t1 t2 ∧ Below W.heap.size W w'
set_option maxRecDepth 200000 in
theorem frest_1 (s1 : Bool) (ao1 : Option Addr) (n1 cp1 : Nat) (e1 : Int) (s2 : Bool) (ao2 : Option Addr) (n2 cp2 : Nat) (e2 : Int) (s3 : Bool) (ao3 : Option Addr) (n3 cp3 : Nat) (e3 : Int) (T2 T T' : Bool × Nat × Int) (w : World)
    (hq : PN w (.agg #[.bool s2, .slice ao2 n2 cp2, .int .i64 e2]) T2)
    (k1 : CN2 w 84 (.agg #[.bool s3, .slice ao3 n3 cp3, .int .i64 e3]) (.agg #[.bool s2, .slice ao2 n2 cp2, .int .i64 e2]) T)
    (k2 : ∀ W Y, Below w.heap.size w W → PN W Y T → Calls Tryz.prog 87 #[.agg #[.bool s1, .slice ao1 n1 cp1, .int .i64 e1], Y] W fun r w' => ∃ s ao n cap e, r = .returned (.tuple #[.agg #[.bool s, .slice ao n cap, .int .i64 e], .int .i64 0]) ∧ PN w' (.agg #[.bool s, .slice ao n cap, .int .i64 e]) T' ∧ Below W.heap.size W w') :
    Calls Tryz.prog 42 #[.agg #[.bool s1, .slice ao1 n1 cp1, .int .i64 e1, .bool s2, .slice ao2 n2 cp2, .int .i64 e2], .agg #[.bool s3, .slice ao3 n3 cp3, .int .i64 e3]] w fun r w' => OutFv w T2 T' r w' := by
  obtain ⟨W, hW⟩ : ∃ W, W = ((w.alloc (.cells #[.bool s1, .slice ao1 n1 cp1, .int .i64 e1, .bool s2, .slice ao2 n2 cp2, .int .i64 e2] 45)).alloc (.cells #[.bool s3, .slice ao3 n3 cp3, .int .i64 e3] 28)).alloc (.cells #[.bool false, .slice none 0 0, .int .i64 0, .bool false, .slice none 0 0, .int .i64 0] 45) := ⟨_, rfl⟩
  obtain ⟨hF, hN, hR, hBW⟩ := three_new _ _ _ hW
  obtain ⟨⟨a0, a1, a2, a3, a4, a5⟩, -⟩ := cells6F hF
  obtain ⟨⟨b0, b1, b2⟩, -⟩ := cells3N hN
  have HK2 : Hid _ := k2
  have HF : Hid (W.heap[w.heap.size]? = some (.cells #[.bool s1, .slice ao1 n1 cp1, .int .i64 e1, .bool s2, .slice ao2 n2 cp2, .int .i64 e2] 45 (0, 0)) ∧ W.heap[w.heap.size + 1 + 1]? = some (.cells #[.bool false, .slice none 0 0, .int .i64 0, .bool false, .slice none 0 0, .int .i64 0] 45 (0, 0)) ∧ Below w.heap.size w W) := ⟨hF, hR, hBW⟩
  have HQ : Hid (PN w (.agg #[.bool s2, .slice ao2 n2 cp2, .int .i64 e2]) T2) := hq
  have kk := k1 W hBW
  clear k1 k2 hF hN hR hBW hq
  go_enter Tryz.func42, Tryz.ntmps42
  go_upto_region 1 with fail
  rw [← hW]
  clear hW
  go_wp2_with fail
  refine kk.mono ?_
  rintro r w1 ⟨s4, ao4, n4, cp4, e4, rfl, hP, hb1⟩
  clear kk a0 a1 a2 a3 a4 a5 b0 b1 b2
  obtain ⟨W1, hW1⟩ : ∃ W1, W1 = w1.alloc (.cells #[.bool s4, .slice ao4 n4 cp4, .int .i64 e4] 28) := ⟨_, rfl⟩
  have hbW : Below W.heap.size W W1 := by rw [hW1]; exact hb1.alloc hb1.size _
  have HG : Hid (W1.heap[w.heap.size]? = some (.cells #[.bool s1, .slice ao1 n1 cp1, .int .i64 e1, .bool s2, .slice ao2 n2 cp2, .int .i64 e2] 45 (0, 0)) ∧ W1.heap[w.heap.size + 1 + 1]? = some (.cells #[.bool false, .slice none 0 0, .int .i64 0, .bool false, .slice none 0 0, .int .i64 0] 45 (0, 0)) ∧ Below w.heap.size w W1) := ⟨box_later HF.out.1 hbW (lt_of_box HF.out.1), box_later HF.out.2.1 hbW (lt_of_box HF.out.2.1), HF.out.2.2.trans (hbW.mono HF.out.2.2.size)⟩
  obtain ⟨⟨a0, a1, a2, a3, a4, a5⟩, -⟩ := cells6F HG.out.1
  obtain ⟨⟨b0, b1, b2⟩, -⟩ := cells3N (by rw [hW1]; exact heap_alloc_new _ _ : W1.heap[w1.heap.size]? = some (.cells #[.bool s4, .slice ao4 n4 cp4, .int .i64 e4] 28 (0, 0)))
  have kk := HK2.out W1 _ HG.out.2.2 (hP.later (by rw [hW1]; exact (Below.refl _ _).alloc (Nat.le_refl _) _))
  clear hP hb1 hbW HF
  rw [hW1] at a0 a1 a2 a3 a4 a5 b0 b1 b2
  go_wp2_with fail
  rw [← hW1]
  clear hW1 a0 a1 a2 a3 a4 a5 b0 b1 b2
  refine kk.mono ?_
  rintro r w2 ⟨s5, ao5, n5, cp5, e5, rfl, hP, hb2⟩
  clear kk
  obtain ⟨W2, hW2⟩ : ∃ W2, W2 = w2.alloc (.cells #[.bool s5, .slice ao5 n5 cp5, .int .i64 e5] 28) := ⟨_, rfl⟩
  have hbW : Below W1.heap.size W1 W2 := by rw [hW2]; exact hb2.alloc hb2.size _
  have HH : Hid (W2.heap[w.heap.size]? = some (.cells #[.bool s1, .slice ao1 n1 cp1, .int .i64 e1, .bool s2, .slice ao2 n2 cp2, .int .i64 e2] 45 (0, 0)) ∧ W2.heap[w.heap.size + 1 + 1]? = some (.cells #[.bool false, .slice none 0 0, .int .i64 0, .bool false, .slice none 0 0, .int .i64 0] 45 (0, 0)) ∧ Below w.heap.size w W2 ∧ PN W2 (.agg #[.bool s5, .slice ao5 n5 cp5, .int .i64 e5]) T') := ⟨box_later HG.out.1 hbW (lt_of_box HG.out.1), box_later HG.out.2.1 hbW (lt_of_box HG.out.2.1), HG.out.2.2.trans (hbW.mono HG.out.2.2.size), hP.later (by rw [hW2]; exact (Below.refl _ _).alloc (Nat.le_refl _) _)⟩
  obtain ⟨⟨a0, a1, a2, a3, a4, a5⟩, -⟩ := cells6F HH.out.1
  obtain ⟨⟨c0, c1, c2, c3, c4, c5⟩, d0, d1, d2, d3, d4, d5⟩ := cells6F HH.out.2.1
  obtain ⟨⟨b0, b1, b2⟩, -⟩ := cells3N (by rw [hW2]; exact heap_alloc_new _ _ : W2.heap[w2.heap.size]? = some (.cells #[.bool s5, .slice ao5 n5 cp5, .int .i64 e5] 28 (0, 0)))
  clear hP hb2 hbW HG
  rw [hW2] at a0 a1 a2 a3 a4 a5 b0 b1 b2 c0 c1 c2 c3 c4 c5 d0 d1 d2 d3 d4 d5
  go_wp2_with fail
  rw [← hW2]
  refine bodyPost_ret (results_cell_row rfl _ _ (w.heap.size + 1 + 1) 45 #[.bool s2, .slice ao2 n2 cp2, .int .i64 e2, .bool s5, .slice ao5 n5 cp5, .int .i64 e5] (0, 0) _ rfl (set6_at _ _ _ _ _ _ HH.out.2.1) Tryz.underlying45 rfl (by kernel_rfl)) rfl ?_
  exact ⟨_, rfl, ⟨_, _, _, _, _, _, _, _, _, _, rfl, (HQ.out.later HH.out.2.2.1).set6 HH.out.2.1 _ _ _ _ _ _, HH.out.2.2.2.set6 HH.out.2.1 _ _ _ _ _ _⟩, below_set6 HH.out.2.2.1 (by omega) _ _ _ _ _ _⟩
set_option maxRecDepth 200000 in
theorem andtimes_1 (s1 : Bool) (ao1 : Option Addr) (n1 cp1 : Nat) (e1 : Int) (s2 : Bool) (ao2 : Option Addr) (n2 cp2 : Nat) (e2 : Int) (s3 : Bool) (ao3 : Option Addr) (n3 cp3 : Nat) (e3 : Int) (T T' : Bool × Nat × Int) (w : World)
    (k1 : CN2 w 84 (.agg #[.bool s2, .slice ao2 n2 cp2, .int .i64 e2]) (.agg #[.bool s3, .slice ao3 n3 cp3, .int .i64 e3]) T)
    (k2 : ∀ W Y, Below w.heap.size w W → PN W Y T → Calls Tryz.prog 39 #[.agg #[.bool s1, .slice ao1 n1 cp1, .int .i64 e1], Y] W fun r w' => ∃ s ao n cap e, r = .returned (.tuple #[.agg #[.bool s, .slice ao n cap, .int .i64 e], .int .i64 0]) ∧ PN w' (.agg #[.bool s, .slice ao n cap, .int .i64 e]) T' ∧ Below W.heap.size W w') :
    Calls Tryz.prog 86 #[.agg #[.bool s1, .slice ao1 n1 cp1, .int .i64 e1], .agg #[.bool s2, .slice ao2 n2 cp2, .int .i64 e2], .agg #[.bool s3, .slice ao3 n3 cp3, .int .i64 e3]] w fun r w' => OutP w T' r w' := by
  obtain ⟨W, hW⟩ : ∃ W, W = (((w.alloc (.cells #[.bool s1, .slice ao1 n1 cp1, .int .i64 e1] 28)).alloc (.cells #[.bool s2, .slice ao2 n2 cp2, .int .i64 e2] 28)).alloc (.cells #[.bool s3, .slice ao3 n3 cp3, .int .i64 e3] 28)).alloc (.cells #[.bool false, .slice none 0 0, .int .i64 0] 28) := ⟨_, rfl⟩
  obtain ⟨hF, hN, hM, hR, hBW⟩ := four_new _ _ _ _ hW
  obtain ⟨⟨a0, a1, a2⟩, -⟩ := cells3N hN
  obtain ⟨⟨b0, b1, b2⟩, -⟩ := cells3N hM
  have HK2 : Hid _ := k2
  have HF : Hid (W.heap[w.heap.size]? = some (.cells #[.bool s1, .slice ao1 n1 cp1, .int .i64 e1] 28 (0, 0)) ∧ W.heap[w.heap.size + 1 + 1 + 1]? = some (.cells #[.bool false, .slice none 0 0, .int .i64 0] 28 (0, 0)) ∧ Below w.heap.size w W) := ⟨hF, hR, hBW⟩
  have kk := k1 W hBW
  clear k1 k2 hF hN hM hR hBW
  go_enter Tryz.func86, Tryz.ntmps86
  go_upto_region 1 with fail
  rw [← hW]
  clear hW
  go_wp2_with fail
  refine kk.mono ?_
  rintro r w1 ⟨s4, ao4, n4, cp4, e4, rfl, hP, hb1⟩
  clear kk a0 a1 a2 b0 b1 b2
  obtain ⟨W1, hW1⟩ : ∃ W1, W1 = w1.alloc (.cells #[.bool s4, .slice ao4 n4 cp4, .int .i64 e4] 28) := ⟨_, rfl⟩
  have hbW : Below W.heap.size W W1 := by rw [hW1]; exact hb1.alloc hb1.size _
  have HG : Hid (W1.heap[w.heap.size]? = some (.cells #[.bool s1, .slice ao1 n1 cp1, .int .i64 e1] 28 (0, 0)) ∧ W1.heap[w.heap.size + 1 + 1 + 1]? = some (.cells #[.bool false, .slice none 0 0, .int .i64 0] 28 (0, 0)) ∧ Below w.heap.size w W1) := ⟨box_later HF.out.1 hbW (lt_of_box HF.out.1), box_later HF.out.2.1 hbW (lt_of_box HF.out.2.1), HF.out.2.2.trans (hbW.mono HF.out.2.2.size)⟩
  obtain ⟨⟨a0, a1, a2⟩, -⟩ := cells3N HG.out.1
  obtain ⟨⟨b0, b1, b2⟩, -⟩ := cells3N (by rw [hW1]; exact heap_alloc_new _ _ : W1.heap[w1.heap.size]? = some (.cells #[.bool s4, .slice ao4 n4 cp4, .int .i64 e4] 28 (0, 0)))
  have kk := HK2.out W1 _ HG.out.2.2 (hP.later (by rw [hW1]; exact (Below.refl _ _).alloc (Nat.le_refl _) _))
  clear hP hb1 hbW HF
  rw [hW1] at a0 a1 a2 b0 b1 b2
  go_wp2_with fail
  rw [← hW1]
  clear hW1 a0 a1 a2 b0 b1 b2
  refine kk.mono ?_
  rintro r w2 ⟨s5, ao5, n5, cp5, e5, rfl, hP, hb2⟩
  clear kk
  obtain ⟨W2, hW2⟩ : ∃ W2, W2 = w2.alloc (.cells #[.bool s5, .slice ao5 n5 cp5, .int .i64 e5] 28) := ⟨_, rfl⟩
  have hbW : Below W1.heap.size W1 W2 := by rw [hW2]; exact hb2.alloc hb2.size _
  have HH : Hid (W2.heap[w.heap.size + 1 + 1 + 1]? = some (.cells #[.bool false, .slice none 0 0, .int .i64 0] 28 (0, 0)) ∧ Below w.heap.size w W2 ∧ PN W2 (.agg #[.bool s5, .slice ao5 n5 cp5, .int .i64 e5]) T') := ⟨box_later HG.out.2.1 hbW (lt_of_box HG.out.2.1), HG.out.2.2.trans (hbW.mono HG.out.2.2.size), hP.later (by rw [hW2]; exact (Below.refl _ _).alloc (Nat.le_refl _) _)⟩
  obtain ⟨⟨a0, a1, a2⟩, a3, a4, a5⟩ := cells3N HH.out.1
  obtain ⟨⟨b0, b1, b2⟩, -⟩ := cells3N (by rw [hW2]; exact heap_alloc_new _ _ : W2.heap[w2.heap.size]? = some (.cells #[.bool s5, .slice ao5 n5 cp5, .int .i64 e5] 28 (0, 0)))
  clear hP hb2 hbW HG
  rw [hW2] at a0 a1 a2 a3 a4 a5 b0 b1 b2
  go_wp2_with fail
  rw [← hW2]
  refine bodyPost_ret (results_cell_row rfl _ _ (w.heap.size + 1 + 1 + 1) 28 #[.bool s5, .slice ao5 n5 cp5, .int .i64 e5] (0, 0) _ rfl (set3_at _ _ _ HH.out.1) Tryz.underlying28 rfl Tryz.info28) rfl ?_
  exact ⟨_, _, _, _, _, rfl, HH.out.2.2.set3 HH.out.1 _ _ _, below_set3 HH.out.2.1 (by omega) _ _ _⟩
end Go.Proofs.YtcdkkpjilgmncaaGreatDoor
namespace Go.Proofs.YtcdkkpjilgmncaaGreatDoor
set_option linter.unusedVariables false
set_option linter.unusedSimpArgs false
open Go.RowKit
structure ParL (W0 : World) (a0 : Act) (m : Nat) (slot : Nat → Tmp) (V : Nat → World → Value → Prop) (listed : Array Bool) (a : Act) (w : World) : Prop where
  below : Below W0.heap.size W0 w
  size : a.tmps.size = a0.tmps.size
  defers : a.defers = a0.defers
  other : ∀ s, (∀ j, j < m → s ≠ slot j) → a.tmps[s]? = a0.tmps[s]?
  val : ∀ j, j < m → listed.getD j false = true → ∃ u, a.tmps[slot j]? = some u ∧ V j w u
theorem parl_region {P : Program} {ops : Array Oper} {Q : Exit → Act → World → Prop} {id : Nat} (hm : P.follows .mixedOrders = true) (m : Nat) (slot : Nat → Tmp) (dep : Nat → List Nat)
    (W0 : World) (a0 : Act) (V : Nat → World → Value → Prop) (hsz : ops.size = m + 1)
    (hord : ∀ (i : Nat) (o : Oper), ops[i]? = some o → ∀ e ∈ o.after, e.on < i)
    (hV1 : ∀ j w w' u, Below w.heap.size w w' → V j w u → V j w' u)
    (hdep : ∀ j, j < m → ∀ j' ∈ dep j, j' < m ∧ ∀ o, ops[j]? = some o → ∃ e ∈ o.after, e.on = j' ∧ Region.binds .any e = true)
    (hA : ∀ j, j < m → ∀ (a : Act) (w : World), Below W0.heap.size W0 w → (∀ s, (∀ j, j < m → s ≠ slot j) → a.tmps[s]? = a0.tmps[s]?) →
      (∀ j' ∈ dep j, ∃ u, a.tmps[slot j']? = some u ∧ V j' w u) → wpOp P ops Q j (fun a' w' => ∃ u, a' = a.put (some (slot j)) u ∧ V j w' u ∧ Below w.heap.size w w') a w)
    (hlast : ∀ o, ops[m]? = some o → ∀ j, j < m → ∃ e ∈ o.after, e.on = j ∧ Region.binds .any e = true)
    (hin : ∀ j, j < m → slot j < a0.tmps.size)
    (hinj : ∀ j j', j < m → j' < m → slot j = slot j' → j = j')
    (hL : ∀ (u : Nat → Value) (a : Act) (w : World), Below W0.heap.size W0 w → (∀ j, j < m → a.tmps[slot j]? = some (u j) ∧ V j w (u j)) →
      a.tmps.size = a0.tmps.size → a.defers = a0.defers → (∀ s, (∀ j, j < m → s ≠ slot j) → a.tmps[s]? = a0.tmps[s]?) → wpOp P ops Q m (fun a' w' => Q .normal a' w') a w) :
    (Code.region id ops true).wp P Q a0 W0 := by
  refine wp_region_any hm ?_
  refine wpAny_inv (fun listed a w => (listed.getD m false = false ∧ ParL W0 a0 m slot V listed a w) ∨ ((∀ i, i < m + 1 → listed.getD i false = true) ∧ Q .normal a w)) ?_ ?_ ops.size _ a0 _ (by simp) ?_ (by simp)
  · intro listed a w i hl hI hr
    obtain ⟨hun, o, ho, hall⟩ := mem_ready.1 hr
    have hunf := not_listed hun
    have hio : i < ops.size := (Array.getElem?_eq_some_iff.1 ho).1
    have hil : i < listed.size := by omega
    have hset := listed_set hil
    have hne : ∀ x, x ≠ i → (listed.setIfInBounds i true).getD x false = listed.getD x false := fun x hx => getD_set_ne false (Ne.symm hx)
    rcases hI with ⟨hm0, hI⟩ | ⟨hfull, -⟩
    · by_cases him : i < m
      · refine wpOp_mono ?_ (hA i him a w hI.below hI.other fun j' hj' => ?_)
        · rintro a' w' ⟨u, rfl, hu, hb⟩
          have hlt : slot i < a.tmps.size := by rw [hI.size]; exact hin i him
          refine .inl ⟨by rw [hne m (by omega)]; exact hm0, hI.below.trans (hb.mono hI.below.size), by rw [put_size]; exact hI.size, by rw [put_defers]; exact hI.defers, fun s h1 => ?_, fun j hj h1 => ?_⟩
          · rw [put_get_ne (h1 i him)]; exact hI.other s h1
          · by_cases e : j = i
            · subst e; exact ⟨u, put_get hlt, hu⟩
            · rw [hne j e] at h1
              obtain ⟨u', g1, g2⟩ := hI.val j hj h1
              exact ⟨u', by rw [put_get_ne (fun e2 => e (hinj j i hj him e2))]; exact g1, hV1 _ _ _ _ hb g2⟩
        · obtain ⟨h1, h2⟩ := hdep i him j' hj'
          obtain ⟨e, he, rfl, hbd⟩ := h2 o ho
          exact hI.val _ h1 (hall e he hbd)
      · obtain rfl : i = m := by omega
        have hl2 : ∀ j, j < i → listed.getD j false = true := fun j hj => by
          obtain ⟨e, he, rfl, hbd⟩ := hlast o ho j hj
          exact hall e he hbd
        have hval : ∀ j, ∃ u, j < i → a.tmps[slot j]? = some u ∧ V j w u := fun j => by
          by_cases hj : j < i
          · obtain ⟨u, h1, h2⟩ := hI.val j hj (hl2 j hj)
            exact ⟨u, fun _ => ⟨h1, h2⟩⟩
          · exact ⟨undef, fun h => absurd h hj⟩
        obtain ⟨u, hu⟩ := Classical.axiomOfChoice hval
        refine wpOp_mono ?_ (hL u a w hI.below hu hI.size hI.defers hI.other)
        intro a' w' hq
        refine .inr ⟨fun j hj => ?_, hq⟩
        by_cases e : j = i
        · rw [e]; exact hset
        · rw [hne j e]; exact hl2 j (by omega)
    · rw [hfull i (by omega)] at hunf
      cases hunf
  · intro listed a w hl hI hr
    rcases hI with ⟨hm0, hI⟩ | ⟨-, hq⟩
    · exfalso
      have hfull : ∀ i, i < ops.size → listed.getD i false = true := by
        intro i
        induction i using Nat.strongRecOn with
        | _ i ih =>
          intro hi
          cases hx : listed.getD i false with
          | true => rfl
          | false =>
            exfalso
            have ho : ops[i]? = some ops[i] := Array.getElem?_eq_getElem hi
            have : i ∈ Region.ready .any ops listed := by
              refine mem_ready.2 ⟨?_, ops[i], ho, fun e he _ => ih e.on (hord i _ ho e he) (Nat.lt_trans (hord i _ ho e he) hi)⟩
              have hil : i < listed.size := by omega
              simp only [Array.getD_eq_getD_getElem?, Array.getElem?_eq_getElem hil, Option.getD_some] at hx ⊢
              exact hx
            rw [hr] at this
            cases this
      rw [hfull m (by omega)] at hm0
      cases hm0
    · exact hq
  · have h0 : ∀ x, (Array.replicate ops.size false).getD x false = true → False := fun x h => by
      simp [Array.getD_eq_getD_getElem?, Array.getElem?_replicate] at h
      split at h <;> simp at h
    refine .inl ⟨?_, (Below.refl _ _).drew, rfl, rfl, fun _ _ => rfl, fun j _ h => (h0 _ h).elim⟩
    cases hx : (Array.replicate ops.size false).getD m false with
    | false => rfl
    | true => exact (h0 _ hx).elim
def vhas (o : Oper) (j : Nat) : Bool := o.after.any fun e => e.on == j && Region.binds .any e
def vrow (m sl : Nat) (dep : Nat → List Nat) (i : Nat) (o : Oper) : Bool :=
  o.after.all (fun e => decide (e.on < i)) && o.guard.isNone && (i == m || o.dst == some (sl + i)) && ((if i == m then List.range m else dep i).all fun j => decide (j < m) && vhas o j)
def vchk (ops : Array Oper) (m sl : Nat) (dep : Nat → List Nat) : Bool :=
  ops.size == m + 1 && (List.range (m + 1)).all fun i => match ops[i]? with | some o => vrow m sl dep i o | none => false
theorem vhas_ex {o : Oper} {j : Nat} (h : vhas o j = true) : ∃ e ∈ o.after, e.on = j ∧ Region.binds .any e = true := by
  unfold vhas at h
  obtain ⟨i, hi, h2⟩ := Array.any_eq_true.1 h
  rw [Bool.and_eq_true, beq_iff_eq] at h2
  exact ⟨_, Array.getElem_mem hi, h2.1, h2.2⟩
theorem vchk_row {ops : Array Oper} {m sl : Nat} {dep : Nat → List Nat} (h : vchk ops m sl dep = true) {i : Nat} {o : Oper} (ho : ops[i]? = some o) : i < m + 1 ∧ vrow m sl dep i o = true := by
  unfold vchk at h
  rw [Bool.and_eq_true, beq_iff_eq] at h
  have hi : i < m + 1 := by have := (Array.getElem?_eq_some_iff.1 ho).1; omega
  have h1 := List.all_eq_true.1 h.2 i (List.mem_range.2 hi)
  simp only [ho] at h1
  exact ⟨hi, h1⟩
theorem vrow_split {m sl : Nat} {dep : Nat → List Nat} {i : Nat} {o : Oper} (h : vrow m sl dep i o = true) :
    (∀ e ∈ o.after, e.on < i) ∧ o.guard = none ∧ (i < m → o.dst = some (sl + i)) ∧ ∀ j ∈ (if i == m then List.range m else dep i), j < m ∧ ∃ e ∈ o.after, e.on = j ∧ Region.binds .any e = true := by
  unfold vrow at h
  rw [Bool.and_eq_true, Bool.and_eq_true, Bool.and_eq_true] at h
  obtain ⟨⟨⟨h1, h2⟩, h3⟩, h4⟩ := h
  refine ⟨fun e he => of_decide_eq_true (Array.all_eq_true_iff_forall_mem.1 h1 e he), Option.isNone_iff_eq_none.1 h2, fun hi => ?_, fun j hj => ?_⟩
  · rw [Bool.or_eq_true] at h3
    rcases h3 with h3 | h3
    · rw [beq_iff_eq] at h3; omega
    · simpa using h3
  · have := List.all_eq_true.1 h4 j hj
    rw [Bool.and_eq_true] at this
    exact ⟨of_decide_eq_true this.1, vhas_ex this.2⟩
theorem val_region {P : Program} {ops : Array Oper} {Q : Exit → Act → World → Prop} {id : Nat} (hm : P.follows .mixedOrders = true) (m sl : Nat) (dep : Nat → List Nat)
    (W0 : World) (a0 : Act) (V : Nat → World → Value → Prop) (hchk : vchk ops m sl dep = true)
    (hV1 : ∀ j w w' u, Below w.heap.size w w' → V j w u → V j w' u) (hin : sl + m ≤ a0.tmps.size)
    (hA : ∀ j, j < m → ∀ o, ops[j]? = some o → ∀ (a : Act) (w : World), Below W0.heap.size W0 w → (∀ s : Nat, (s < sl ∨ sl + m ≤ s) → a.tmps[s]? = a0.tmps[s]?) →
      (∀ j' ∈ dep j, ∃ u, a.tmps[sl + j']? = some u ∧ V j' w u) → o.wp P a w (fun a' w' => ∃ u, a' = a.put o.dst u ∧ V j w' u ∧ Below w.heap.size w w') Q)
    (hL : ∀ o, ops[m]? = some o → ∀ (u : Nat → Value) (w : World), Below W0.heap.size W0 w → (∀ j, j < m → V j w (u j)) →
      o.wp P (putL a0 ((List.range m).map (fun j => (sl + j, u j)))) w (fun a' w' => Q .normal a' w') Q) :
    (Code.region id ops true).wp P Q a0 W0 := by
  have hsz : ops.size = m + 1 := by
    unfold vchk at hchk
    rw [Bool.and_eq_true, beq_iff_eq] at hchk
    exact hchk.1
  have hoth : ∀ {s : Nat}, (s < sl ∨ sl + m ≤ s) → ∀ j, j < m → s ≠ sl + j := fun h j hj => by omega
  refine parl_region hm m (fun j => sl + j) dep W0 a0 V hsz (fun i o ho => (vrow_split (vchk_row hchk ho).2).1) hV1 ?_ ?_ ?_ (fun j hj => Nat.lt_of_lt_of_le (Nat.add_lt_add_left hj sl) hin) (fun i i' _ _ h => Nat.add_left_cancel h) ?_
  · intro j hj j' hj'
    obtain ⟨o, ho⟩ : ∃ o, ops[j]? = some o := ⟨ops[j]'(by omega), Array.getElem?_eq_getElem (by omega)⟩
    have h4 := (vrow_split (vchk_row hchk ho).2).2.2.2 j' (by rw [if_neg (by rw [beq_iff_eq]; omega)]; exact hj')
    refine ⟨h4.1, fun o' ho' => ?_⟩
    obtain rfl : o = o' := Option.some.inj (ho.symm.trans ho')
    exact h4.2
  · intro j hj a w hb ho1 hd
    obtain ⟨o, ho⟩ : ∃ o, ops[j]? = some o := ⟨ops[j]'(by omega), Array.getElem?_eq_getElem (by omega)⟩
    obtain ⟨-, h2, h3, -⟩ := vrow_split (vchk_row hchk ho).2
    refine step_wanted ho h2 ?_
    have h5 := hA j hj o ho a w hb (fun s hs => ho1 s (hoth hs)) hd
    rw [h3 hj] at h5
    exact h5
  · intro o ho j hj
    exact ((vrow_split (vchk_row hchk ho).2).2.2.2 j (by rw [if_pos (by rw [beq_iff_eq])]; exact List.mem_range.2 hj)).2
  · intro u a w hb hu hs hd ho1
    obtain ⟨o, ho⟩ : ∃ o, ops[m]? = some o := ⟨ops[m]'(by omega), Array.getElem?_eq_getElem (by omega)⟩
    obtain ⟨-, h2, -, -⟩ := vrow_split (vchk_row hchk ho).2
    refine step_wanted ho h2 ?_
    have q1 : ((List.range m).map (fun j => ((sl + j, u j) : Tmp × Value))).map (fun p : Tmp × Value => p.1) = (List.range m).map (fun j => sl + j) := by simp [Function.comp_def]
    have ha := act_putL (a := a) (a0 := a0) (l := (List.range m).map (fun j => ((sl + j, u j) : Tmp × Value))) (by
        rw [q1]
        refine List.pairwise_map.2 ((List.nodup_range (n := m)).imp_of_mem ?_)
        intro x y hx hy hne he
        exact hne (Nat.add_left_cancel he)) hs hd (by
        intro p hp
        obtain ⟨i, hi, rfl⟩ := List.mem_map.1 hp
        exact (hu i (List.mem_range.1 hi)).1) (fun s hsn => ho1 s (fun i hi he => hsn (List.mem_map.2 ⟨_, List.mem_map.2 ⟨i, List.mem_range.2 hi, rfl⟩, he.symm⟩)))
    rw [ha]
    exact hL o ho u w hb (fun j hj => (hu j hj).2)
theorem owp_move {P : Program} {Q : Exit → Act → World → Prop} {o : Oper} {K : Act → World → Prop} {a : Act} {w : World} {s : Tmp} {v : Value}
    (hop : o.op = .move (.tmp s)) (hs : a.tmps[s]? = some v) (h : K (a.put o.dst v) w) : o.wp P a w K Q := by
  unfold Oper.wp
  simp [execOp, hop, eval_get hs, Oper.upon, h]
theorem owp_assign {P : Program} {Q : Exit → Act → World → Prop} {o : Oper} {K : Act → World → Prop} {a : Act} {w : World} {s : Tmp} {v : Value}
    (hop : o.op = .assign (.tmp s)) (hs : a.tmps[s]? = some v) (h : K (a.put o.dst v) w) : o.wp P a w K Q := by
  unfold Oper.wp
  simp [execOp, hop, eval_get hs, Oper.upon, h]
theorem owp_call {P : Program} {Q : Exit → Act → World → Prop} {o : Oper} {K : Act → World → Prop} {a : Act} {w : World}
    {f : FuncId} {args : Array Operand} {ts : Array TypeId} (hop : o.op = .call { callee := .value (.func f), args := args, argTypes := ts }) {vs : Array Value}
    (hc : ∀ vs w, (callFunc f vs).run P w = .ok (.enter f vs) w) (hv : args.map a.eval = vs) (h : Calls P f vs w fun r w' => ∃ v, r = .returned v ∧ K (a.put o.dst v) w') : o.wp P a w K Q := by
  unfold Oper.wp
  have e : (execOp a.eval o).run P w = .ok (.enter f vs) w := by
    simp [execOp, hop, resolve, Deferred.ofValue, Act.eval, invoke, hv, hc]
  rw [e, Oper.upon_enter]
  refine h.mono ?_
  rintro r w' ⟨v, rfl, hk⟩
  exact hk
theorem owp_run1 {P : Program} {Q : Exit → Act → World → Prop} {o : Oper} {K : Act → World → Prop} {a : Act} {w w' : World} {v : Value}
    (hr : (execOp a.eval o).run P w = .ok (.value v) w') (h : K (a.put o.dst v) w') : o.wp P a w K Q := by
  unfold Oper.wp
  rw [hr]
  exact h
def Stays (P : World → Value → Prop) : Prop := ∀ W W' A, Below W.heap.size W W' → P W A → P W' A
def StaysAll : List (World → Value → Prop) → Prop
  | [] => True
  | P :: r => Stays P ∧ StaysAll r
def vL (L : List (World → Value → Prop)) (j : Nat) : World → Value → Prop := L[j]?.getD (fun _ _ => False)
def dL (D : List (List Nat)) (j : Nat) : List Nat := D[j]?.getD []
def isV (x : Value) : World → Value → Prop := fun _ u => u = x
theorem isV_stays (x : Value) : Stays (isV x) := fun _ _ _ _ h => h
theorem vL_stays : ∀ {L : List (World → Value → Prop)}, StaysAll L → ∀ j, Stays (vL L j)
  | [], _, j => fun W W' A hb h => by simp [vL] at h
  | P :: r, hL, 0 => hL.1
  | P :: r, hL, j + 1 => by
    have := vL_stays hL.2 j
    exact this
theorem valL_region {P : Program} {ops : Array Oper} {Q : Exit → Act → World → Prop} {id : Nat} (hm : P.follows .mixedOrders = true) (m sl : Nat) (D : List (List Nat))
    (W0 : World) (a0 : Act) (L : List (World → Value → Prop)) (hchk : vchk ops m sl (dL D) = true)
    (hV1 : StaysAll L) (hin : sl + m ≤ a0.tmps.size)
    (hA : ∀ j, j < m → ∀ o, ops[j]? = some o → ∀ (a : Act) (w : World), Below W0.heap.size W0 w → (∀ s : Nat, (s < sl ∨ sl + m ≤ s) → a.tmps[s]? = a0.tmps[s]?) →
      (∀ j' ∈ dL D j, ∃ u, a.tmps[sl + j']? = some u ∧ vL L j' w u) → o.wp P a w (fun a' w' => ∃ u, a' = a.put o.dst u ∧ vL L j w' u ∧ Below w.heap.size w w') Q)
    (hL : ∀ o, ops[m]? = some o → ∀ (u : Nat → Value) (w : World), Below W0.heap.size W0 w → (∀ j, j < m → vL L j w (u j)) →
      o.wp P (putL a0 ((List.range m).map (fun j => (sl + j, u j)))) w (fun a' w' => Q .normal a' w') Q) :
    (Code.region id ops true).wp P Q a0 W0 :=
  val_region hm m sl (dL D) W0 a0 (vL L) hchk (fun j w w' u hb h => vL_stays hV1 j w w' u hb h) hin hA hL
theorem owp_store {P : Program} {Q : Exit → Act → World → Prop} {o : Oper} {K : Act → World → Prop} {a : Act} {w : World}
    {ty : TypeId} {s v : Tmp} (hop : o.op = .store ty (.tmp s) (.tmp v)) {g : Nat} {old cs : Array Value}
    (hs : a.tmps[s]? = some (.pointer (some ⟨g, 0, none⟩))) (hv : a.tmps[v]? = some (.agg cs)) (hb : w.heap[g]? = some (.cells old ty (0, 0))) (hn : (P.info? ty).map (·.size) = some cs.size) (ho : old.size = cs.size) (h1 : cs.all (·.oneCell') = true)
    (h : K (a.put o.dst undef) (w.setRow g cs)) : o.wp P a w K Q := by
  unfold Oper.wp
  simp [execOp, hop, eval_get hs, eval_get hv, Instr.storeAt, Instr.sureAddr, run_storeVar_row w g ty ty old cs hb hn ho h1, Result.andThen, Oper.upon, h]
end Go.Proofs.YtcdkkpjilgmncaaGreatDoor
namespace Go.Proofs.YtcdkkpjilgmncaaGreatDoor
set_option linter.unusedVariables false
set_option linter.unusedSimpArgs false
open Go.RowKit Go.Fl64
theorem run_fr0 (g : Nat) (w : World) : (Instr.fieldAt 45 (.pointer (some ⟨g, 0, none⟩)) 0).run Tryz.prog w = .ok (.pointer (some ⟨g, 0, none⟩)) w := by kernel_rfl
theorem run_fr1 (g : Nat) (w : World) : (Instr.fieldAt 45 (.pointer (some ⟨g, 0, none⟩)) 1).run Tryz.prog w = .ok (.pointer (some ⟨g, 3, none⟩)) w := by kernel_rfl
theorem run_ldN (g o : Nat) (s : Bool) (ao : Option Addr) (n cp : Nat) (e : Int) (w : World) (h0 : w.cell? ⟨g, o, none⟩ = some (.bool s)) (h1 : w.cell? ⟨g, o + 1, none⟩ = some (.slice ao n cp)) (h2 : w.cell? ⟨g, o + 2, none⟩ = some (.int .i64 e)) : (Instr.loadAt 28 (.pointer (some ⟨g, o, none⟩))).run Tryz.prog w = .ok (.agg #[.bool s, .slice ao n cp, .int .i64 e]) w :=
  run_loadAt_mid w g o 28 [.bool s, .slice ao n cp, .int .i64 e] _ (fun j v hv => by
    match j with
    | 0 => simp at hv; subst hv; exact h0
    | 1 => simp at hv; subst hv; exact h1
    | 2 => simp at hv; subst hv; exact h2
    | k + 3 => simp at hv) Tryz.underlying28 rfl Tryz.info28
theorem run_bF (s1 : Bool) (ao1 : Option Addr) (n1 cp1 : Nat) (e1 : Int) (s2 : Bool) (ao2 : Option Addr) (n2 cp2 : Nat) (e2 : Int) (w : World) :
    (Instr.build 45 #[(0, .agg #[.bool s1, .slice ao1 n1 cp1, .int .i64 e1]), (1, .agg #[.bool s2, .slice ao2 n2 cp2, .int .i64 e2])]).run Tryz.prog w = .ok (.agg #[.bool s1, .slice ao1 n1 cp1, .int .i64 e1, .bool s2, .slice ao2 n2 cp2, .int .i64 e2]) w := run_build w _ _ _ (by kernel_rfl)
theorem one6F (s1 : Bool) (ao1 : Option Addr) (n1 cp1 : Nat) (e1 : Int) (s2 : Bool) (ao2 : Option Addr) (n2 cp2 : Nat) (e2 : Int) : (#[.bool s1, .slice ao1 n1 cp1, .int .i64 e1, .bool s2, .slice ao2 n2 cp2, .int .i64 e2] : Array Value).all (·.oneCell') = true := by
  have c1 : ∀ b, (Value.bool b).oneCell' = true := fun _ => rfl
  have c2 : ∀ a n c, (Value.slice a n c).oneCell' = true := fun _ _ _ => rfl
  have c3 : ∀ e, (Value.int .i64 e).oneCell' = true := fun _ => rfl
  simp only [List.all_toArray, List.all_cons, List.all_nil, c1, c2, c3, Bool.and_self]
def isP (T : Bool × Nat × Int) : World → Value → Prop := fun w u => PN w u T
theorem isP_stays (T : Bool × Nat × Int) : Stays (isP T) := fun _ _ _ hb h => PN.later h hb
def isF (T T' : Bool × Nat × Int) : World → Value → Prop := fun w u => Fv w u T T'
theorem isF_stays (T T' : Bool × Nat × Int) : Stays (isF T T') := fun _ _ _ hb h => Fv.later h hb
theorem PN.row6 {W : World} {A : Value} {t : Bool × Nat × Int} {g : Nat} {T : TypeId} {s1 s2 : Bool} {a1 a2 : Option Addr} {m1 c1 m2 c2 : Nat} {e1 e2 : Int} (h : PN W A t) (hE : W.heap[g]? = some (.cells #[.bool s1, .slice a1 m1 c1, .int .i64 e1, .bool s2, .slice a2 m2 c2, .int .i64 e2] T (0, 0))) (cs : Array Value) : PN (W.setRow g cs) A t :=
  h.cells (.inr hE) fun b hb => setRow_other W g b cs hb
theorem Fv.row6 {W : World} {U : Value} {t1 t2 : Bool × Nat × Int} {g : Nat} {T : TypeId} {s1 s2 : Bool} {a1 a2 : Option Addr} {m1 c1 m2 c2 : Nat} {e1 e2 : Int} (h : Fv W U t1 t2) (hE : W.heap[g]? = some (.cells #[.bool s1, .slice a1 m1 c1, .int .i64 e1, .bool s2, .slice a2 m2 c2, .int .i64 e2] T (0, 0))) (cs : Array Value) : Fv (W.setRow g cs) U t1 t2 := by
  obtain ⟨_, _, _, _, _, _, _, _, _, _, e, h1, h2⟩ := h
  exact ⟨_, _, _, _, _, _, _, _, _, _, e, h1.row6 hE _, h2.row6 hE _⟩
theorem lt13 {k : Nat} (h : k < 13) : k = 0 ∨ k = 1 ∨ k = 2 ∨ k = 3 ∨ k = 4 ∨ k = 5 ∨ k = 6 ∨ k = 7 ∨ k = 8 ∨ k = 9 ∨ k = 10 ∨ k = 11 ∨ k = 12 := by omega
set_option maxRecDepth 200000 in
theorem cont_1 (s1 : Bool) (ao1 : Option Addr) (n1 cp1 : Nat) (e1 : Int) (s2 : Bool) (ao2 : Option Addr) (n2 cp2 : Nat) (e2 : Int) (s3 : Bool) (ao3 : Option Addr) (n3 cp3 : Nat) (e3 : Int) (s4 : Bool) (ao4 : Option Addr) (n4 cp4 : Nat) (e4 : Int) (s5 : Bool) (ao5 : Option Addr) (n5 cp5 : Nat) (e5 : Int) (TP TQ : Bool × Nat × Int) (w : World)
    (k1 : ∀ W, Below w.heap.size w W → Calls Tryz.prog 86 #[(.agg #[.bool s1, .slice ao1 n1 cp1, .int .i64 e1]), (.agg #[.bool s3, .slice ao3 n3 cp3, .int .i64 e3]), (.agg #[.bool s5, .slice ao5 n5 cp5, .int .i64 e5])] W fun r w' => OutP W TP r w')
    (k2 : ∀ W, Below w.heap.size w W → Calls Tryz.prog 86 #[(.agg #[.bool s2, .slice ao2 n2 cp2, .int .i64 e2]), (.agg #[.bool s4, .slice ao4 n4 cp4, .int .i64 e4]), (.agg #[.bool s5, .slice ao5 n5 cp5, .int .i64 e5])] W fun r w' => OutP W TQ r w') :
    Calls Tryz.prog 41 #[.agg #[.bool s1, .slice ao1 n1 cp1, .int .i64 e1, .bool s2, .slice ao2 n2 cp2, .int .i64 e2], .agg #[.bool s3, .slice ao3 n3 cp3, .int .i64 e3, .bool s4, .slice ao4 n4 cp4, .int .i64 e4], .agg #[.bool s5, .slice ao5 n5 cp5, .int .i64 e5]] w fun r w' => OutFv w TP TQ r w' := by
  obtain ⟨W, hW⟩ : ∃ W, W = (((w.alloc (.cells #[.bool s1, .slice ao1 n1 cp1, .int .i64 e1, .bool s2, .slice ao2 n2 cp2, .int .i64 e2] 45)).alloc (.cells #[.bool s3, .slice ao3 n3 cp3, .int .i64 e3, .bool s4, .slice ao4 n4 cp4, .int .i64 e4] 45)).alloc (.cells #[.bool s5, .slice ao5 n5 cp5, .int .i64 e5] 28)).alloc (.cells #[.bool false, .slice none 0 0, .int .i64 0, .bool false, .slice none 0 0, .int .i64 0] 45) := ⟨_, rfl⟩
  obtain ⟨hF, hG, hN, hR, hBW⟩ := four_new _ _ _ _ hW
  have HK1 : Hid _ := k1
  have HK2 : Hid _ := k2
  have HH : Hid (W.heap[w.heap.size]? = some (.cells #[.bool s1, .slice ao1 n1 cp1, .int .i64 e1, .bool s2, .slice ao2 n2 cp2, .int .i64 e2] 45 (0, 0)) ∧ W.heap[w.heap.size + 1]? = some (.cells #[.bool s3, .slice ao3 n3 cp3, .int .i64 e3, .bool s4, .slice ao4 n4 cp4, .int .i64 e4] 45 (0, 0)) ∧ W.heap[w.heap.size + 1 + 1]? = some (.cells #[.bool s5, .slice ao5 n5 cp5, .int .i64 e5] 28 (0, 0)) ∧ W.heap[w.heap.size + 1 + 1 + 1]? = some (.cells #[.bool false, .slice none 0 0, .int .i64 0, .bool false, .slice none 0 0, .int .i64 0] 45 (0, 0)) ∧ Below w.heap.size w W) := ⟨hF, hG, hN, hR, hBW⟩
  clear k1 k2 hF hG hN hR hBW
  go_enter Tryz.func41, Tryz.ntmps41
  go_upto_region 1 with fail
  rw [← hW]
  clear hW
  obtain ⟨hF, hG, hN, hR, hBW⟩ := HH.out
  have ld : ∀ {V : World} {g : Nat} {o : Obj}, Below W.heap.size W V → W.heap[g]? = some o → V.heap[g]? = some o := fun hb h => (hb.block _ (Array.getElem?_eq_some_iff.1 h).1).trans h
  refine valL_region follows_mixed 13 7 [[], [0], [], [2], [], [1, 3, 4], [], [6], [], [8], [], [7, 9, 10], [5, 11]] W _
    [isV (.pointer (some ⟨w.heap.size, 0, none⟩)), isV (.agg #[.bool s1, .slice ao1 n1 cp1, .int .i64 e1]), isV (.pointer (some ⟨w.heap.size + 1, 0, none⟩)), isV (.agg #[.bool s3, .slice ao3 n3 cp3, .int .i64 e3]), isV (.agg #[.bool s5, .slice ao5 n5 cp5, .int .i64 e5]), isP TP, isV (.pointer (some ⟨w.heap.size, 3, none⟩)), isV (.agg #[.bool s2, .slice ao2 n2 cp2, .int .i64 e2]), isV (.pointer (some ⟨w.heap.size + 1, 3, none⟩)), isV (.agg #[.bool s4, .slice ao4 n4 cp4, .int .i64 e4]), isV (.agg #[.bool s5, .slice ao5 n5 cp5, .int .i64 e5]), isP TQ, isF TP TQ] (by kernel_rfl)
    ⟨isV_stays _, isV_stays _, isV_stays _, isV_stays _, isV_stays _, isP_stays _, isV_stays _, isV_stays _, isV_stays _, isV_stays _, isV_stays _, isP_stays _, isF_stays _ _, trivial⟩ (by show 20 ≤ 20; decide) ?_ ?_
  · intro k hk o ho a V hbV hoth hdep
    have c1 := (cells6F (ld hbV hF)).1
    have c2 := (cells6F (ld hbV hG)).1
    have c3 := (cells3N (ld hbV hN)).1
    rcases lt13 hk with rfl | rfl | rfl | rfl | rfl | rfl | rfl | rfl | rfl | rfl | rfl | rfl | rfl
    · obtain rfl := Option.some.inj ho
      have h0 : a.tmps[(3 : Nat)]? = some (Value.pointer (some ⟨w.heap.size, 0, none⟩)) := (hoth 3 (by omega)).trans rfl
      exact owp_run1 (w' := V) (v := _) (by simp [execOp, eval_get h0, run_fr0]) ⟨_, rfl, rfl, Below.refl _ _⟩
    · obtain rfl := Option.some.inj ho
      obtain ⟨u0, h0, v0⟩ := hdep 0 (by simp [dL])
      obtain rfl : u0 = _ := v0
      exact owp_run1 (w' := V) (v := (.agg #[.bool s1, .slice ao1 n1 cp1, .int .i64 e1])) (by simp [execOp, eval_get h0, run_ldN _ 0 s1 ao1 n1 cp1 e1 V c1.1 c1.2.1 c1.2.2.1]) ⟨_, rfl, rfl, Below.refl _ _⟩
    · obtain rfl := Option.some.inj ho
      have h0 : a.tmps[(4 : Nat)]? = some (Value.pointer (some ⟨w.heap.size + 1, 0, none⟩)) := (hoth 4 (by omega)).trans rfl
      exact owp_run1 (w' := V) (v := _) (by simp [execOp, eval_get h0, run_fr0]) ⟨_, rfl, rfl, Below.refl _ _⟩
    · obtain rfl := Option.some.inj ho
      obtain ⟨u0, h0, v0⟩ := hdep 2 (by simp [dL])
      obtain rfl : u0 = _ := v0
      exact owp_run1 (w' := V) (v := (.agg #[.bool s3, .slice ao3 n3 cp3, .int .i64 e3])) (by simp [execOp, eval_get h0, run_ldN _ 0 s3 ao3 n3 cp3 e3 V c2.1 c2.2.1 c2.2.2.1]) ⟨_, rfl, rfl, Below.refl _ _⟩
    · obtain rfl := Option.some.inj ho
      have h0 : a.tmps[(5 : Nat)]? = some (Value.pointer (some ⟨w.heap.size + 1 + 1, 0, none⟩)) := (hoth 5 (by omega)).trans rfl
      exact owp_run1 (w' := V) (v := (.agg #[.bool s5, .slice ao5 n5 cp5, .int .i64 e5])) (by simp [execOp, eval_get h0, run_ldN _ 0 s5 ao5 n5 cp5 e5 V c3.1 c3.2.1 c3.2.2]) ⟨_, rfl, rfl, Below.refl _ _⟩
    · obtain rfl := Option.some.inj ho
      obtain ⟨u0, h0, v0⟩ := hdep 1 (by simp [dL])
      obtain rfl : u0 = _ := v0
      obtain ⟨u1, h1, v1⟩ := hdep 3 (by simp [dL])
      obtain rfl : u1 = _ := v1
      obtain ⟨u2, h2, v2⟩ := hdep 4 (by simp [dL])
      obtain rfl : u2 = _ := v2
      refine owp_call rfl (enters Tryz.func86 (by kernel_rfl) (by kernel_rfl)) (vs := #[(.agg #[.bool s1, .slice ao1 n1 cp1, .int .i64 e1]), (.agg #[.bool s3, .slice ao3 n3 cp3, .int .i64 e3]), (.agg #[.bool s5, .slice ao5 n5 cp5, .int .i64 e5])]) (by simp only [List.map_toArray, List.map_cons, List.map_nil]; rw [eval_get h0, eval_get h1, eval_get h2]) ?_
      refine (HK1.out V (hBW.trans (hbV.mono hBW.size))).mono ?_
      rintro r w' ⟨s', ao', n', cap', e', rfl, hP, hb'⟩
      exact ⟨_, rfl, _, rfl, hP, hb'⟩
    · obtain rfl := Option.some.inj ho
      have h0 : a.tmps[(3 : Nat)]? = some (Value.pointer (some ⟨w.heap.size, 0, none⟩)) := (hoth 3 (by omega)).trans rfl
      exact owp_run1 (w' := V) (v := _) (by simp [execOp, eval_get h0, run_fr1]) ⟨_, rfl, rfl, Below.refl _ _⟩
    · obtain rfl := Option.some.inj ho
      obtain ⟨u0, h0, v0⟩ := hdep 6 (by simp [dL])
      obtain rfl : u0 = _ := v0
      exact owp_run1 (w' := V) (v := (.agg #[.bool s2, .slice ao2 n2 cp2, .int .i64 e2])) (by simp [execOp, eval_get h0, run_ldN _ 3 s2 ao2 n2 cp2 e2 V c1.2.2.2.1 c1.2.2.2.2.1 c1.2.2.2.2.2]) ⟨_, rfl, rfl, Below.refl _ _⟩
    · obtain rfl := Option.some.inj ho
      have h0 : a.tmps[(4 : Nat)]? = some (Value.pointer (some ⟨w.heap.size + 1, 0, none⟩)) := (hoth 4 (by omega)).trans rfl
      exact owp_run1 (w' := V) (v := _) (by simp [execOp, eval_get h0, run_fr1]) ⟨_, rfl, rfl, Below.refl _ _⟩
    · obtain rfl := Option.some.inj ho
      obtain ⟨u0, h0, v0⟩ := hdep 8 (by simp [dL])
      obtain rfl : u0 = _ := v0
      exact owp_run1 (w' := V) (v := (.agg #[.bool s4, .slice ao4 n4 cp4, .int .i64 e4])) (by simp [execOp, eval_get h0, run_ldN _ 3 s4 ao4 n4 cp4 e4 V c2.2.2.2.1 c2.2.2.2.2.1 c2.2.2.2.2.2]) ⟨_, rfl, rfl, Below.refl _ _⟩
    · obtain rfl := Option.some.inj ho
      have h0 : a.tmps[(5 : Nat)]? = some (Value.pointer (some ⟨w.heap.size + 1 + 1, 0, none⟩)) := (hoth 5 (by omega)).trans rfl
      exact owp_run1 (w' := V) (v := (.agg #[.bool s5, .slice ao5 n5 cp5, .int .i64 e5])) (by simp [execOp, eval_get h0, run_ldN _ 0 s5 ao5 n5 cp5 e5 V c3.1 c3.2.1 c3.2.2]) ⟨_, rfl, rfl, Below.refl _ _⟩
    · obtain rfl := Option.some.inj ho
      obtain ⟨u0, h0, v0⟩ := hdep 7 (by simp [dL])
      obtain rfl : u0 = _ := v0
      obtain ⟨u1, h1, v1⟩ := hdep 9 (by simp [dL])
      obtain rfl : u1 = _ := v1
      obtain ⟨u2, h2, v2⟩ := hdep 10 (by simp [dL])
      obtain rfl : u2 = _ := v2
      refine owp_call rfl (enters Tryz.func86 (by kernel_rfl) (by kernel_rfl)) (vs := #[(.agg #[.bool s2, .slice ao2 n2 cp2, .int .i64 e2]), (.agg #[.bool s4, .slice ao4 n4 cp4, .int .i64 e4]), (.agg #[.bool s5, .slice ao5 n5 cp5, .int .i64 e5])]) (by simp only [List.map_toArray, List.map_cons, List.map_nil]; rw [eval_get h0, eval_get h1, eval_get h2]) ?_
      refine (HK2.out V (hBW.trans (hbV.mono hBW.size))).mono ?_
      rintro r w' ⟨s', ao', n', cap', e', rfl, hP, hb'⟩
      exact ⟨_, rfl, _, rfl, hP, hb'⟩
    · obtain rfl := Option.some.inj ho
      obtain ⟨u0, h0, v0⟩ := hdep 5 (by simp [dL])
      obtain ⟨u1, h1, v1⟩ := hdep 11 (by simp [dL])
      have v0' : PN V u0 TP := v0
      have v1' : PN V u1 TQ := v1
      obtain ⟨sa, aoa, na, cpa, ea, rfl⟩ := v0'.shape
      obtain ⟨sb, aob, nb, cpb, eb, rfl⟩ := v1'.shape
      exact owp_run1 (w' := V) (v := .agg #[.bool sa, .slice aoa na cpa, .int .i64 ea, .bool sb, .slice aob nb cpb, .int .i64 eb]) (by simp [execOp, eval_get h0, eval_get h1, run_bF]) ⟨_, rfl, ⟨_, _, _, _, _, _, _, _, _, _, rfl, v0', v1'⟩, Below.refl _ _⟩
  · intro o ho u V hbV hu
    have hop : o.op = .store 45 (.tmp 6) (.tmp 19) := by rw [← Option.some.inj ho]; rfl
    have hds : o.dst = none := by rw [← Option.some.inj ho]; rfl
    clear ho
    have e12 : Fv V (u 12) TP TQ := hu 12 (by omega)
    obtain ⟨sa, aoa, na, cpa, ea, sb, aob, nb, cpb, eb, hsh, q1, q2⟩ := e12
    have hCV := ld hbV hR
    obtain ⟨V1, hV1⟩ : ∃ V1, V1 = V.setRow (w.heap.size + 1 + 1 + 1) #[.bool sa, .slice aoa na cpa, .int .i64 ea, .bool sb, .slice aob nb cpb, .int .i64 eb] := ⟨_, rfl⟩
    have HX : Hid (V1.heap[w.heap.size + 1 + 1 + 1]? = some (.cells #[.bool sa, .slice aoa na cpa, .int .i64 ea, .bool sb, .slice aob nb cpb, .int .i64 eb] 45 (0, 0)) ∧ Fv V1 (.agg #[.bool sa, .slice aoa na cpa, .int .i64 ea, .bool sb, .slice aob nb cpb, .int .i64 eb]) TP TQ ∧ Below w.heap.size w V1) := (by
      rw [hV1]
      exact ⟨setRow_heap _ _ _ _ _ _ hCV, ⟨_, _, _, _, _, _, _, _, _, _, rfl, q1.row6 hCV _, q2.row6 hCV _⟩, below_row (hBW.trans (hbV.mono hBW.size)) (by omega) _⟩ : V1.heap[w.heap.size + 1 + 1 + 1]? = some (.cells #[.bool sa, .slice aoa na cpa, .int .i64 ea, .bool sb, .slice aob nb cpb, .int .i64 eb] 45 (0, 0)) ∧ Fv V1 (.agg #[.bool sa, .slice aoa na cpa, .int .i64 ea, .bool sb, .slice aob nb cpb, .int .i64 eb]) TP TQ ∧ Below w.heap.size w V1)
    clear hu q1 q2 hF hG hN hR
    simp only [putL, show List.range 13 = [0, 1, 2, 3, 4, 5, 6, 7, 8, 9, 10, 11, 12] from rfl, List.map_cons, List.map_nil, List.cons_append, List.nil_append, List.foldl_cons, List.foldl_nil, Nat.reduceLT, Nat.reduceMod, Nat.reduceDiv, Nat.reduceMul, Nat.reduceAdd, Nat.reduceEqDiff, reduceIte, Nat.one_ne_zero, Act.put, List.setIfInBounds_toArray, List.set_cons_zero, List.set_cons_succ]
    rw [hsh]
    refine owp_store hop (g := w.heap.size + 1 + 1 + 1) (cs := #[.bool sa, .slice aoa na cpa, .int .i64 ea, .bool sb, .slice aob nb cpb, .int .i64 eb]) rfl rfl hCV (by kernel_rfl) rfl (one6F _ _ _ _ _ _ _ _ _ _) ?_
    rw [hds, ← hV1]
    simp only [Act.put]
    clear hV1 hCV
    go_wp2_with fail
    refine bodyPost_ret (results_cell_row rfl _ _ (w.heap.size + 1 + 1 + 1) 45 #[.bool sa, .slice aoa na cpa, .int .i64 ea, .bool sb, .slice aob nb cpb, .int .i64 eb] (0, 0) _ rfl HX.out.1 Tryz.underlying45 rfl (by kernel_rfl)) rfl ?_
    exact ⟨_, rfl, HX.out.2.1, HX.out.2.2⟩
end Go.Proofs.YtcdkkpjilgmncaaGreatDoor
