/- Own work: contracts of the program's functions, part 7: Q1 Q2 R6 Q3 ON. -/
import Derived.Test.YtajeodimbfppiaaGreatDoorA3
import Derived.Test.YtajeodimbfppiaaGreatDoorA6
import Derived.Test.YtajeodimbfppiaaGreatDoorRows
import Derived.Carry
import Derived.ChangeSlices
import Derived.WalkKit
import Derived.ProofKit
import Derived.OpenShut
import Derived.WalkLawsBesides
import Derived.ChangeAlike
import Derived.Lib.SmallJoins
import Derived.SizedLaws

/- Exact values: a sign, a whole number, an exponent; one form for each. -/
namespace Go.Proofs.YtajeodimbfppiaaGreatDoor
set_option linter.unusedVariables false
set_option linter.unusedSimpArgs false
open Go.RowKit

/-- a whole number with a sign -/
def sv (s : Bool) (x : Nat) : Int := if s then -(x : Int) else x
/-- the value in units of 2 to the -K -/
def vz (K : Nat) (s : Bool) (x : Nat) (e : Int) : Int := sv s x * ((2 ^ (e + K).toNat : Nat) : Int)

theorem sv_zero (s : Bool) : sv s 0 = 0 := by cases s <;> rfl
theorem sv_mul (s s' : Bool) (x y : Nat) : sv (!(s == s')) (x * y) = sv s x * sv s' y := by
  cases s <;> cases s' <;> simp [sv, Int.natCast_mul, Int.neg_mul, Int.mul_neg]
theorem sv_scale (s : Bool) (x k : Nat) : sv s (x * k) = sv s x * (k : Int) := by
  cases s <;> simp [sv, Int.natCast_mul, Int.neg_mul]
theorem vz_zero (K : Nat) (s : Bool) (e : Int) : vz K s 0 e = 0 := by unfold vz; rw [sv_zero, Int.zero_mul]
/-- a power of two moved from the exponent into the number -/
theorem vz_shift {K : Nat} {s : Bool} {x k : Nat} {e : Int} (h : 0 ≤ e + K) : vz K s (x * 2 ^ k) e = vz K s x (e + k) := by
  unfold vz
  rw [sv_scale, Int.mul_assoc, show (e + (k : Int) + K).toNat = k + (e + K).toNat by omega, Nat.pow_add, Int.natCast_mul]

/-- the one form -/
def cn (s : Bool) (z : Nat) (e : Int) : Bool × Nat × Int := if z = 0 then (false, 0, 0) else (s, z / 2 ^ tz z, e + tz z)

theorem vz_cn {K : Nat} {s : Bool} {z : Nat} {e : Int} (h : 0 ≤ e + K) : vz K (cn s z e).1 (cn s z e).2.1 (cn s z e).2.2 = vz K s z e := by
  unfold cn
  by_cases h0 : z = 0
  · subst h0; rw [if_pos rfl, vz_zero, vz_zero]
  · rw [if_neg h0]
    have h1 := (tz_spec z z (Nat.le_refl _) h0).1
    show vz K s (z / 2 ^ tz z) (e + tz z) = _
    rw [← vz_shift h, Nat.mul_comm, h1]

theorem vz_mul {K L : Nat} {na nb : Bool} {x y : Nat} {ea eb : Int} (h1 : 0 ≤ ea + K) (h2 : 0 ≤ eb + L) :
    vz (K + L) (!(na == nb)) (x * y) (ea + eb) = vz K na x ea * vz L nb y eb := by
  unfold vz
  rw [sv_mul, show (ea + eb + ((K + L : Nat) : Int)).toNat = (ea + K).toNat + (eb + L).toNat by omega, Nat.pow_add, Int.natCast_mul]
  grind

/-- how far a number reaches: its lowest place, the place above its highest -/
def Fits (lo hi : Int) (x : Nat) (e : Int) : Prop := x = 0 ∨ (lo ≤ e ∧ e ≤ hi ∧ x < 2 ^ (hi - e).toNat)

theorem Fits.cn {lo hi : Int} {s : Bool} {z : Nat} {e : Int} (h : Fits lo hi z e) : Fits lo hi (cn s z e).2.1 (cn s z e).2.2 := by
  rcases h with rfl | ⟨h1, h2, h3⟩
  · left; simp [YtajeodimbfppiaaGreatDoor.cn]
  · unfold YtajeodimbfppiaaGreatDoor.cn
    by_cases h0 : z = 0
    · subst h0; left; simp
    · rw [if_neg h0]
      right
      have hs := (tz_spec z z (Nat.le_refl _) h0).1
      have ho := (tz_spec z z (Nat.le_refl _) h0).2
      have hq : 1 ≤ z / 2 ^ tz z := Nat.pos_of_ne_zero fun e0 => by rw [e0] at ho; simp at ho
      have ht : tz z < (hi - e).toNat := by
        refine Nat.lt_of_not_le fun h => ?_
        have h4 := Nat.pow_le_pow_right (n := 2) (by omega) h
        have h5 := Nat.mul_le_mul_left (2 ^ tz z) hq
        omega
      refine ⟨by show lo ≤ e + (tz z : Int); omega, by show e + (tz z : Int) ≤ hi; omega, ?_⟩
      show z / 2 ^ tz z < 2 ^ (hi - (e + (tz z : Int))).toNat
      refine (Nat.div_lt_iff_lt_mul (Nat.two_pow_pos _)).2 ?_
      rw [← Nat.pow_add, show (hi - (e + (tz z : Int))).toNat + tz z = (hi - e).toNat by omega]
      exact h3

theorem Fits.mono {lo hi lo' hi' : Int} {x : Nat} {e : Int} (h : Fits lo hi x e) (h1 : lo' ≤ lo) (h2 : hi ≤ hi') : Fits lo' hi' x e := by
  rcases h with h | ⟨h3, h4, h5⟩
  · exact .inl h
  · exact .inr ⟨by omega, by omega, Nat.lt_of_lt_of_le h5 (Nat.pow_le_pow_right (by omega) (by omega))⟩

theorem Fits.at {lo hi : Int} {x : Nat} {e m : Int} (h : Fits lo hi x e) (hm : m ≤ e) : x * 2 ^ (e - m).toNat < 2 ^ (hi - m).toNat := by
  rcases h with rfl | ⟨h3, h4, h5⟩
  · rw [Nat.zero_mul]; exact Nat.two_pow_pos _
  · rw [show (hi - m).toNat = (hi - e).toNat + (e - m).toNat by omega, Nat.pow_add]
    exact Nat.mul_lt_mul_of_pos_right h5 (Nat.two_pow_pos _)

theorem Fits.sum {lo hi : Int} {na nb : Bool} {x y : Nat} {ea eb : Int} (h1 : Fits lo hi x ea) (h2 : Fits lo hi y eb) :
    Fits lo (hi + 1) (sumN na x ea nb y eb).2.1 (sumN na x ea nb y eb).2.2 := by
  unfold sumN
  by_cases x0 : x = 0
  · rw [if_pos x0]; exact h2.mono (by omega) (by omega)
  · rw [if_neg x0]
    by_cases y0 : y = 0
    · rw [if_pos y0]; exact h1.mono (by omega) (by omega)
    · rw [if_neg y0]
      have a1 := h1.at (m := min ea eb) (by omega)
      have a2 := h2.at (m := min ea eb) (by omega)
      obtain ⟨p1, p2, -⟩ := h1.resolve_left x0
      obtain ⟨q1, q2, -⟩ := h2.resolve_left y0
      have hp : 2 ^ (hi + 1 - min ea eb).toNat = 2 ^ (hi - min ea eb).toNat * 2 := by
        rw [show (hi + 1 - min ea eb).toNat = (hi - min ea eb).toNat + 1 by omega, Nat.pow_succ]
      generalize x * 2 ^ (ea - min ea eb).toNat = X at *
      generalize y * 2 ^ (eb - min ea eb).toNat = Y at *
      have hall : ∀ Z, Z ≤ X + Y → Fits lo (hi + 1) Z (min ea eb) := fun Z hZ => .inr ⟨by omega, by omega, by omega⟩
      split
      · exact hall _ (Nat.le_refl _)
      · split
        · exact hall _ (by show Y - X ≤ X + Y; omega)
        · exact hall _ (by show X - Y ≤ X + Y; omega)

theorem Fits.mul {lo hi lo' hi' : Int} {x y : Nat} {ea eb : Int} (h1 : Fits lo hi x ea) (h2 : Fits lo' hi' y eb) : Fits (lo + lo') (hi + hi') (x * y) (ea + eb) := by
  rcases h1 with rfl | ⟨a1, a2, a3⟩
  · left; simp
  · rcases h2 with rfl | ⟨b1, b2, b3⟩
    · left; simp
    · right
      refine ⟨by omega, by omega, ?_⟩
      rw [show (hi + hi' - (ea + eb)).toNat = (hi - ea).toNat + (hi' - eb).toNat by omega, Nat.pow_add]
      exact Nat.mul_lt_mul_of_lt_of_le a3 (Nat.le_of_lt b3) (Nat.two_pow_pos _)

theorem Fits.dlen {lo hi : Int} {x : Nat} {e : Int} (h : Fits lo hi x e) (hb : hi - lo ≤ 65536) : dlen x ≤ 2048 := by
  rcases h with rfl | ⟨h1, h2, h3⟩
  · rw [dlen_zero]; omega
  · refine (dlen_le _ _).2 (Nat.lt_of_lt_of_le h3 ?_)
    have hB : ∀ n, B ^ n = 2 ^ (32 * n) := fun n => by
      have : (B : Nat) = 2 ^ 32 := by decide
      rw [this, ← Nat.pow_mul]
    have hn : (hi - e).toNat ≤ 32 * 2048 := by omega
    generalize 2048 = n at *
    rw [hB]
    exact Nat.pow_le_pow_right (by omega) hn

/-- what fits may be -/
theorem Fits.ok {lo hi : Int} {s : Bool} {z : Nat} {e : Int} (h : Fits lo hi z e) (hb : hi - lo ≤ 65536) (h1 : -65536 ≤ lo) (h2 : hi ≤ 65536) : okR s z e = true := by
  unfold okR
  by_cases h0 : z = 0
  · rw [if_pos h0]
  · rw [if_neg h0]
    have hc := h.cn (s := s)
    have hd := hc.dlen hb
    unfold YtajeodimbfppiaaGreatDoor.cn at hc hd
    rw [if_neg h0] at hc hd
    have ho := (tz_spec z z (Nat.le_refl _) h0).2
    simp only at hc hd
    generalize z / 2 ^ tz z = x at *
    have hx0 : x ≠ 0 := by omega
    obtain ⟨c1, c2, c3⟩ := hc.resolve_left hx0
    unfold okN
    rw [if_neg (fun e => hx0 (dlen_eq_zero.1 e))]
    have e0 : dg x 0 % 2 = 1 := by
      unfold dg
      rw [Nat.pow_zero, Nat.div_one]
      unfold B
      omega
    have e1 := dg_top hx0
    simp only [Bool.and_eq_true, decide_eq_true_eq, bne_iff_ne, ne_eq, beq_iff_eq]
    exact ⟨⟨⟨⟨hd, e1⟩, e0⟩, by omega⟩, by omega⟩
end Go.Proofs.YtajeodimbfppiaaGreatDoor

/- Numbers in memory by their one form, and what Add, Sub, Mul make of them. -/
namespace Go.Proofs.YtajeodimbfppiaaGreatDoor
set_option linter.unusedVariables false
set_option linter.unusedSimpArgs false
open Go.RowKit

/-- A is, in memory, the number t: sign, digits, exponent -/
def PN (w : World) (A : Value) (t : Bool × Nat × Int) : Prop := ∃ ao cap, A = .agg #[.bool t.1, .slice ao (dlen t.2.1) cap, .int .i64 t.2.2] ∧ Is w (.slice ao (dlen t.2.1) cap) t.2.1
/-- t may be -/
def Ok (t : Bool × Nat × Int) : Prop := okN t.1 (dlen t.2.1) t.2.1 t.2.2 = true

theorem PN.later {w w' : World} {A : Value} {t : Bool × Nat × Int} (h : PN w A t) (hb : Below w.heap.size w w') : PN w' A t := by
  obtain ⟨ao, cap, h1, h2⟩ := h
  exact ⟨ao, cap, h1, h2.later hb⟩
theorem PN.shape {w : World} {A : Value} {t : Bool × Nat × Int} (h : PN w A t) : ∃ s ao n cap e, A = .agg #[.bool s, .slice ao n cap, .int .i64 e] := by
  obtain ⟨ao, cap, h1, -⟩ := h
  exact ⟨_, _, _, _, _, h1⟩
theorem Nrm.pn {w : World} {base : Nat} {A : Value} {s : Bool} {z : Nat} {e : Int} (h : Nrm w base A s z e) : PN w A (cn s z e) := by
  unfold cn
  rcases h with ⟨rfl, rfl⟩ | ⟨h0, v, rfl, ho⟩
  · rw [if_pos rfl]
    exact ⟨none, 0, by rw [dlen_zero]; rfl, by rw [dlen_zero]; exact is_nil w⟩
  · rw [if_neg h0]
    obtain ⟨ao, cap, rfl, h1, h2, h3⟩ := ho.is
    exact ⟨ao, cap, rfl, ao, cap, rfl, h1, h2, h3⟩
theorem ok_cn {s : Bool} {z : Nat} {e : Int} (h : okR s z e = true) : Ok (cn s z e) := by
  unfold Ok cn
  unfold okR at h
  by_cases h0 : z = 0
  · rw [if_pos h0, dlen_zero]; rfl
  · rw [if_neg h0] at h ⊢; exact h
/-- what may be is its own form -/
theorem Ok.facts {t : Bool × Nat × Int} (h : Ok t) : dlen t.2.1 ≤ 2048 ∧ -65536 ≤ t.2.2 ∧ t.2.2 ≤ 65536 ∧ (t.2.1 = 0 → t = (false, 0, 0)) ∧ (t.2.1 ≠ 0 → t.2.1 % 2 = 1) := by
  obtain ⟨s, x, e⟩ := t
  unfold Ok okN at h
  simp only at h ⊢
  by_cases h0 : x = 0
  · subst h0
    rw [dlen_zero, if_pos rfl] at h
    simp at h
    obtain ⟨rfl, rfl⟩ := h
    rw [dlen_zero]
    exact ⟨by omega, by omega, by omega, fun _ => rfl, fun h => absurd rfl h⟩
  · rw [if_neg (fun e => h0 (dlen_eq_zero.1 e))] at h
    simp only [Bool.and_eq_true, decide_eq_true_eq, bne_iff_ne, ne_eq, beq_iff_eq] at h
    obtain ⟨⟨⟨⟨h1, h2⟩, h3⟩, h4⟩, h5⟩ := h
    refine ⟨h1, h4, h5, fun h => absurd h h0, fun _ => ?_⟩
    unfold dg at h3
    rw [Nat.pow_zero, Nat.div_one] at h3
    unfold B at h3
    omega
theorem cn_ok {t : Bool × Nat × Int} (h : Ok t) : cn t.1 t.2.1 t.2.2 = t := by
  obtain ⟨-, -, -, h1, h2⟩ := h.facts
  unfold cn
  by_cases h0 : t.2.1 = 0
  · rw [if_pos h0]; exact (h1 h0).symm
  · rw [if_neg h0, tz_odd (h2 h0)]
    simp

/-- a call of two numbers that answers a number and no error -/
def Op2 (f : FuncId) (t1 t2 t3 : Bool × Nat × Int) : Prop := ∀ W X Y, Tab32 W → PN W X t1 → PN W Y t2 → Calls Tryz.prog f #[X, Y] W fun r w' => ∃ s ao n cap e, r = .returned (.tuple #[.agg #[.bool s, .slice ao n cap, .int .i64 e], .int .i64 0]) ∧ PN w' (.agg #[.bool s, .slice ao n cap, .int .i64 e]) t3 ∧ Below W.heap.size W w'

theorem held_pn {w : World} {s : Bool} {z : Nat} {e : Int} {r : Ending} {w' : World} (h : Held w s z e r w') (hok : okR s z e = true) :
    ∃ s' ao n cap e', r = .returned (.tuple #[.agg #[.bool s', .slice ao n cap, .int .i64 e'], .int .i64 0]) ∧ PN w' (.agg #[.bool s', .slice ao n cap, .int .i64 e']) (cn s z e) ∧ Below w.heap.size w w' := by
  obtain ⟨A, rfl, hN, hb⟩ := h
  rw [hok]
  have hp := hN.pn
  obtain ⟨s', ao, n, cap, e', rfl⟩ := hp.shape
  exact ⟨s', ao, n, cap, e', rfl, hp, hb⟩

theorem add_op {t1 t2 : Bool × Nat × Int} (h1 : Ok t1) (h2 : Ok t2) (hok : okR (sumN t1.1 t1.2.1 t1.2.2 t2.1 t2.2.1 t2.2.2).1 (sumN t1.1 t1.2.1 t1.2.2 t2.1 t2.2.1 t2.2.2).2.1 (sumN t1.1 t1.2.1 t1.2.2 t2.1 t2.2.1 t2.2.2).2.2 = true) :
    Op2 78 t1 t2 (cn (sumN t1.1 t1.2.1 t1.2.2 t2.1 t2.2.1 t2.2.2).1 (sumN t1.1 t1.2.1 t1.2.2 t2.1 t2.2.1 t2.2.2).2.1 (sumN t1.1 t1.2.1 t1.2.2 t2.1 t2.2.1 t2.2.2).2.2) := by
  intro W X Y hT hX hY
  obtain ⟨ua, uc, rfl, i1⟩ := hX
  obtain ⟨va, vc, rfl, i2⟩ := hY
  obtain ⟨a1, a2, a3, -, -⟩ := h1.facts
  obtain ⟨b1, b2, b3, -, -⟩ := h2.facts
  have hl := dlen_sumN t1.1 t1.2.1 t1.2.2 t2.1 t2.2.1 t2.2.2 (by omega) (by omega) (by omega) (by omega)
  refine (c34_1 t1.1 t2.1 ua va _ uc _ vc t1.2.1 t2.2.1 _ t1.2.2 t2.2.2 _ _ W (by omega) (fun W' g hW hg => ?_) (fun W' hW => c87 (i1.later hW) (i2.later hW) (by omega) (by omega) (by omega) (by omega) (hT.later hW))).mono fun r w' h => held_pn h hok
  have := maybe2 hg (i1.later hW) (i2.later hW) (by omega) (by omega)
  unfold Ok at h1 h2
  rw [h1, h2] at this
  exact this

theorem sub_op {t1 t2 : Bool × Nat × Int} (h1 : Ok t1) (h2 : Ok t2) (hok : okR (sumN t1.1 t1.2.1 t1.2.2 (!t2.1 && decide (0 < dlen t2.2.1)) t2.2.1 t2.2.2).1 (sumN t1.1 t1.2.1 t1.2.2 (!t2.1 && decide (0 < dlen t2.2.1)) t2.2.1 t2.2.2).2.1 (sumN t1.1 t1.2.1 t1.2.2 (!t2.1 && decide (0 < dlen t2.2.1)) t2.2.1 t2.2.2).2.2 = true) :
    Op2 153 t1 t2 (cn (sumN t1.1 t1.2.1 t1.2.2 (!t2.1 && decide (0 < dlen t2.2.1)) t2.2.1 t2.2.2).1 (sumN t1.1 t1.2.1 t1.2.2 (!t2.1 && decide (0 < dlen t2.2.1)) t2.2.1 t2.2.2).2.1 (sumN t1.1 t1.2.1 t1.2.2 (!t2.1 && decide (0 < dlen t2.2.1)) t2.2.1 t2.2.2).2.2) := by
  intro W X Y hT hX hY
  obtain ⟨ua, uc, rfl, i1⟩ := hX
  obtain ⟨va, vc, rfl, i2⟩ := hY
  obtain ⟨a1, a2, a3, -, -⟩ := h1.facts
  obtain ⟨b1, b2, b3, -, -⟩ := h2.facts
  exact (sub_ok i1 i2 (by omega) (by omega) (by omega) (by omega) h1 h2 hT).mono fun r w' h => held_pn h hok

theorem mul_op {t1 t2 : Bool × Nat × Int} (h1 : Ok t1) (h2 : Ok t2) (hok : okR (!(t1.1 == t2.1)) (t1.2.1 * t2.2.1) (t1.2.2 + t2.2.2) = true) :
    Op2 90 t1 t2 (cn (!(t1.1 == t2.1)) (t1.2.1 * t2.2.1) (t1.2.2 + t2.2.2)) := by
  intro W X Y hT hX hY
  obtain ⟨ua, uc, rfl, i1⟩ := hX
  obtain ⟨va, vc, rfl, i2⟩ := hY
  obtain ⟨a1, a2, a3, -, -⟩ := h1.facts
  obtain ⟨b1, b2, b3, -, -⟩ := h2.facts
  exact (mul_ok i1 i2 (by omega) (by omega) (by omega) (by omega) h1 h2 hT).mono fun r w' h => held_pn h hok

/-- digits that give laid, of a number that may be -/
theorem dn_pn {w : World} {base : Nat} {v : Value} {s : Bool} {x : Nat} {e : Int} (h : Dn w base v (dlen x) x) : PN w (.agg #[.bool s, v, .int .i64 e]) (s, x, e) := by
  rcases h with ⟨rfl, h0⟩ | ⟨g, cap, c, rfl, h1, h2, h3, h4, h5⟩
  · obtain rfl := dlen_eq_zero.1 h0
    exact ⟨none, 0, by rw [dlen_zero], by rw [dlen_zero]; exact is_nil w⟩
  · exact ⟨_, cap, rfl, _, cap, rfl, h2.1, h2.2, g, 0, fun _ => rfl, fun i hi => by rw [Nat.zero_add]; simp [World.cell?, h3, h5 i hi]⟩
end Go.Proofs.YtajeodimbfppiaaGreatDoor

/- The document's size, Valid, kept. -/
namespace Go.Proofs.YtajeodimbfppiaaGreatDoor
set_option linter.unusedVariables false
set_option linter.unusedSimpArgs false
open Go.RowKit Go.Fl64

theorem bl_half {x : Nat} (h : x ≠ 0) : bl x = bl (x / 2) + 1 := by
  have h1 := lt_bl (x / 2)
  apply bl_eq
  · rw [Nat.pow_succ]; omega
  · refine .inr ?_
    rw [Nat.add_sub_cancel]
    by_cases h2 : x / 2 = 0
    · rw [h2]
      have : bl 0 = 0 := by unfold bl; simp
      rw [this]; omega
    · have h3 := le_bl h2
      have h4 : bl (x / 2) ≠ 0 := by unfold bl; rw [if_neg h2]; omega
      obtain ⟨k, hk⟩ : ∃ k, bl (x / 2) = k + 1 := ⟨bl (x / 2) - 1, by omega⟩
      rw [hk] at h3 ⊢
      rw [Nat.add_sub_cancel] at h3
      rw [Nat.pow_succ]; omega

set_option maxRecDepth 200000 in
theorem r42 (b o n cap x : Nat) (w : World) (hn0 : 0 < n) (hn : n ≤ 1000000000) (hx : dlen x = n) (hcell : ∀ i, i < n → w.cell? ⟨b, o + i, none⟩ = some (.int .u32 (dg x i : Nat))) :
    Calls Tryz.prog 133 #[.slice (some ⟨b, o, none⟩) n cap] w fun e w' => e = .returned (.int .i64 (bl x : Nat)) ∧ w' = w := by
  have hx0 : x ≠ 0 := by intro e; subst e; rw [dlen_zero] at hx; omega
  have hbt := bl_top hx0
  have hlt := dg_lt x (n - 1)
  have g := hcell (n - 1) (by omega)
  rw [hx] at hbt
  obtain ⟨k, rfl⟩ : ∃ k, n = k + 1 := ⟨n - 1, by omega⟩
  rw [Nat.add_sub_cancel] at hbt hlt g
  generalize hd : dg x k = d at *
  have HB : Hid (bl x = 32 * k + bl d ∧ d < 4294967296) := ⟨hbt, hlt⟩
  have hn0' : (((k + 1 : Nat) : Int) == 0) = false := by simp; omega
  clear hcell hbt hlt hx hx0 hd
  go_enter Tryz.func133, Tryz.ntmps133
  go_wp2
  go_loop [3, 4] (fun c t => ∃ (j u : Nat), c = .int .i64 (32 * (k : Int) + j) ∧ t = .int .u32 (u : Int) ∧ Hid (bl d = j + bl u ∧ u < 4294967296) ∧ j ≤ 32) (fun _ t => (intOf t).toNat)
  case atStart => exact ⟨0, d, by simp, rfl, ⟨by omega, HB.out.2⟩, by omega⟩
  case round =>
    obtain ⟨j, u, rfl, rfl, HU, hj⟩ := hrel
    by_cases hu : u = 0
    · subst hu
      have e : bl x = 32 * k + j := by
        have h1 := HU.out.1
        have : bl 0 = 0 := by unfold bl; simp
        rw [this] at h1
        have := HB.out.1
        omega
      have HE : Hid (((bl x : Nat) : Int) = 32 * (k : Int) + j) := (by rw [e]; simp : ((bl x : Nat) : Int) = 32 * (k : Int) + j)
      clear e
      go_wp2
      go_ret
      rw [HE.out]
      exact ⟨rfl, rfl⟩
    · have hu0 : 0 < (u : Int) := by omega
      have hb := bl_half hu
      have hj' : j + 1 ≤ 32 := by
        have h1 := HU.out.1
        have := bl_le32 (x := d) HB.out.2
        omega
      have HN : Hid (bl d = (j + 1) + bl (u / 2) ∧ u / 2 < 4294967296) := ⟨by have := HU.out.1; omega, by have := HU.out.2; omega⟩
      clear hb
      go_wp2
      exact ⟨⟨j + 1, u / 2, by congr 1, by simp, HN, hj'⟩, by simp [intOf]; omega⟩

end Go.Proofs.YtajeodimbfppiaaGreatDoor

/- The document's Valid, of all numbers. -/
namespace Go.Proofs.YtajeodimbfppiaaGreatDoor
set_option linter.unusedVariables false
set_option linter.unusedSimpArgs false
open Go.RowKit Go.Fl64

end Go.Proofs.YtajeodimbfppiaaGreatDoor

/- An argument that is the document's number, opened. -/
namespace Go.Proofs.YtajeodimbfppiaaGreatDoor
set_option linter.unusedVariables false
set_option linter.unusedSimpArgs false
open Go.ChangeShapes Go.WideShapes Go.ChangeAt Go.RowKit Go.Joins

end Go.Proofs.YtajeodimbfppiaaGreatDoor
