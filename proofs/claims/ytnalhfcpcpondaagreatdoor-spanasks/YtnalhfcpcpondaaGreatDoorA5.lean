/- Own work: contracts of the program's functions, part 5: G1 G2 Q1 Q2 R6 Q3 ON. -/
import Derived.Test.YtnalhfcpcpondaaGreatDoorA4
import Derived.Deep.RegionLawGrows
import Derived.Deep.RegionHeld3
import Derived.Laws.AppendOwnNone
import Derived.Test.YtnalhfcpcpondaaGreatDoorA3
import Derived.Test.YtnalhfcpcpondaaGreatDoorA2
import Derived.Test.YtnalhfcpcpondaaGreatDoorRows
import Derived.Carry
import Derived.ChangeSlices
import Derived.WalkKit
import Derived.ProofKit
import Derived.OpenShut
import Derived.WalkLawsBesides
import Derived.ChangeAlike
import Derived.Lib.SmallJoins
import Derived.SizedLaws

/- The laws' give: a number with digits of its own. -/
namespace Go.Proofs.YtnalhfcpcpondaaGreatDoor
set_option linter.unusedVariables false
set_option linter.unusedSimpArgs false
open Go.RowKit

theorem setCell_block {w : World} {g k : Nat} (i : Nat) (v : Value) (h : k ≠ g) : (w.setCell ⟨g, i, none⟩ v).heap[k]? = w.heap[k]? := by
  simp [World.setCell, Array.getElem?_modify, Ne.symm h]
/-- v is a slice in memory of its own (from block base on) that holds the lowest n digits of z -/
def Dn (w : World) (base : Nat) (v : Value) (n z : Nat) : Prop :=
  (v = .slice none 0 0 ∧ n = 0) ∨ ∃ g cap c, v = .slice (some ⟨g, 0, none⟩) n cap ∧ base ≤ g ∧ (n ≤ cap ∧ cap ≤ 9223372036854775807) ∧ w.heap[g]? = some (.cells c 104 (0, 0)) ∧ c.size = cap ∧ ∀ i, i < n → c[i]? = some (.int .u32 (dg z i : Nat))

/-- a number as the laws are handed it: n digits of z, in memory -/
structure Arg (w : World) (ao : Option Addr) (n cap z : Nat) : Prop where
  nil : n = 0 → (∃ ad, ao = some ad) ∨ (ao = none ∧ cap = 0)
  at_ : At w ao n z
  le : n ≤ cap
  small : n ≤ 35184372088832
theorem Arg.later {w w' : World} {ao : Option Addr} {n cap z : Nat} (h : Arg w ao n cap z) (hb : Below w.heap.size w w') : Arg w' ao n cap z := ⟨h.nil, h.at_.later hb, h.le, h.small⟩

theorem Dn.later {w w' : World} {base : Nat} {v : Value} {n z : Nat} (h : Dn w base v n z) (hb : Below w.heap.size w w') : Dn w' base v n z := by
  rcases h with h | ⟨g, cap, c, h0, h1, h2, h3, h4, h5⟩
  · exact .inl h
  · exact .inr ⟨g, cap, c, h0, h1, h2, (hb.block g (Array.getElem?_eq_some_iff.1 h3).1).trans h3, h4, h5⟩
theorem Dn.row {w : World} {base : Nat} {v : Value} {n z : Nat} (h : Dn w base v n z) {g : Nat} {cs : Array Value} {t : TypeId} {fr : Nat × Nat} (hg : w.heap[g]? = some (.cells cs t fr)) (ht : t ≠ 104) (cs' : Array Value) : Dn (w.setRow g cs') base v n z := by
  rcases h with h | ⟨g', cap, c, h0, h1, h2, h3, h4, h5⟩
  · exact .inl h
  · refine .inr ⟨g', cap, c, h0, h1, h2, ?_, h4, h5⟩
    rw [setRow_other]
    · exact h3
    · intro e
      subst e
      rw [h3] at hg
      simp only [Option.some.injEq, Obj.cells.injEq] at hg
      exact ht hg.2.1.symm
theorem Dn.mono {w : World} {base base' : Nat} {v : Value} {n z : Nat} (h : Dn w base v n z) (hb : base' ≤ base) : Dn w base' v n z := by
  rcases h with h | ⟨g, cap, c, h0, h1, h2⟩
  · exact .inl h
  · exact .inr ⟨g, cap, c, h0, by omega, h2⟩
theorem Dn.at {w : World} {base : Nat} {v : Value} {n z : Nat} (h : Dn w base v n z) : ∃ ao cap, v = .slice ao n cap ∧ n ≤ cap ∧ At w ao n z := by
  rcases h with ⟨rfl, rfl⟩ | ⟨g, cap, c, rfl, h1, h2, h3, h4, h5⟩
  · exact ⟨none, 0, rfl, by omega, 0, 0, fun h => by omega, fun i hi => by omega⟩
  · exact ⟨_, cap, rfl, h2.1, g, 0, fun _ => rfl, fun i hi => by rw [Nat.zero_add]; simp [World.cell?, h3, h5 i hi]⟩
end Go.Proofs.YtnalhfcpcpondaaGreatDoor
/- Several numbers given at once: x, y := give(a), give(b). -/
namespace Go.Proofs.YtnalhfcpcpondaaGreatDoor
set_option linter.unusedVariables false
set_option linter.unusedSimpArgs false
open Go.RowKit

end Go.Proofs.YtnalhfcpcpondaaGreatDoor
/- Exact values: a sign, a whole number, an exponent; one form for each. -/
namespace Go.Proofs.YtnalhfcpcpondaaGreatDoor
set_option linter.unusedVariables false
set_option linter.unusedSimpArgs false
open Go.RowKit

/-- a whole number with a sign -/
def sv (s : Bool) (x : Nat) : Int := if s then -(x : Int) else x
/-- the one form -/
def cn (s : Bool) (z : Nat) (e : Int) : Bool × Nat × Int := if z = 0 then (false, 0, 0) else (s, z / 2 ^ tz z, e + tz z)

/-- how far a number reaches: its lowest place, the place above its highest -/
def Fits (lo hi : Int) (x : Nat) (e : Int) : Prop := x = 0 ∨ (lo ≤ e ∧ e ≤ hi ∧ x < 2 ^ (hi - e).toNat)

theorem Fits.cn {lo hi : Int} {s : Bool} {z : Nat} {e : Int} (h : Fits lo hi z e) : Fits lo hi (cn s z e).2.1 (cn s z e).2.2 := by
  rcases h with rfl | ⟨h1, h2, h3⟩
  · left; simp [YtnalhfcpcpondaaGreatDoor.cn]
  · unfold YtnalhfcpcpondaaGreatDoor.cn
    by_cases h0 : z = 0
    · subst h0; left; simp
    · rw [if_neg h0]
      right
      have hs := (tz_spec z z (Nat.le_refl _) h0).1
      have ho := (tz_spec z z (Nat.le_refl _) h0).2
      have hq : 1 ≤ z / 2 ^ tz z := Nat.pos_of_ne_zero fun e0 => by rw [e0] at ho; simp at ho
      have ht : tz z < (hi - e).toNat := by
        refine Nat.lt_of_not_le fun h => ?_
        have h4 := Nat.pow_le_pow_right (n := 2) (by omega) h
        have h5 := Nat.mul_le_mul_left (2 ^ tz z) hq
        omega
      refine ⟨by show lo ≤ e + (tz z : Int); omega, by show e + (tz z : Int) ≤ hi; omega, ?_⟩
      show z / 2 ^ tz z < 2 ^ (hi - (e + (tz z : Int))).toNat
      refine (Nat.div_lt_iff_lt_mul (Nat.two_pow_pos _)).2 ?_
      rw [← Nat.pow_add, show (hi - (e + (tz z : Int))).toNat + tz z = (hi - e).toNat by omega]
      exact h3

theorem Fits.mono {lo hi lo' hi' : Int} {x : Nat} {e : Int} (h : Fits lo hi x e) (h1 : lo' ≤ lo) (h2 : hi ≤ hi') : Fits lo' hi' x e := by
  rcases h with h | ⟨h3, h4, h5⟩
  · exact .inl h
  · exact .inr ⟨by omega, by omega, Nat.lt_of_lt_of_le h5 (Nat.pow_le_pow_right (by omega) (by omega))⟩

theorem Fits.at {lo hi : Int} {x : Nat} {e m : Int} (h : Fits lo hi x e) (hm : m ≤ e) : x * 2 ^ (e - m).toNat < 2 ^ (hi - m).toNat := by
  rcases h with rfl | ⟨h3, h4, h5⟩
  · rw [Nat.zero_mul]; exact Nat.two_pow_pos _
  · rw [show (hi - m).toNat = (hi - e).toNat + (e - m).toNat by omega, Nat.pow_add]
    exact Nat.mul_lt_mul_of_pos_right h5 (Nat.two_pow_pos _)

theorem Fits.sum {lo hi : Int} {na nb : Bool} {x y : Nat} {ea eb : Int} (h1 : Fits lo hi x ea) (h2 : Fits lo hi y eb) :
    Fits lo (hi + 1) (sumN na x ea nb y eb).2.1 (sumN na x ea nb y eb).2.2 := by
  unfold sumN
  by_cases x0 : x = 0
  · rw [if_pos x0]; exact h2.mono (by omega) (by omega)
  · rw [if_neg x0]
    by_cases y0 : y = 0
    · rw [if_pos y0]; exact h1.mono (by omega) (by omega)
    · rw [if_neg y0]
      have a1 := h1.at (m := min ea eb) (by omega)
      have a2 := h2.at (m := min ea eb) (by omega)
      obtain ⟨p1, p2, -⟩ := h1.resolve_left x0
      obtain ⟨q1, q2, -⟩ := h2.resolve_left y0
      have hp : 2 ^ (hi + 1 - min ea eb).toNat = 2 ^ (hi - min ea eb).toNat * 2 := by
        rw [show (hi + 1 - min ea eb).toNat = (hi - min ea eb).toNat + 1 by omega, Nat.pow_succ]
      generalize x * 2 ^ (ea - min ea eb).toNat = X at *
      generalize y * 2 ^ (eb - min ea eb).toNat = Y at *
      have hall : ∀ Z, Z ≤ X + Y → Fits lo (hi + 1) Z (min ea eb) := fun Z hZ => .inr ⟨by omega, by omega, by omega⟩
      split
      · exact hall _ (Nat.le_refl _)
      · split
        · exact hall _ (by show Y - X ≤ X + Y; omega)
        · exact hall _ (by show X - Y ≤ X + Y; omega)

theorem Fits.mul {lo hi lo' hi' : Int} {x y : Nat} {ea eb : Int} (h1 : Fits lo hi x ea) (h2 : Fits lo' hi' y eb) : Fits (lo + lo') (hi + hi') (x * y) (ea + eb) := by
  rcases h1 with rfl | ⟨a1, a2, a3⟩
  · left; simp
  · rcases h2 with rfl | ⟨b1, b2, b3⟩
    · left; simp
    · right
      refine ⟨by omega, by omega, ?_⟩
      rw [show (hi + hi' - (ea + eb)).toNat = (hi - ea).toNat + (hi' - eb).toNat by omega, Nat.pow_add]
      exact Nat.mul_lt_mul_of_lt_of_le a3 (Nat.le_of_lt b3) (Nat.two_pow_pos _)

theorem Fits.dlen {lo hi : Int} {x : Nat} {e : Int} (h : Fits lo hi x e) (hb : hi - lo ≤ 65536) : dlen x ≤ 2048 := by
  rcases h with rfl | ⟨h1, h2, h3⟩
  · rw [dlen_zero]; omega
  · refine (dlen_le _ _).2 (Nat.lt_of_lt_of_le h3 ?_)
    have hB : ∀ n, B ^ n = 2 ^ (32 * n) := fun n => by
      have : (B : Nat) = 2 ^ 32 := by decide
      rw [this, ← Nat.pow_mul]
    have hn : (hi - e).toNat ≤ 32 * 2048 := by omega
    generalize 2048 = n at *
    rw [hB]
    exact Nat.pow_le_pow_right (by omega) hn

/-- what fits may be -/
theorem Fits.ok {lo hi : Int} {s : Bool} {z : Nat} {e : Int} (h : Fits lo hi z e) (hb : hi - lo ≤ 65536) (h1 : -65536 ≤ lo) (h2 : hi ≤ 65536) : okR s z e = true := by
  unfold okR
  by_cases h0 : z = 0
  · rw [if_pos h0]
  · rw [if_neg h0]
    have hc := h.cn (s := s)
    have hd := hc.dlen hb
    unfold YtnalhfcpcpondaaGreatDoor.cn at hc hd
    rw [if_neg h0] at hc hd
    have ho := (tz_spec z z (Nat.le_refl _) h0).2
    simp only at hc hd
    generalize z / 2 ^ tz z = x at *
    have hx0 : x ≠ 0 := by omega
    obtain ⟨c1, c2, c3⟩ := hc.resolve_left hx0
    unfold okN
    rw [if_neg (fun e => hx0 (dlen_eq_zero.1 e))]
    have e0 : dg x 0 % 2 = 1 := by
      unfold dg
      rw [Nat.pow_zero, Nat.div_one]
      unfold B
      omega
    have e1 := dg_top hx0
    simp only [Bool.and_eq_true, decide_eq_true_eq, bne_iff_ne, ne_eq, beq_iff_eq]
    exact ⟨⟨⟨⟨hd, e1⟩, e0⟩, by omega⟩, by omega⟩
end Go.Proofs.YtnalhfcpcpondaaGreatDoor
/- Numbers in memory by their one form, and what Add, Sub, Mul make of them. -/
namespace Go.Proofs.YtnalhfcpcpondaaGreatDoor
set_option linter.unusedVariables false
set_option linter.unusedSimpArgs false
open Go.RowKit

/-- A is, in memory, the number t: sign, digits, exponent -/
def PN (w : World) (A : Value) (t : Bool × Nat × Int) : Prop := ∃ ao cap, A = .agg #[.bool t.1, .slice ao (dlen t.2.1) cap, .int .i64 t.2.2] ∧ Is w (.slice ao (dlen t.2.1) cap) t.2.1
/-- t may be -/
def Ok (t : Bool × Nat × Int) : Prop := okN t.1 (dlen t.2.1) t.2.1 t.2.2 = true

theorem PN.later {w w' : World} {A : Value} {t : Bool × Nat × Int} (h : PN w A t) (hb : Below w.heap.size w w') : PN w' A t := by
  obtain ⟨ao, cap, h1, h2⟩ := h
  exact ⟨ao, cap, h1, h2.later hb⟩
theorem PN.shape {w : World} {A : Value} {t : Bool × Nat × Int} (h : PN w A t) : ∃ s ao n cap e, A = .agg #[.bool s, .slice ao n cap, .int .i64 e] := by
  obtain ⟨ao, cap, h1, -⟩ := h
  exact ⟨_, _, _, _, _, h1⟩
theorem Nrm.pn {w : World} {base : Nat} {A : Value} {s : Bool} {z : Nat} {e : Int} (h : Nrm w base A s z e) : PN w A (cn s z e) := by
  unfold cn
  rcases h with ⟨rfl, rfl⟩ | ⟨h0, v, rfl, ho⟩
  · rw [if_pos rfl]
    exact ⟨none, 0, by rw [dlen_zero]; rfl, by rw [dlen_zero]; exact is_nil w⟩
  · rw [if_neg h0]
    obtain ⟨ao, cap, rfl, h1, h2, h3⟩ := ho.is
    exact ⟨ao, cap, rfl, ao, cap, rfl, h1, h2, h3⟩
theorem ok_cn {s : Bool} {z : Nat} {e : Int} (h : okR s z e = true) : Ok (cn s z e) := by
  unfold Ok cn
  unfold okR at h
  by_cases h0 : z = 0
  · rw [if_pos h0, dlen_zero]; rfl
  · rw [if_neg h0] at h ⊢; exact h
/-- what may be is its own form -/
theorem Ok.facts {t : Bool × Nat × Int} (h : Ok t) : dlen t.2.1 ≤ 2048 ∧ -65536 ≤ t.2.2 ∧ t.2.2 ≤ 65536 ∧ (t.2.1 = 0 → t = (false, 0, 0)) ∧ (t.2.1 ≠ 0 → t.2.1 % 2 = 1) := by
  obtain ⟨s, x, e⟩ := t
  unfold Ok okN at h
  simp only at h ⊢
  by_cases h0 : x = 0
  · subst h0
    rw [dlen_zero, if_pos rfl] at h
    simp at h
    obtain ⟨rfl, rfl⟩ := h
    rw [dlen_zero]
    exact ⟨by omega, by omega, by omega, fun _ => rfl, fun h => absurd rfl h⟩
  · rw [if_neg (fun e => h0 (dlen_eq_zero.1 e))] at h
    simp only [Bool.and_eq_true, decide_eq_true_eq, bne_iff_ne, ne_eq, beq_iff_eq] at h
    obtain ⟨⟨⟨⟨h1, h2⟩, h3⟩, h4⟩, h5⟩ := h
    refine ⟨h1, h4, h5, fun h => absurd h h0, fun _ => ?_⟩
    unfold dg at h3
    rw [Nat.pow_zero, Nat.div_one] at h3
    unfold B at h3
    omega
/-- a call of two numbers that answers a number and no error -/
def Op2 (f : FuncId) (t1 t2 t3 : Bool × Nat × Int) : Prop := ∀ W X Y, Tab32 W → PN W X t1 → PN W Y t2 → Calls Tryz.prog f #[X, Y] W fun r w' => ∃ s ao n cap e, r = .returned (.tuple #[.agg #[.bool s, .slice ao n cap, .int .i64 e], .int .i64 0]) ∧ PN w' (.agg #[.bool s, .slice ao n cap, .int .i64 e]) t3 ∧ Below W.heap.size W w'

theorem held_pn {w : World} {s : Bool} {z : Nat} {e : Int} {r : Ending} {w' : World} (h : Held w s z e r w') (hok : okR s z e = true) :
    ∃ s' ao n cap e', r = .returned (.tuple #[.agg #[.bool s', .slice ao n cap, .int .i64 e'], .int .i64 0]) ∧ PN w' (.agg #[.bool s', .slice ao n cap, .int .i64 e']) (cn s z e) ∧ Below w.heap.size w w' := by
  obtain ⟨A, rfl, hN, hb⟩ := h
  rw [hok]
  have hp := hN.pn
  obtain ⟨s', ao, n, cap, e', rfl⟩ := hp.shape
  exact ⟨s', ao, n, cap, e', rfl, hp, hb⟩

theorem add_op {t1 t2 : Bool × Nat × Int} (h1 : Ok t1) (h2 : Ok t2) (hok : okR (sumN t1.1 t1.2.1 t1.2.2 t2.1 t2.2.1 t2.2.2).1 (sumN t1.1 t1.2.1 t1.2.2 t2.1 t2.2.1 t2.2.2).2.1 (sumN t1.1 t1.2.1 t1.2.2 t2.1 t2.2.1 t2.2.2).2.2 = true) :
    Op2 116 t1 t2 (cn (sumN t1.1 t1.2.1 t1.2.2 t2.1 t2.2.1 t2.2.2).1 (sumN t1.1 t1.2.1 t1.2.2 t2.1 t2.2.1 t2.2.2).2.1 (sumN t1.1 t1.2.1 t1.2.2 t2.1 t2.2.1 t2.2.2).2.2) := by
  intro W X Y hT hX hY
  obtain ⟨ua, uc, rfl, i1⟩ := hX
  obtain ⟨va, vc, rfl, i2⟩ := hY
  obtain ⟨a1, a2, a3, -, -⟩ := h1.facts
  obtain ⟨b1, b2, b3, -, -⟩ := h2.facts
  have hl := dlen_sumN t1.1 t1.2.1 t1.2.2 t2.1 t2.2.1 t2.2.2 (by omega) (by omega) (by omega) (by omega)
  refine (c34_1 t1.1 t2.1 ua va _ uc _ vc t1.2.1 t2.2.1 _ t1.2.2 t2.2.2 _ _ W (by omega) (fun W' g hW hg => ?_) (fun W' hW => c87 (i1.later hW) (i2.later hW) (by omega) (by omega) (by omega) (by omega) (hT.later hW))).mono fun r w' h => held_pn h hok
  have := maybe2 hg (i1.later hW) (i2.later hW) (by omega) (by omega)
  unfold Ok at h1 h2
  rw [h1, h2] at this
  exact this

theorem mul_op {t1 t2 : Bool × Nat × Int} (h1 : Ok t1) (h2 : Ok t2) (hok : okR (!(t1.1 == t2.1)) (t1.2.1 * t2.2.1) (t1.2.2 + t2.2.2) = true) :
    Op2 134 t1 t2 (cn (!(t1.1 == t2.1)) (t1.2.1 * t2.2.1) (t1.2.2 + t2.2.2)) := by
  intro W X Y hT hX hY
  obtain ⟨ua, uc, rfl, i1⟩ := hX
  obtain ⟨va, vc, rfl, i2⟩ := hY
  obtain ⟨a1, a2, a3, -, -⟩ := h1.facts
  obtain ⟨b1, b2, b3, -, -⟩ := h2.facts
  exact (mul_ok i1 i2 (by omega) (by omega) (by omega) (by omega) h1 h2 hT).mono fun r w' h => held_pn h hok

end Go.Proofs.YtnalhfcpcpondaaGreatDoor
/- The document's size, Valid, kept. -/
namespace Go.Proofs.YtnalhfcpcpondaaGreatDoor
set_option linter.unusedVariables false
set_option linter.unusedSimpArgs false
open Go.RowKit Go.Fl64

end Go.Proofs.YtnalhfcpcpondaaGreatDoor
/- The document's Valid, of all numbers. -/
namespace Go.Proofs.YtnalhfcpcpondaaGreatDoor
set_option linter.unusedVariables false
set_option linter.unusedSimpArgs false
open Go.RowKit Go.Fl64

end Go.Proofs.YtnalhfcpcpondaaGreatDoor
/- An argument that is the document's number, opened. -/
namespace Go.Proofs.YtnalhfcpcpondaaGreatDoor
set_option linter.unusedVariables false
set_option linter.unusedSimpArgs false
open Go.ChangeShapes Go.WideShapes Go.ChangeAt Go.RowKit Go.Joins

theorem laidOut : laidOutB Tryz.prog = true := by kernel_rfl
end Go.Proofs.YtnalhfcpcpondaaGreatDoor
