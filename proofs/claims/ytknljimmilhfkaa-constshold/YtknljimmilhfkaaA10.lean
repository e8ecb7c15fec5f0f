/- Own work: contracts of the program's functions, part 10: Q1 W38 W39 W40 W34 W28 W29 W35 W41 G2 Shelf S1 S2 T1 Q2 RB4 RB5 RB6 R8 RB7 RB8 RB9 W33 RC1 RW1 SA3 RC2 RC3 RT2 DV1 RV1. -/
import Derived.Test.YtknljimmilhfkaaA8
import Derived.Test.YtknljimmilhfkaaA9
import Derived.Deep.RegionHeld3
import Derived.Laws.AppendOwnNone
import Derived.Lib.SliceRun
import Derived.Laws.IdiomStrings
import Derived.Deep.CutRange
import Derived.Shelf.Strings.Builder1
import Derived.Shelf.LaysM
import Derived.Shelf.Strconv.Itoa3
import Derived.Test.YtknljimmilhfkaaProg
import Derived.Test.YtknljimmilhfkaaA2

/- Exact values: a sign, a whole number, an exponent; one form for each. -/
namespace Go.Proofs.Ytknljimmilhfkaa
set_option linter.unusedVariables false
set_option linter.unusedSimpArgs false
open Go.RowKit

/-- the one form -/
def cn (s : Bool) (z : Nat) (e : Int) : Bool × Nat × Int := if z = 0 then (false, 0, 0) else (s, z / 2 ^ tz z, e + tz z)

/-- how far a number reaches: its lowest place, the place above its highest -/
def Fits (lo hi : Int) (x : Nat) (e : Int) : Prop := x = 0 ∨ (lo ≤ e ∧ e ≤ hi ∧ x < 2 ^ (hi - e).toNat)

theorem Fits.cn {lo hi : Int} {s : Bool} {z : Nat} {e : Int} (h : Fits lo hi z e) : Fits lo hi (cn s z e).2.1 (cn s z e).2.2 := by
  rcases h with rfl | ⟨h1, h2, h3⟩
  · left; simp [Ytknljimmilhfkaa.cn]
  · unfold Ytknljimmilhfkaa.cn
    by_cases h0 : z = 0
    · subst h0; left; simp
    · rw [if_neg h0]
      right
      have hs := (tz_spec z z (Nat.le_refl _) h0).1
      have ho := (tz_spec z z (Nat.le_refl _) h0).2
      have hq : 1 ≤ z / 2 ^ tz z := Nat.pos_of_ne_zero fun e0 => by rw [e0] at ho; simp at ho
      have ht : tz z < (hi - e).toNat := by
        refine Nat.lt_of_not_le fun h => ?_
        have h4 := Nat.pow_le_pow_right (n := 2) (by omega) h
        have h5 := Nat.mul_le_mul_left (2 ^ tz z) hq
        omega
      refine ⟨by show lo ≤ e + (tz z : Int); omega, by show e + (tz z : Int) ≤ hi; omega, ?_⟩
      show z / 2 ^ tz z < 2 ^ (hi - (e + (tz z : Int))).toNat
      refine (Nat.div_lt_iff_lt_mul (Nat.two_pow_pos _)).2 ?_
      rw [← Nat.pow_add, show (hi - (e + (tz z : Int))).toNat + tz z = (hi - e).toNat by omega]
      exact h3

theorem Fits.mono {lo hi lo' hi' : Int} {x : Nat} {e : Int} (h : Fits lo hi x e) (h1 : lo' ≤ lo) (h2 : hi ≤ hi') : Fits lo' hi' x e := by
  rcases h with h | ⟨h3, h4, h5⟩
  · exact .inl h
  · exact .inr ⟨by omega, by omega, Nat.lt_of_lt_of_le h5 (Nat.pow_le_pow_right (by omega) (by omega))⟩

theorem Fits.at {lo hi : Int} {x : Nat} {e m : Int} (h : Fits lo hi x e) (hm : m ≤ e) : x * 2 ^ (e - m).toNat < 2 ^ (hi - m).toNat := by
  rcases h with rfl | ⟨h3, h4, h5⟩
  · rw [Nat.zero_mul]; exact Nat.two_pow_pos _
  · rw [show (hi - m).toNat = (hi - e).toNat + (e - m).toNat by omega, Nat.pow_add]
    exact Nat.mul_lt_mul_of_pos_right h5 (Nat.two_pow_pos _)

theorem Fits.sum {lo hi : Int} {na nb : Bool} {x y : Nat} {ea eb : Int} (h1 : Fits lo hi x ea) (h2 : Fits lo hi y eb) :
    Fits lo (hi + 1) (sumN na x ea nb y eb).2.1 (sumN na x ea nb y eb).2.2 := by
  unfold sumN
  by_cases x0 : x = 0
  · rw [if_pos x0]; exact h2.mono (by omega) (by omega)
  · rw [if_neg x0]
    by_cases y0 : y = 0
    · rw [if_pos y0]; exact h1.mono (by omega) (by omega)
    · rw [if_neg y0]
      have a1 := h1.at (m := min ea eb) (by omega)
      have a2 := h2.at (m := min ea eb) (by omega)
      obtain ⟨p1, p2, -⟩ := h1.resolve_left x0
      obtain ⟨q1, q2, -⟩ := h2.resolve_left y0
      have hp : 2 ^ (hi + 1 - min ea eb).toNat = 2 ^ (hi - min ea eb).toNat * 2 := by
        rw [show (hi + 1 - min ea eb).toNat = (hi - min ea eb).toNat + 1 by omega, Nat.pow_succ]
      generalize x * 2 ^ (ea - min ea eb).toNat = X at *
      generalize y * 2 ^ (eb - min ea eb).toNat = Y at *
      have hall : ∀ Z, Z ≤ X + Y → Fits lo (hi + 1) Z (min ea eb) := fun Z hZ => .inr ⟨by omega, by omega, by omega⟩
      split
      · exact hall _ (Nat.le_refl _)
      · split
        · exact hall _ (by show Y - X ≤ X + Y; omega)
        · exact hall _ (by show X - Y ≤ X + Y; omega)

theorem Fits.mul {lo hi lo' hi' : Int} {x y : Nat} {ea eb : Int} (h1 : Fits lo hi x ea) (h2 : Fits lo' hi' y eb) : Fits (lo + lo') (hi + hi') (x * y) (ea + eb) := by
  rcases h1 with rfl | ⟨a1, a2, a3⟩
  · left; simp
  · rcases h2 with rfl | ⟨b1, b2, b3⟩
    · left; simp
    · right
      refine ⟨by omega, by omega, ?_⟩
      rw [show (hi + hi' - (ea + eb)).toNat = (hi - ea).toNat + (hi' - eb).toNat by omega, Nat.pow_add]
      exact Nat.mul_lt_mul_of_lt_of_le a3 (Nat.le_of_lt b3) (Nat.two_pow_pos _)

theorem Fits.dlen {lo hi : Int} {x : Nat} {e : Int} (h : Fits lo hi x e) (hb : hi - lo ≤ 65536) : dlen x ≤ 2048 := by
  rcases h with rfl | ⟨h1, h2, h3⟩
  · rw [dlen_zero]; omega
  · refine (dlen_le _ _).2 (Nat.lt_of_lt_of_le h3 ?_)
    have hB : ∀ n, B ^ n = 2 ^ (32 * n) := fun n => by
      have : (B : Nat) = 2 ^ 32 := by decide
      rw [this, ← Nat.pow_mul]
    have hn : (hi - e).toNat ≤ 32 * 2048 := by omega
    generalize 2048 = n at *
    rw [hB]
    exact Nat.pow_le_pow_right (by omega) hn

/-- what fits may be -/
theorem Fits.ok {lo hi : Int} {s : Bool} {z : Nat} {e : Int} (h : Fits lo hi z e) (hb : hi - lo ≤ 65536) (h1 : -65536 ≤ lo) (h2 : hi ≤ 65536) : okR s z e = true := by
  unfold okR
  by_cases h0 : z = 0
  · rw [if_pos h0]
  · rw [if_neg h0]
    have hc := h.cn (s := s)
    have hd := hc.dlen hb
    unfold Ytknljimmilhfkaa.cn at hc hd
    rw [if_neg h0] at hc hd
    have ho := (tz_spec z z (Nat.le_refl _) h0).2
    simp only at hc hd
    generalize z / 2 ^ tz z = x at *
    have hx0 : x ≠ 0 := by omega
    obtain ⟨c1, c2, c3⟩ := hc.resolve_left hx0
    unfold okN
    rw [if_neg (fun e => hx0 (dlen_eq_zero.1 e))]
    have e0 : dg x 0 % 2 = 1 := by
      unfold dg
      rw [Nat.pow_zero, Nat.div_one]
      unfold B
      omega
    have e1 := dg_top hx0
    simp only [Bool.and_eq_true, decide_eq_true_eq, bne_iff_ne, ne_eq, beq_iff_eq]
    exact ⟨⟨⟨⟨hd, e1⟩, e0⟩, by omega⟩, by omega⟩
end Go.Proofs.Ytknljimmilhfkaa
/- slices.Clone, negated. -/
namespace Go.Proofs.Ytknljimmilhfkaa
set_option linter.unusedVariables false
set_option linter.unusedSimpArgs false
open Go.RowKit

end Go.Proofs.Ytknljimmilhfkaa
/- negated, of a number below nought. -/
namespace Go.Proofs.Ytknljimmilhfkaa
set_option linter.unusedVariables false
set_option linter.unusedSimpArgs false
open Go.RowKit

end Go.Proofs.Ytknljimmilhfkaa
/- negated. -/
namespace Go.Proofs.Ytknljimmilhfkaa
set_option linter.unusedVariables false
set_option linter.unusedSimpArgs false
open Go.RowKit

end Go.Proofs.Ytknljimmilhfkaa
/- Up, refused. -/
namespace Go.Proofs.Ytknljimmilhfkaa
set_option linter.unusedVariables false
set_option linter.unusedSimpArgs false
open Go.RowKit

end Go.Proofs.Ytknljimmilhfkaa
/- math.Abs, math.IsInf. -/
namespace Go.Proofs.Ytknljimmilhfkaa
set_option linter.unusedVariables false
set_option linter.unusedSimpArgs false
open Go.RowKit Go.Fl64

/-- the digits' signs in base 16, as the library writes them -/
def hx (d : Nat) : Nat := if d < 10 then 48 + d else 87 + d

end Go.Proofs.Ytknljimmilhfkaa
/- formatBits at base 16. -/
namespace Go.Proofs.Ytknljimmilhfkaa
set_option linter.unusedVariables false
set_option linter.unusedSimpArgs false
open Go.RowKit Go.Fl64

end Go.Proofs.Ytknljimmilhfkaa
/- Up. -/
namespace Go.Proofs.Ytknljimmilhfkaa
set_option linter.unusedVariables false
set_option linter.unusedSimpArgs false
open Go.RowKit Go.Fl64

theorem Nrm.later {w w' : World} {base : Nat} {a : Value} {neg : Bool} {x : Nat} {e : Int} (h : Nrm w base a neg x e) (hb : Below w.heap.size w w') : Nrm w' base a neg x e := by
  rcases h with h | ⟨h0, v, h1, ho⟩
  · exact .inl h
  · exact .inr ⟨h0, v, h1, ho.later hb⟩

theorem same_self (a : Nat) : same a a = true := by simp [same]
end Go.Proofs.Ytknljimmilhfkaa
/- Sub. -/
namespace Go.Proofs.Ytknljimmilhfkaa
set_option linter.unusedVariables false
set_option linter.unusedSimpArgs false
open Go.RowKit

end Go.Proofs.Ytknljimmilhfkaa
/- Several numbers given at once: x, y := give(a), give(b). -/
namespace Go.Proofs.Ytknljimmilhfkaa
set_option linter.unusedVariables false
set_option linter.unusedSimpArgs false
open Go.RowKit

/-- a frame with values put into slots, one behind the other -/
def putL (a : Act) (l : List (Tmp × Value)) : Act := l.foldl (fun a p => a.put (some p.1) p.2) a

theorem putL_defers (l : List (Tmp × Value)) : ∀ a : Act, (putL a l).defers = a.defers := by
  induction l with
  | nil => intro a; rfl
  | cons p r ih => intro a; show (putL (a.put (some p.1) p.2) r).defers = _; rw [ih, put_defers]
theorem putL_other {s : Tmp} (l : List (Tmp × Value)) : ∀ a : Act, s ∉ l.map (·.1) → (putL a l).tmps[s]? = a.tmps[s]? := by
  induction l with
  | nil => intro a _; rfl
  | cons p r ih =>
    intro a h
    simp only [List.map_cons, List.mem_cons, not_or] at h
    show (putL (a.put (some p.1) p.2) r).tmps[s]? = _
    rw [ih _ h.2, put_get_ne h.1]
theorem putL_mem {s : Tmp} {v : Value} (l : List (Tmp × Value)) : ∀ a : Act, (s, v) ∈ l → (l.map (·.1)).Nodup → s < a.tmps.size → (putL a l).tmps[s]? = some v := by
  induction l with
  | nil => intro a h; cases h
  | cons p r ih =>
    intro a h hn hs
    simp only [List.map_cons, List.nodup_cons] at hn
    show (putL (a.put (some p.1) p.2) r).tmps[s]? = _
    rcases List.mem_cons.1 h with h | h
    · subst h
      rw [putL_other _ _ hn.1, put_get hs]
    · exact ih _ h hn.2 (by rw [put_size]; exact hs)
theorem act_putL {a a0 : Act} {l : List (Tmp × Value)} (hn : (l.map (·.1)).Nodup) (hs : a.tmps.size = a0.tmps.size) (hd : a.defers = a0.defers) (hl : ∀ p ∈ l, a.tmps[p.1]? = some p.2) (ho : ∀ s, s ∉ l.map (·.1) → a.tmps[s]? = a0.tmps[s]?) : a = putL a0 l := by
  have ht : a.tmps = (putL a0 l).tmps := by
    refine Array.ext_getElem? fun s => ?_
    by_cases h : s ∈ l.map (·.1)
    · obtain ⟨p, hp, rfl⟩ := List.mem_map.1 h
      have h1 := hl p hp
      rw [h1, putL_mem l a0 hp hn (by rw [← hs]; exact (Array.getElem?_eq_some_iff.1 h1).1)]
    · rw [putL_other l a0 h]; exact ho s h
  have hd' : a.defers = (putL a0 l).defers := by rw [putL_defers]; exact hd
  cases a with
  | mk t d =>
    cases hp : putL a0 l with
    | mk t' d' =>
      rw [hp] at ht hd'
      simp only at ht hd'
      rw [ht, hd']

theorem follows_mixed : Try.prog.follows .mixedOrders = true := by kernel_rfl
end Go.Proofs.Ytknljimmilhfkaa
/- The library's contracts at this program that are used: the builder's text, a whole number's decimal digits. -/
namespace Go.Proofs
open Go.Shelf
end Go.Proofs
/- The builder of texts: its methods that write. -/
namespace Go.Proofs.Ytknljimmilhfkaa
set_option linter.unusedVariables false
set_option linter.unusedSimpArgs false
open Go.RowKit

end Go.Proofs.Ytknljimmilhfkaa
/- Show, of a number of one digit. -/
namespace Go.Proofs.Ytknljimmilhfkaa
set_option linter.unusedVariables false
set_option linter.unusedSimpArgs false
open Go.RowKit

end Go.Proofs.Ytknljimmilhfkaa
/- The numbers that the law's own small test makes. -/
namespace Go.Proofs.Ytknljimmilhfkaa
set_option linter.unusedVariables false
set_option linter.unusedSimpArgs false
open Go.RowKit Go.Fl64

/-- a number that was made: its value, its digits readable -/
theorem Nrm.kn {w : World} {base : Nat} {a : Value} {s : Bool} {z x t : Nat} {e e' : Int} (h : Nrm w base a s z e) (h0 : z ≠ 0) (ht : tz z = t) (hx : z / 2 ^ t = x) (he : e + (t : Int) = e') :
    ∃ ao cap, a = .agg #[.bool s, .slice ao (dlen x) cap, .int .i64 e'] ∧ Is w (.slice ao (dlen x) cap) x := by
  subst ht hx he
  rcases h with ⟨h1, -⟩ | ⟨-, v, rfl, ho⟩
  · exact absurd h1 h0
  · obtain ⟨ao, cap, rfl, h1, h2, h3⟩ := ho.is
    exact ⟨ao, cap, rfl, ao, cap, rfl, h1, h2, h3⟩
theorem Nrm.odd {w : World} {base : Nat} {a : Value} {s : Bool} {z : Nat} {e : Int} (h : Nrm w base a s z e) (ho : z % 2 = 1) :
    ∃ ao cap, a = .agg #[.bool s, .slice ao (dlen z) cap, .int .i64 e] ∧ Is w (.slice ao (dlen z) cap) z :=
  h.kn (t := 0) (by intro e; subst e; simp at ho) (tz_odd ho) (by simp) (by simp)
theorem Nrm.nil {w : World} {base : Nat} {a : Value} {s : Bool} {e : Int} (h : Nrm w base a s 0 e) : a = .agg #[.bool false, .slice none 0 0, .int .i64 0] := by
  rcases h with ⟨-, h⟩ | ⟨h, -⟩
  · exact h
  · exact absurd rfl h
end Go.Proofs.Ytknljimmilhfkaa
/- Numbers in memory by their one form, and what Add, Sub, Mul make of them. -/
namespace Go.Proofs.Ytknljimmilhfkaa
set_option linter.unusedVariables false
set_option linter.unusedSimpArgs false
open Go.RowKit

/-- A is, in memory, the number t: sign, digits, exponent -/
def PN (w : World) (A : Value) (t : Bool × Nat × Int) : Prop := ∃ ao cap, A = .agg #[.bool t.1, .slice ao (dlen t.2.1) cap, .int .i64 t.2.2] ∧ Is w (.slice ao (dlen t.2.1) cap) t.2.1
/-- t may be -/
def Ok (t : Bool × Nat × Int) : Prop := okN t.1 (dlen t.2.1) t.2.1 t.2.2 = true

theorem PN.later {w w' : World} {A : Value} {t : Bool × Nat × Int} (h : PN w A t) (hb : Below w.heap.size w w') : PN w' A t := by
  obtain ⟨ao, cap, h1, h2⟩ := h
  exact ⟨ao, cap, h1, h2.later hb⟩
theorem PN.shape {w : World} {A : Value} {t : Bool × Nat × Int} (h : PN w A t) : ∃ s ao n cap e, A = .agg #[.bool s, .slice ao n cap, .int .i64 e] := by
  obtain ⟨ao, cap, h1, -⟩ := h
  exact ⟨_, _, _, _, _, h1⟩
/-- what may be is its own form -/
theorem Ok.facts {t : Bool × Nat × Int} (h : Ok t) : dlen t.2.1 ≤ 2048 ∧ -65536 ≤ t.2.2 ∧ t.2.2 ≤ 65536 ∧ (t.2.1 = 0 → t = (false, 0, 0)) ∧ (t.2.1 ≠ 0 → t.2.1 % 2 = 1) := by
  obtain ⟨s, x, e⟩ := t
  unfold Ok okN at h
  simp only at h ⊢
  by_cases h0 : x = 0
  · subst h0
    rw [dlen_zero, if_pos rfl] at h
    simp at h
    obtain ⟨rfl, rfl⟩ := h
    rw [dlen_zero]
    exact ⟨by omega, by omega, by omega, fun _ => rfl, fun h => absurd rfl h⟩
  · rw [if_neg (fun e => h0 (dlen_eq_zero.1 e))] at h
    simp only [Bool.and_eq_true, decide_eq_true_eq, bne_iff_ne, ne_eq, beq_iff_eq] at h
    obtain ⟨⟨⟨⟨h1, h2⟩, h3⟩, h4⟩, h5⟩ := h
    refine ⟨h1, h4, h5, fun h => absurd h h0, fun _ => ?_⟩
    unfold dg at h3
    rw [Nat.pow_zero, Nat.div_one] at h3
    unfold B at h3
    omega
end Go.Proofs.Ytknljimmilhfkaa
/- The document's known, Minus, twin, Scaled, Times. -/
namespace Go.Proofs.Ytknljimmilhfkaa
set_option linter.unusedVariables false
set_option linter.unusedSimpArgs false
open Go.RowKit

set_option maxHeartbeats 4000000 in
set_option maxRecDepth 200000 in
theorem rminus_1 (na : Bool) (ua : Option Addr) (un uc : Nat) (ea : Int) (w : World) (hn : un ≤ 35184372088832) (hn0 : ((un : Int) == 0) = false) :
    Calls Try.prog 27 #[.agg #[.bool na, .slice ua un uc, .int .i64 ea]] w fun r w' => r = .returned (.agg #[.bool (!na), .slice ua un uc, .int .i64 ea]) ∧ Below w.heap.size w w' := by
  obtain ⟨W, hW⟩ : ∃ W, W = (w.alloc (.cells #[.bool na, .slice ua un uc, .int .i64 ea] 30)).alloc (.cells #[.bool false, .slice none 0 0, .int .i64 0] 30) := ⟨_, rfl⟩
  obtain ⟨hA, hB, hsz, hBW⟩ := two29 _ _ hW
  obtain ⟨⟨a0, a1, a2⟩, -⟩ := box_cells29 hA
  obtain ⟨⟨b0, b1, b2⟩, b3, b4, b5⟩ := box_cells29 hB
  have HX : Hid (Below w.heap.size w W ∧ W.heap[w.heap.size + 1]? = some (.cells #[.bool false, .slice none 0 0, .int .i64 0] 30 (0, 0))) := ⟨hBW, hB⟩
  clear hA hB hsz hBW
  have HE : Hid (W = (w.alloc (.cells #[.bool na, .slice ua un uc, .int .i64 ea] 30)).alloc (.cells #[.bool false, .slice none 0 0, .int .i64 0] 30)) := hW
  rw [hW] at a0 a1 a2 b0 b1 b2 b3 b4 b5
  clear hW
  go_enter Try.func27, Try.ntmps27
  go_wp2
  refine bodyPost_ret (results_cell_row rfl _ _ (w.heap.size + 1) 30 #[.bool (!na), .slice ua un uc, .int .i64 ea] (0, 0) _ rfl (two29 _ _ rfl).2.1 Try.underlying30 rfl Try.info30) rfl ?_
  exact ⟨rfl, (two29 _ _ rfl).2.2.2⟩
set_option maxHeartbeats 4000000 in
set_option maxRecDepth 200000 in
theorem rminus_0 (na : Bool) (ua : Option Addr) (uc : Nat) (ea : Int) (w : World) :
    Calls Try.prog 27 #[.agg #[.bool na, .slice ua 0 uc, .int .i64 ea]] w fun r w' => r = .returned (.agg #[.bool false, .slice none 0 0, .int .i64 0]) ∧ Below w.heap.size w w' := by
  obtain ⟨W, hW⟩ : ∃ W, W = (w.alloc (.cells #[.bool na, .slice ua 0 uc, .int .i64 ea] 30)).alloc (.cells #[.bool false, .slice none 0 0, .int .i64 0] 30) := ⟨_, rfl⟩
  obtain ⟨hA, hB, hsz, hBW⟩ := two29 _ _ hW
  obtain ⟨⟨a0, a1, a2⟩, -⟩ := box_cells29 hA
  obtain ⟨⟨b0, b1, b2⟩, b3, b4, b5⟩ := box_cells29 hB
  have HX : Hid (Below w.heap.size w W ∧ W.heap[w.heap.size + 1]? = some (.cells #[.bool false, .slice none 0 0, .int .i64 0] 30 (0, 0))) := ⟨hBW, hB⟩
  clear hA hB hsz hBW
  have HE : Hid (W = (w.alloc (.cells #[.bool na, .slice ua 0 uc, .int .i64 ea] 30)).alloc (.cells #[.bool false, .slice none 0 0, .int .i64 0] 30)) := hW
  rw [hW] at a0 a1 a2 b0 b1 b2 b3 b4 b5
  clear hW
  go_enter Try.func27, Try.ntmps27
  go_wp2
  refine bodyPost_ret (results_cell_row rfl _ _ (w.heap.size + 1) 30 #[.bool false, .slice none 0 0, .int .i64 0] (0, 0) _ rfl (two29 _ _ rfl).2.1 Try.underlying30 rfl Try.info30) rfl ?_
  exact ⟨rfl, (two29 _ _ rfl).2.2.2⟩
end Go.Proofs.Ytknljimmilhfkaa
/- The document's Times, kept, Mul. -/
namespace Go.Proofs.Ytknljimmilhfkaa
set_option linter.unusedVariables false
set_option linter.unusedSimpArgs false
open Go.RowKit

end Go.Proofs.Ytknljimmilhfkaa
/- The document's twin. -/
namespace Go.Proofs.Ytknljimmilhfkaa
set_option linter.unusedVariables false
set_option linter.unusedSimpArgs false
open Go.RowKit

theorem dn_of_row {w : World} {base n z : Nat} {v : Value} (h : w.ownsRow base 44 1 v n (cells z n)) (hn0 : 0 < n) : Dn w base v n z := by
  obtain ⟨g2, cap2, cur2, rfl, hg2, hc2, hc3, hc4, hc5, hc6⟩ := (h.2.resolve_left fun h => by omega)
  refine .inr ⟨g2, cap2, cur2, rfl, hg2, ⟨hc3, by unfold maxLen at hc4; omega⟩, hc2, by omega, fun i hi => ?_⟩
  have h7 : (cells z n)[i]? = cur2[i]? := by
    rw [← hc6, Nat.mul_one, List.getElem?_take, if_pos hi, Array.getElem?_toList]
  rw [← h7, cells_get hi]

set_option maxRecDepth 200000 in
/-- append(nil, m...): a copy -/
theorem wpList_append_copy {w : World} {ops : Array Oper} {rest : List Oper} {o : Oper} {a : Act} {Q : Exit → Act → World → Prop} (hgd : o.guard = none) (s x : Operand)
    (ho : o.op = .call { callee := .builtin .append, args := #[s, x], argTypes := #[28, 28] }) (hs : a.eval s = .slice none 0 0) {ao : Option Addr} {n cap z : Nat} (hx : a.eval x = .slice ao n cap) (hA : Arg w ao n cap z)
    (h : ∀ ao' cap' w', Dn w' w.heap.size (.slice ao' n cap') n z → Below w.heap.size w w' → wpList Try.prog ops Q rest (a.put o.dst (.slice ao' n cap')) w') : wpList Try.prog ops Q (o :: rest) a w := by
  obtain ⟨i0, hi0, hz0, hz1, hz2⟩ := info_parts Try.info44
  by_cases h0 : n = 0
  · subst h0
    rcases hA.nil rfl with ⟨ad, rfl⟩ | ⟨rfl, rfl⟩
    · refine wpList_append_own _ hgd s x 28 ho w.heap.size 44 i0 (.int .u32 0) 1 4 Try.underlying28 hi0 hz0 hz1 hz2 rfl (by decide) (.slice none 0 0) 0 [] hs (World.ownsRow_nil w _ _ _) ad 0 cap [] hx (by simp) (by intro j u hj; simp at hj) (by intro u hu; simp at hu) (by unfold maxLen; omega) (by omega) (Nat.le_refl _) ?_
      intro v' w' _ r2 r3
      obtain rfl : v' = .slice none 0 0 := r3.2 ⟨rfl, rfl⟩
      exact h none 0 w' (.inl ⟨rfl, rfl⟩) (Below.grown (Below.refl _ _) r2 (Nat.le_refl _) (fun k hk => by simp [Value.ownBlock] at hk))
    · exact wpList_append_own_none hgd s x 28 ho w.heap.size 44 i0 1 Try.underlying28 hi0 (.slice none 0 0) 0 [] hs (World.ownsRow_nil w _ _ _) hx (h none 0 w (.inl ⟨rfl, rfl⟩) (Below.refl _ _))
  · obtain ⟨b, o', h1, h2⟩ := hA.at_
    obtain rfl := h1 (by omega)
    have hsm := hA.small
    refine wpList_append_own _ hgd s x 28 ho w.heap.size 44 i0 (.int .u32 0) 1 4 Try.underlying28 hi0 hz0 hz1 hz2 rfl (by decide) (.slice none 0 0) 0 [] hs (World.ownsRow_nil w _ _ _) ⟨b, o', none⟩ n cap (cells z n) hx (by rw [cells_length, Nat.mul_one]) (fun j u hj => by
      have hjl : j < n := by
        have := (List.getElem?_eq_some_iff.1 hj).1
        rwa [cells_length] at this
      rw [cells_get hjl] at hj
      rw [show (⟨b, o', none⟩ : Addr).add j = ⟨b, o' + j, none⟩ by simp [Addr.add], ← hj]
      exact h2 j hjl) (by intro u hu; simp [cells] at hu; obtain ⟨j, -, rfl⟩ := hu; rfl) (by unfold maxLen; omega) (by omega) (Nat.le_refl _) ?_
    intro v' w' r1 r2 _
    rw [Nat.zero_add, List.nil_append] at r1
    have hd := dn_of_row r1 (by omega)
    have hb : Below w.heap.size w w' := Below.grown (Below.refl _ _) r2 (Nat.le_refl _) (fun k hk => by simp [Value.ownBlock] at hk)
    rcases hd with ⟨-, h⟩ | ⟨g, cap', c, rfl, h3⟩
    · omega
    · exact h _ _ w' (.inr ⟨g, cap', c, rfl, h3⟩) hb

theorem Dn.store {w : World} {base n z : Nat} {v : Value} (h : Dn w base v n z) {g : Nat} (hg : g < base) (i : Nat) (u : Value) : Dn (w.setCell ⟨g, i, none⟩ u) base v n z := by
  rcases h with h | ⟨g2, cap2, c, rfl, h1, h2, h3, h4⟩
  · exact .inl h
  · exact .inr ⟨g2, cap2, c, rfl, h1, h2, by rw [setCell_block _ _ (by omega)]; exact h3, h4⟩

set_option maxHeartbeats 4000000 in
set_option maxRecDepth 200000 in
theorem rtwin {ng : Bool} {ao : Option Addr} {n cap z : Nat} {e : Int} {w : World} (h : Arg w ao n cap z) :
    Calls Try.prog 40 #[.agg #[.bool ng, .slice ao n cap, .int .i64 e]] w fun r w' => ∃ ao' cap', r = .returned (.agg #[.bool ng, .slice ao' n cap', .int .i64 e]) ∧ Dn w' w.heap.size (.slice ao' n cap') n z ∧ Below w.heap.size w w' := by
  obtain ⟨W, hW⟩ : ∃ W, W = (w.alloc (.cells #[.bool ng, .slice ao n cap, .int .i64 e] 30)).alloc (.cells #[.bool false, .slice none 0 0, .int .i64 0] 30) := ⟨_, rfl⟩
  obtain ⟨hA, hB, hsz, hBW⟩ := two29 _ _ hW
  obtain ⟨⟨a0, a1, a2⟩, -⟩ := box_cells29 hA
  have HX : Hid (Below w.heap.size w W ∧ W.heap.size = w.heap.size + 1 + 1 ∧ W.heap[w.heap.size]? = some (.cells #[.bool ng, .slice ao n cap, .int .i64 e] 30 (0, 0)) ∧ W.heap[w.heap.size + 1]? = some (.cells #[.bool false, .slice none 0 0, .int .i64 0] 30 (0, 0))) := ⟨hBW, hsz, hA, hB⟩
  have hAr := h.later hBW
  rw [hW] at a0 a1 a2
  have HW : Hid (W = (w.alloc (.cells #[.bool ng, .slice ao n cap, .int .i64 e] 30)).alloc (.cells #[.bool false, .slice none 0 0, .int .i64 0] 30)) := hW
  clear hA hB hsz hBW h hW
  go_enter Try.func40, Try.ntmps40
  go_wp2_with (at_builtin; rw [← HW.out]; refine wpList_append_copy rfl _ _ rfl rfl rfl hAr ?_)
  intro ao2 cap2 w2 hd hb
  have hb1 := box_later HX.out.2.2.1 hb (by have := HX.out.2.1; omega)
  have hb2 := box_later HX.out.2.2.2 hb (by have := HX.out.2.1; omega)
  obtain ⟨⟨x1, x2, x3⟩, x4, x5, x6⟩ := box_cells29 hb1
  obtain ⟨⟨y1, y2, y3⟩, y4, y5, y6⟩ := box_cells29 hb2
  have HR : Hid (Dn w2 W.heap.size (.slice ao2 n cap2) n z ∧ Below W.heap.size W w2 ∧ w2.heap[w.heap.size + 1]? = some (.cells #[.bool false, .slice none 0 0, .int .i64 0] 30 (0, 0))) := ⟨hd, hb, hb2⟩
  clear hd hb hb1 hb2 a0 a1 a2 hAr
  go_wp2
  have HQ : (w2.setCell ⟨w.heap.size, 1, none⟩ (.slice ao2 n cap2)).heap[w.heap.size + 1]? = some (.cells #[.bool false, .slice none 0 0, .int .i64 0] 30 (0, 0)) := by
    rw [setCell_block _ _ (by omega)]; exact HR.out.2.2
  refine bodyPost_ret (results_cell_row rfl _ _ (w.heap.size + 1) 30 #[.bool ng, .slice ao2 n cap2, .int .i64 e] (0, 0) _ rfl (store3_29 _ _ _ HQ) Try.underlying30 rfl Try.info30) rfl ?_
  obtain ⟨q1, q2, -, -⟩ := HX.out
  obtain ⟨r1, r2, -⟩ := HR.out
  exact ⟨_, _, rfl, ((((r1.store (by omega) _ _).store (by omega) _ _).store (by omega) _ _).store (by omega) _ _).mono (by omega), below_store3 ((q1.trans (r2.mono q1.size)).setCell (Nat.le_refl _) _) (by omega) _ _ _⟩

/-- a number of the document, of the value t -/
def RN (w : World) (base : Nat) (A : Value) (t : Bool × Nat × Int) : Prop := ∃ ao cap, A = .agg #[.bool t.1, .slice ao (dlen t.2.1) cap, .int .i64 t.2.2] ∧ (∀ ad : Addr, ao = some ad → 0 < dlen t.2.1 → base ≤ ad.block) ∧ At w ao (dlen t.2.1) t.2.1
theorem RN.later {w w' : World} {base : Nat} {A : Value} {t : Bool × Nat × Int} (h : RN w base A t) (hb : Below w.heap.size w w') : RN w' base A t := by
  obtain ⟨ao, cap, h1, h2, h3⟩ := h
  exact ⟨ao, cap, h1, h2, h3.later hb⟩
theorem RN.mono {w : World} {base base' : Nat} {A : Value} {t : Bool × Nat × Int} (h : RN w base A t) (hb : base' ≤ base) : RN w base' A t := by
  obtain ⟨ao, cap, h1, h2, h3⟩ := h
  exact ⟨ao, cap, h1, fun ad e hl => Nat.le_trans hb (h2 ad e hl), h3⟩
theorem Dn.at_ {w : World} {base n z cap : Nat} {ao : Option Addr} (h : Dn w base (.slice ao n cap) n z) : At w ao n z := by
  rcases h with ⟨h1, rfl⟩ | ⟨g, cap', c, h1, h2, h3, h4, h5, h6⟩
  · exact ⟨0, 0, fun h => by omega, fun i hi => by omega⟩
  · simp only [Value.slice.injEq] at h1
    obtain ⟨rfl, -, rfl⟩ := h1
    exact ⟨g, 0, fun _ => rfl, fun i hi => by simp [World.cell?, h4, h6 i hi]⟩
end Go.Proofs.Ytknljimmilhfkaa
/- The document's norm: its answer has room for its digits. -/
namespace Go.Proofs.Ytknljimmilhfkaa
set_option linter.unusedVariables false
set_option linter.unusedSimpArgs false
open Go.RowKit

set_option maxHeartbeats 2000000 in
set_option maxRecDepth 200000 in
theorem r34c_1 (neg : Bool) (ao : Option Addr) (n cap x : Nat) (e : Int) (w : World) (h : At w ao n x) (hxn : dlen x ≤ n) (hn : n ≤ cap) (hc : n ≤ 1000000000) (hx0 : x ≠ 0) (he : -4611686018427387904 ≤ e ∧ e ≤ 4611686018427387904) :
    Calls Try.prog 17 #[.bool neg, .slice ao n cap, .int .i64 e] w fun r w' => ∃ g cap', r = .returned (.agg #[.bool neg, .slice (some ⟨g, 0, none⟩) (dlen (x / 2 ^ tz x)) cap', .int .i64 (e + tz x)]) ∧ w.heap.size ≤ g ∧ dlen (x / 2 ^ tz x) ≤ cap' ∧ At w' (some ⟨g, 0, none⟩) (dlen (x / 2 ^ tz x)) (x / 2 ^ tz x) ∧ Below w.heap.size w w' := by
  obtain ⟨w0, hw0⟩ : ∃ w0, w0 = w.alloc (.cells #[.bool false, .slice none 0 0, .int .i64 0] 30) := ⟨_, rfl⟩
  have hB0 : Below w.heap.size w w0 := by rw [hw0]; exact (Below.refl _ _).alloc (Nat.le_refl _) _
  have h0 := h.later hB0
  have k40 := r40 ao n cap x w0 hxn hn (by omega) h0
  have htz : tz x / 32 < dlen x := by
    have h1 := (tz_spec _ x (Nat.le_refl _) hx0)
    have h2 : 2 ^ tz x ≤ x := by
      have h3 : 1 ≤ x / 2 ^ tz x := Nat.pos_of_ne_zero fun e0 => by have := h1.2; rw [e0] at this; simp at this
      have := Nat.mul_le_mul_left (2 ^ tz x) h3
      omega
    have h4 := lt_bl x
    have h5 : tz x < bl x := Nat.lt_of_not_le fun h6 => by
      have := Nat.pow_le_pow_right (n := 2) (by omega) h6
      omega
    have hd0 : dlen x ≠ 0 := fun e => hx0 (dlen_eq_zero.1 e)
    have := bl_top hx0
    have := bl_le32 (dg_lt x (dlen x - 1))
    omega
  have hs := at_short h0 hxn
  have k64 := r64 rfl (by omega : dlen x ≤ cap) hs (tz x) (by omega) htz (by omega)
  have hl0 : 0 < dlen x := by omega
  have hn0 : ((dlen x : Int) == 0) = false := by simp; omega
  have HS : Hid (At w0 ao (dlen x) x) := hs
  have HH : Hid (w0.heap[w.heap.size]? = some (.cells #[.bool false, .slice none 0 0, .int .i64 0] 30 (0, 0))) := (by rw [hw0]; exact heap_alloc_new _ _ : w0.heap[w.heap.size]? = some (.cells #[.bool false, .slice none 0 0, .int .i64 0] 30 (0, 0)))
  have HB0 : Hid (Below w.heap.size w w0) := hB0
  have HX : Hid (w0.heap.size = w.heap.size + 1) := (by rw [hw0]; simp : w0.heap.size = w.heap.size + 1)
  have HT : Hid (tz x / 32 < dlen x ∧ x ≠ 0) := ⟨htz, hx0⟩
  obtain ⟨he1, he2⟩ := he
  have hlb : dlen x ≤ 1000000000 := by omega
  clear h h0 hB0 hs hxn hn hx0
  generalize hL : dlen x = L at *
  generalize htzx : tz x = T at *
  have HTZ : Hid (tz x = T ∧ dlen x = L) := ⟨htzx, hL⟩
  clear htzx hL
  have hTb : T ≤ 40000000000 := by omega
  go_enter Try.func17, Try.ntmps17
  go_wp2_with fail
  rw [← hw0]
  clear hw0
  refine k40.mono ?_
  rintro r w1 ⟨rfl, rfl⟩
  clear k40
  go_wp2_with fail
  go_loop [7] (fun v => ∃ t : Nat, t ≤ T ∧ v = .int .i64 (t : Int)) (fun v => T - (intOf v).toNat)
  case atStart => exact ⟨0, Nat.zero_le _, rfl⟩
  case round =>
    obtain ⟨t, ht, rfl⟩ := hrel
    obtain ⟨b, o, hb, hcell⟩ := HS.out
    obtain rfl := hb (by omega)
    have hq : (t : Int).tdiv 32 = ((t / 32 : Nat) : Int) := by rw [Int.tdiv_eq_ediv_of_nonneg (by omega)]; rfl
    have hr : (t : Int).tmod 32 = ((t % 32 : Nat) : Int) := by rw [Int.tmod_eq_emod_of_nonneg (by omega)]; rfl
    have htl : t / 32 < L := by omega
    have g1 := hcell (t / 32) htl
    have hpb : t % 32 < 32 := by omega
    generalize hi : t / 32 = i at *
    generalize hp : t % 32 = p at *
    generalize hd : dg x i = d at *
    have HI : Hid (t / 32 = i ∧ t % 32 = p ∧ dg x i = d) := ⟨hi, hp, hd⟩
    have hbit := bit_tz HTZ.out.1 HT.out.2 ht HI.out
    clear hi hp hd hcell hb
    by_cases htt : t < T
    · rw [decide_eq_true htt] at hbit
      go_wp2_with fail
      exact ⟨⟨t + 1, by omega, by simp⟩, by simp [intOf]; omega⟩
    · rw [decide_eq_false htt] at hbit
      obtain rfl : t = T := by omega
      clear htt ht
      go_wp2_with fail
      refine k64.mono ?_
      rintro r w3 ⟨ao3, cap3, bb, rfl, hA3, hc3, hB3⟩
      clear k64 hq hr hbit g1
      have HH3 : Hid (w3.heap[w.heap.size]? = some (.cells #[.bool false, .slice none 0 0, .int .i64 0] 30 (0, 0))) := box_later HH.out hB3 (by have := HX.out; omega)
      obtain ⟨⟨a1, a2, a3⟩, a4, a5, a6⟩ := box_cells29 HH3.out
      have HA3 : Hid (At w3 ao3 (dlen (x / 2 ^ t)) (x / 2 ^ t) ∧ Below w1.heap.size w1 w3) := ⟨hA3, hB3⟩
      clear hA3 hB3
      have hyo : x / 2 ^ t % 2 = 1 := by rw [← HTZ.out.1]; exact (tz_spec _ x (Nat.le_refl _) HT.out.2).2
      have hy0 : 0 < dlen (x / 2 ^ t) := Nat.pos_of_ne_zero fun e => by rw [dlen_eq_zero.1 e] at hyo; simp at hyo
      have hyl : dlen (x / 2 ^ t) ≤ 1000000000 := by
        have h1 : dlen (x / 2 ^ t) ≤ dlen x := dlen_mono (Nat.div_le_self ..)
        rw [HTZ.out.2] at h1; omega
      obtain ⟨b3, o3, hb3, hc3'⟩ := HA3.out.1
      obtain rfl := hb3 hy0
      have HN : Hid (∀ j u, (cells (x / 2 ^ t) (dlen (x / 2 ^ t)))[j]? = some u → (w3.alloc (Obj.cells (madeCells #[Value.int IntKind.u32 0] 0) 44)).cell? ((⟨b3, o3, none⟩ : Addr).add j) = some u) := fun j u hj => by
        have hjl : j < dlen (x / 2 ^ t) := by
          have := (List.getElem?_eq_some_iff.1 hj).1
          rwa [cells_length] at this
        rw [cells_get hjl] at hj
        have hcl := hc3' j hjl
        rw [show (⟨b3, o3, none⟩ : Addr).add j = ⟨b3, o3 + j, none⟩ by simp [Addr.add]]
        rw [World.cell?_alloc_old _ _ _ (by have := World.block_lt_of_cell? _ _ hcl; show b3 ≠ w3.heap.size; simp at this; omega)]
        rw [← hj]; exact hcl
      have hOM : (w3.alloc (Obj.cells (madeCells #[Value.int IntKind.u32 0] 0) 44)).ownsRow w3.heap.size 44 1 (.slice (some ⟨w3.heap.size, 0, none⟩) 0 0) 0 [] := World.ownsRow_made w3 _ 0 (Nat.le_refl _) (by unfold maxLen; omega) (by simp [madeCells])
      have hmk := run_make_row' (P := Try.prog) 28 44 (.int .u32 0) 4 Try.underlying28 Try.info44 rfl .i64 .i64 0 (by omega) (by omega) w3
      rw [show ((0 : Nat) : Int) = 0 from rfl] at hmk
      clear hc3' hb3 hyo
      generalize hy : x / 2 ^ t = y at *
      have HY : Hid (x / 2 ^ t = y) := hy
      clear hy
      generalize hM : dlen y = M at *
      have HM : Hid (dlen y = M) := hM
      clear hM
      have hM0 : M ≠ 0 := by omega
      obtain ⟨i0, hi0, hz0, hz1, hz2⟩ := info_parts Try.info44
      go_wp2_with (at_builtin; refine wpList_append_own _ rfl _ _ 28 rfl w3.heap.size 44 i0 (.int .u32 0) 1 4 Try.underlying28 hi0 hz0 hz1 hz2 rfl (by decide) _ 0 [] rfl hOM ⟨b3, o3, none⟩ M cap3 (cells y M) rfl (by rw [cells_length, Nat.mul_one]) HN.out (by intro u hu; simp [cells] at hu; obtain ⟨j, -, rfl⟩ := hu; rfl) (by unfold maxLen; omega) (by omega) (by simp) ?_)
      intro v' w4 hown4 hgrow _
      have hsz := HX.out
      have hs3 := HA3.out.2.size
      have hh4 : w4.heap[w.heap.size]? = some (.cells #[.bool false, .slice none 0 0, .int .i64 0] 30 (0, 0)) := by
        rw [hgrow.block _ (by simp; omega) (fun e => by simp [Value.ownBlock] at e; omega), Lib.alloc_old w3 _ _ (by omega)]
        exact HH3.out
      obtain ⟨⟨a1, a2, a3⟩, a4, a5, a6⟩ := box_cells29 hh4
      have HR : Hid (w4.ownsRow w3.heap.size 44 1 v' M (cells y M) ∧ w4.heap[w.heap.size]? = some (.cells #[.bool false, .slice none 0 0, .int .i64 0] 30 (0, 0))) := ⟨hown4, hh4⟩
      have HG : Hid (Below w3.heap.size w3 w4) := Below.grown ((Below.refl w3.heap.size w3).alloc (Nat.le_refl _) _) hgrow (by simp) (fun k hk => by simp [Value.ownBlock] at hk; omega)
      obtain ⟨g4, cap4, cur4, rfl, hg4, -⟩ := (hown4.2.resolve_left fun h => hM0 h.2)
      clear hown4 hh4 hgrow HN hOM
      go_wp2
      refine bodyPost_ret (results_cell_row rfl _ _ w.heap.size 30 #[.bool neg, .slice (some ⟨g4, 0, none⟩) M cap4, .int .i64 (e + t)] (0, 0) _ rfl (store3_29 _ _ _ HR.out.2) Try.underlying30 rfl Try.info30) rfl ?_
      obtain ⟨ao5, cap5, hv5, hcc5, hA5⟩ := at_of_row HR.out.1
      simp only [Value.slice.injEq] at hv5
      obtain ⟨rfl, -, rfl⟩ := hv5
      obtain ⟨b5, o5, hb5, hc5⟩ := hA5
      have hb5' := hb5 (by omega)
      simp only [Option.some.injEq, Addr.mk.injEq] at hb5'
      obtain ⟨rfl, rfl, -⟩ := hb5'
      rw [HY.out, HM.out]
      refine ⟨_, _, rfl, by omega, hcc5, ⟨g4, 0, fun _ => rfl, fun j hj => ?_⟩, below_store3 (HB0.out.trans ((HA3.out.2.trans (HG.out.mono hs3)).mono (by omega))) (Nat.le_refl _) _ _ _⟩
      rw [World.cell?_setCell_other _ _ _ _ (by intro e; simp at e), World.cell?_setCell_other _ _ _ _ (by intro e; simp at e), World.cell?_setCell_other _ _ _ _ (by intro e; simp at e)]
      exact hc5 j hj

/-- a number of the document, that can be handed on -/
def NC (w' : World) (base : Nat) (a : Value) (neg : Bool) (x : Nat) (e : Int) : Prop := ∃ ao cap, a = .agg #[.bool (cn neg x e).1, .slice ao (dlen (cn neg x e).2.1) cap, .int .i64 (cn neg x e).2.2] ∧ Arg w' ao (dlen (cn neg x e).2.1) cap (cn neg x e).2.1 ∧ (∀ ad : Addr, ao = some ad → 0 < dlen (cn neg x e).2.1 → base ≤ ad.block)
theorem NC.later {w w' : World} {base : Nat} {a : Value} {neg : Bool} {x : Nat} {e : Int} (h : NC w base a neg x e) (hb : Below w.heap.size w w') : NC w' base a neg x e := by
  obtain ⟨ao, cap, h1, h2, h3⟩ := h
  exact ⟨ao, cap, h1, h2.later hb, h3⟩
theorem NC.mono {w : World} {base base' : Nat} {a : Value} {neg : Bool} {x : Nat} {e : Int} (h : NC w base a neg x e) (hb : base' ≤ base) : NC w base' a neg x e := by
  obtain ⟨ao, cap, h1, h2, h3⟩ := h
  exact ⟨ao, cap, h1, h2, fun ad e hl => Nat.le_trans hb (h3 ad e hl)⟩
theorem rnorm {neg : Bool} {v : Value} {x : Nat} {e : Int} {w : World} (h : Ir w v x) (hc : dlen x ≤ 1000000000) (he : -4611686018427387904 ≤ e ∧ e ≤ 4611686018427387904) :
    Calls Try.prog 17 #[.bool neg, v, .int .i64 e] w fun r w' => ∃ a, r = .returned a ∧ NC w' w.heap.size a neg x e ∧ Below w.heap.size w w' := by
  obtain ⟨ao, cap, rfl, h1, h2⟩ := h
  by_cases h0 : x = 0
  · subst h0
    refine (r34_0 neg ao _ cap e w h2 h1 (by omega)).mono ?_
    rintro r w' ⟨rfl, hb⟩
    refine ⟨_, rfl, ⟨none, 0, ?_, ?_, fun ad e => by cases e⟩, hb⟩
    · unfold cn; rw [if_pos rfl, dlen_zero]
    · unfold cn; rw [if_pos rfl]
      exact ⟨fun _ => .inr ⟨rfl, rfl⟩, ⟨0, 0, fun h => by rw [dlen_zero] at h; omega, fun i hi => by rw [dlen_zero] at hi; omega⟩, by rw [dlen_zero]; exact Nat.le_refl _, by rw [dlen_zero]; omega⟩
  · refine (r34c_1 neg ao _ cap x e w h2 (Nat.le_refl _) h1 hc h0 he).mono ?_
    rintro r w' ⟨g, cap', rfl, hg, hcc, ho, hb⟩
    have hle : dlen (x / 2 ^ tz x) ≤ dlen x := dlen_mono (Nat.div_le_self _ _)
    refine ⟨_, rfl, ⟨some ⟨g, 0, none⟩, cap', ?_, ?_, fun ad e _ => ?_⟩, hb⟩
    · unfold cn; rw [if_neg h0]
    · unfold cn; rw [if_neg h0]
      exact ⟨fun _ => .inl ⟨_, rfl⟩, ho, hcc, (by omega : dlen (x / 2 ^ tz x) ≤ 35184372088832)⟩
    · injection e with e; rw [← e]; exact hg
end Go.Proofs.Ytknljimmilhfkaa
/- The document's Shift. -/
namespace Go.Proofs.Ytknljimmilhfkaa
set_option linter.unusedVariables false
set_option linter.unusedSimpArgs false
open Go.RowKit

end Go.Proofs.Ytknljimmilhfkaa
/- The document's High, far. -/
namespace Go.Proofs.Ytknljimmilhfkaa
set_option linter.unusedVariables false
set_option linter.unusedSimpArgs false
open Go.RowKit

set_option maxHeartbeats 4000000 in
set_option maxRecDepth 200000 in
theorem rhigh_1 (neg : Bool) (ao : Option Addr) (n cap b : Nat) (e : Int) (w : World) (hn0 : ((n : Int) == 0) = false) (hb : b ≤ 64000000000) (he1 : -4000000 ≤ e) (he2 : e ≤ 4000000)
    (k74 : ∀ W, Below w.heap.size w W → Calls Try.prog 60 #[.slice ao n cap] W fun r w' => r = .returned (.int .i64 b) ∧ w' = W) :
    Calls Try.prog 37 #[.agg #[.bool neg, .slice ao n cap, .int .i64 e]] w fun r w' => r = .returned (.int .i64 (b + e)) ∧ Below w.heap.size w w' := by
  obtain ⟨W, hW⟩ : ∃ W, W = w.alloc (.cells #[.bool neg, .slice ao n cap, .int .i64 e] 30) := ⟨_, rfl⟩
  have hBW : Below w.heap.size w W := by rw [hW]; exact (Below.refl _ _).alloc (Nat.le_refl _) _
  have hbA : W.heap[w.heap.size]? = some (.cells #[.bool neg, .slice ao n cap, .int .i64 e] 30 (0, 0)) := by rw [hW]; exact heap_alloc_new _ _
  obtain ⟨⟨a0, a1, a2⟩, -⟩ := box_cells29 hbA
  have k := fun d => k74 (W.drewN d) (hBW.trans ⟨rfl, rfl, rfl, Nat.le_refl _, fun _ _ => rfl⟩)
  have HB : Hid (Below w.heap.size w W) := hBW
  clear k74 hBW hbA
  go_enter Try.func37, Try.ntmps37
  go_upto_region 3 with fail
  rw [← hW]
  clear hW
  go_quiet ((go_at_call 60; exact Calls.quiet_of_same (k _)))
  go_wp2
  go_ret
  refine ⟨congrArg Ending.returned (congrArg (Value.int IntKind.i64) ?_), HB.out.trans ⟨rfl, rfl, rfl, Nat.le_refl _, fun _ _ => rfl⟩⟩
  first | rfl | omega | (rw [IntKind.wrap_i64]; omega) | (unfold wrap64; omega)

theorem rhigh {neg : Bool} {ao : Option Addr} {cap x : Nat} {e : Int} {w : World} (h : At w ao (dlen x) x) (h0 : x ≠ 0) (hx : dlen x ≤ 1000000000) (he : -4000000 ≤ e ∧ e ≤ 4000000) :
    Calls Try.prog 37 #[.agg #[.bool neg, .slice ao (dlen x) cap, .int .i64 e]] w fun r w' => r = .returned (.int .i64 (bl x + e)) ∧ Below w.heap.size w w' := by
  have hl : 0 < dlen x := Nat.pos_of_ne_zero fun e => h0 (dlen_eq_zero.1 e)
  refine rhigh_1 neg ao (dlen x) cap (bl x) e w (len_ne (n := 0) h0) ?_ he.1 he.2 (fun W hW => ?_)
  · have := bl_le_dlen x
    omega
  · obtain ⟨b, o, h1, h2⟩ := h.later hW
    obtain rfl := h1 hl
    exact r42 b o (dlen x) cap x W hl hx rfl h2

end Go.Proofs.Ytknljimmilhfkaa
/- The document's Plus. -/
namespace Go.Proofs.Ytknljimmilhfkaa
set_option linter.unusedVariables false
set_option linter.unusedSimpArgs false
open Go.RowKit

end Go.Proofs.Ytknljimmilhfkaa
/- Add and Up, refused. -/
namespace Go.Proofs.Ytknljimmilhfkaa
set_option linter.unusedVariables false
set_option linter.unusedSimpArgs false
open Go.RowKit

end Go.Proofs.Ytknljimmilhfkaa
/- The document's Plus joined, Add. -/
namespace Go.Proofs.Ytknljimmilhfkaa
set_option linter.unusedVariables false
set_option linter.unusedSimpArgs false
open Go.RowKit

set_option maxHeartbeats 4000000 in
set_option maxRecDepth 200000 in
theorem rplus_a (na nb : Bool) (ua va : Option Addr) (uc vn vc : Nat) (ea eb : Int) (w : World) (z : Nat) (hAr : Arg w va vn vc z) :
    Calls Try.prog 26 #[.agg #[.bool na, .slice ua 0 uc, .int .i64 ea], .agg #[.bool nb, .slice va vn vc, .int .i64 eb]] w fun r w' => ∃ ao' cap', r = .returned (.agg #[.bool nb, .slice ao' vn cap', .int .i64 eb]) ∧ Dn w' w.heap.size (.slice ao' vn cap') vn z ∧ Below w.heap.size w w' := by
  obtain ⟨W, hW⟩ : ∃ W, W = ((w.alloc (.cells #[.bool na, .slice ua 0 uc, .int .i64 ea] 30)).alloc (.cells #[.bool nb, .slice va vn vc, .int .i64 eb] 30)).alloc (.cells #[.bool false, .slice none 0 0, .int .i64 0] 30) := ⟨_, rfl⟩
  obtain ⟨hA, hBb, hC, hsz, hBW⟩ := boxes3 _ _ _ hW
  have hn := hAr.small
  have k1 := rtwin (ng := nb) (e := eb) (hAr.later hBW)
  have HH : Hid (W.heap[w.heap.size + 1 + 1]? = some (.cells #[.bool false, .slice none 0 0, .int .i64 0] 30 (0, 0)) ∧ W.heap.size = w.heap.size + 1 + 1 + 1 ∧ Below w.heap.size w W) := ⟨hC, hsz, hBW⟩
  clear hA hBb hC hsz hBW hAr
  go_enter Try.func26, Try.ntmps26
  go_wp2_with fail
  rw [← hW]
  clear hW
  refine k1.mono ?_
  rintro r w4 ⟨ao4, cap4, rfl, hd, hB4⟩
  have HC4 : Hid (w4.heap[w.heap.size + 1 + 1]? = some (.cells #[.bool false, .slice none 0 0, .int .i64 0] 30 (0, 0))) := box_later HH.out.1 hB4 (by have := HH.out.2.1; omega)
  obtain ⟨⟨x1, x2, x3⟩, x4, x5, x6⟩ := box_cells29 HC4.out
  have HD4 : Hid (Dn w4 W.heap.size (.slice ao4 vn cap4) vn z ∧ Below W.heap.size W w4) := ⟨hd, hB4⟩
  clear hd hB4 k1
  go_wp2
  refine bodyPost_ret (results_cell_row rfl _ _ (w.heap.size + 1 + 1) 30 #[.bool nb, .slice ao4 vn cap4, .int .i64 eb] (0, 0) _ rfl (store3_29 _ _ _ HC4.out) Try.underlying30 rfl Try.info30) rfl ?_
  obtain ⟨-, hs, hBW⟩ := HH.out
  obtain ⟨hd, hb⟩ := HD4.out
  exact ⟨_, _, rfl, (((hd.store (by omega) _ _).store (by omega) _ _).store (by omega) _ _).mono (by omega), below_store3 (hBW.trans (hb.mono hBW.size)) (by omega) _ _ _⟩
set_option maxHeartbeats 4000000 in
set_option maxRecDepth 200000 in
theorem rplus_b (na nb : Bool) (ua va : Option Addr) (un uc vc : Nat) (ea eb : Int) (w : World) (z : Nat) (hAr : Arg w ua un uc z) (hn0 : ((un : Int) == 0) = false) :
    Calls Try.prog 26 #[.agg #[.bool na, .slice ua un uc, .int .i64 ea], .agg #[.bool nb, .slice va 0 vc, .int .i64 eb]] w fun r w' => ∃ ao' cap', r = .returned (.agg #[.bool na, .slice ao' un cap', .int .i64 ea]) ∧ Dn w' w.heap.size (.slice ao' un cap') un z ∧ Below w.heap.size w w' := by
  obtain ⟨W, hW⟩ : ∃ W, W = ((w.alloc (.cells #[.bool na, .slice ua un uc, .int .i64 ea] 30)).alloc (.cells #[.bool nb, .slice va 0 vc, .int .i64 eb] 30)).alloc (.cells #[.bool false, .slice none 0 0, .int .i64 0] 30) := ⟨_, rfl⟩
  obtain ⟨hA, hBb, hC, hsz, hBW⟩ := boxes3 _ _ _ hW
  have hn := hAr.small
  have k1 := rtwin (ng := na) (e := ea) (hAr.later hBW)
  have HH : Hid (W.heap[w.heap.size + 1 + 1]? = some (.cells #[.bool false, .slice none 0 0, .int .i64 0] 30 (0, 0)) ∧ W.heap.size = w.heap.size + 1 + 1 + 1 ∧ Below w.heap.size w W) := ⟨hC, hsz, hBW⟩
  clear hA hBb hC hsz hBW hAr
  go_enter Try.func26, Try.ntmps26
  go_wp2_with fail
  rw [← hW]
  clear hW
  refine k1.mono ?_
  rintro r w4 ⟨ao4, cap4, rfl, hd, hB4⟩
  have HC4 : Hid (w4.heap[w.heap.size + 1 + 1]? = some (.cells #[.bool false, .slice none 0 0, .int .i64 0] 30 (0, 0))) := box_later HH.out.1 hB4 (by have := HH.out.2.1; omega)
  obtain ⟨⟨x1, x2, x3⟩, x4, x5, x6⟩ := box_cells29 HC4.out
  have HD4 : Hid (Dn w4 W.heap.size (.slice ao4 un cap4) un z ∧ Below W.heap.size W w4) := ⟨hd, hB4⟩
  clear hd hB4 k1
  go_wp2
  refine bodyPost_ret (results_cell_row rfl _ _ (w.heap.size + 1 + 1) 30 #[.bool na, .slice ao4 un cap4, .int .i64 ea] (0, 0) _ rfl (store3_29 _ _ _ HC4.out) Try.underlying30 rfl Try.info30) rfl ?_
  obtain ⟨-, hs, hBW⟩ := HH.out
  obtain ⟨hd, hb⟩ := HD4.out
  exact ⟨_, _, rfl, (((hd.store (by omega) _ _).store (by omega) _ _).store (by omega) _ _).mono (by omega), below_store3 (hBW.trans (hb.mono hBW.size)) (by omega) _ _ _⟩

theorem RN.shape {w : World} {base : Nat} {A : Value} {t : Bool × Nat × Int} (h : RN w base A t) : ∃ s ao n cap e, A = .agg #[.bool s, .slice ao n cap, .int .i64 e] := by
  obtain ⟨ao, cap, h1, -⟩ := h
  exact ⟨_, _, _, _, _, h1⟩

end Go.Proofs.Ytknljimmilhfkaa
/- Plus of the document, of numbers of any length: its answer can be handed on. -/
namespace Go.Proofs.Ytknljimmilhfkaa
set_option linter.unusedVariables false
set_option linter.unusedSimpArgs false
open Go.RowKit

theorem NC.shape {w : World} {base : Nat} {a : Value} {s : Bool} {z : Nat} {e : Int} (h : NC w base a s z e) : ∃ s ao n cap ex, a = .agg #[.bool s, .slice ao n cap, .int .i64 ex] := by
  obtain ⟨ao, cap, h1, -⟩ := h
  exact ⟨_, _, _, _, _, h1⟩
theorem NC.store {w : World} {base g : Nat} {A : Value} {s : Bool} {z : Nat} {e : Int} (h : NC w base A s z e) (hg : g < base) (a b c : Value) : NC (((w.setCell ⟨g, 0, none⟩ a).setCell ⟨g, 1, none⟩ b).setCell ⟨g, 2, none⟩ c) base A s z e := by
  obtain ⟨ao, cap, h1, h2, h3⟩ := h
  refine ⟨ao, cap, h1, ⟨h2.nil, ?_, h2.le, h2.small⟩, h3⟩
  obtain ⟨bb, oo, hb, hc⟩ := h2.at_
  refine ⟨bb, oo, hb, fun i hi => ?_⟩
  have hbb : base ≤ bb := h3 _ (hb (by omega)) (by omega)
  rw [World.cell?_setCell_other _ _ _ _ (by intro e; simp at e <;> omega), World.cell?_setCell_other _ _ _ _ (by intro e; simp at e <;> omega), World.cell?_setCell_other _ _ _ _ (by intro e; simp at e <;> omega)]
  exact hc i hi
theorem Dn.nc {w : World} {base : Nat} {ao : Option Addr} {cap z : Nat} {s : Bool} {e : Int} (h : Dn w base (.slice ao (dlen z) cap) (dlen z) z) (hc : cn s z e = (s, z, e)) (hz : dlen z ≤ 35184372088832) : NC w base (.agg #[.bool s, .slice ao (dlen z) cap, .int .i64 e]) s z e := by
  refine ⟨ao, cap, by rw [hc], ?_, ?_⟩
  · rw [hc]
    rcases h with ⟨h1, h2⟩ | ⟨g, cap', c, h1, h2, h3, h4, h5, h6⟩
    · simp only [Value.slice.injEq] at h1
      obtain ⟨rfl, -, rfl⟩ := h1
      exact ⟨fun _ => .inr ⟨rfl, rfl⟩, ⟨0, 0, fun h => by simp only at h; omega, fun i hi => by simp only at hi; omega⟩, by simp only; omega, hz⟩
    · simp only [Value.slice.injEq] at h1
      obtain ⟨rfl, -, rfl⟩ := h1
      refine ⟨fun _ => .inl ⟨_, rfl⟩, ⟨g, 0, fun _ => rfl, fun i hi => ?_⟩, h3.1, hz⟩
      rw [Nat.zero_add]
      simp [World.cell?, h4, h6 i hi]
  · rw [hc]
    rcases h with ⟨h1, h2⟩ | ⟨g, cap', c, h1, h2, h3, h4, h5, h6⟩
    · intro ad e hl; simp only at hl; omega
    · simp only [Value.slice.injEq] at h1
      obtain ⟨rfl, -, rfl⟩ := h1
      intro ad e _
      injection e with e; rw [← e]; exact h2
set_option maxHeartbeats 4000000 in
set_option maxRecDepth 200000 in
theorem rplusN_c (na nb : Bool) (ua va : Option Addr) (un uc vn vc X Y : Nat) (ea eb : Int) (w : World) (hne : (na == nb) = true) (hX : dlen (X + Y) ≤ 1000000) (hX1 : dlen X ≤ 1000000) (hX2 : dlen Y ≤ 1000000) (he1 : -4000000 ≤ ea) (he2 : ea ≤ 4000000) (he3 : -4000000 ≤ eb) (he4 : eb ≤ 4000000) (hn0 : ((un : Int) == 0) = false) (hn1 : ((vn : Int) == 0) = false)
    (ku : ∀ W i, Below w.heap.size w W → i = ea - min ea eb → Calls Try.prog 39 #[.slice ua un uc, .int .i64 i] W fun r w' => ∃ v, r = .returned v ∧ Ir w' v X ∧ Below W.heap.size W w')
    (kv : ∀ W i, Below w.heap.size w W → i = eb - min ea eb → Calls Try.prog 39 #[.slice va vn vc, .int .i64 i] W fun r w' => ∃ v, r = .returned v ∧ Ir w' v Y ∧ Below W.heap.size W w') :
    Calls Try.prog 26 #[.agg #[.bool na, .slice ua un uc, .int .i64 ea], .agg #[.bool nb, .slice va vn vc, .int .i64 eb]] w fun r w' => ∃ a, r = .returned a ∧ NC w' w.heap.size a na (X + Y) (min ea eb) ∧ Below w.heap.size w w' := by
  obtain ⟨W, hW⟩ : ∃ W, W = ((w.alloc (.cells #[.bool na, .slice ua un uc, .int .i64 ea] 30)).alloc (.cells #[.bool nb, .slice va vn vc, .int .i64 eb] 30)).alloc (.cells #[.bool false, .slice none 0 0, .int .i64 0] 30) := ⟨_, rfl⟩
  obtain ⟨hA, hBb, hC, hsz, hBW⟩ := boxes3 _ _ _ hW
  have k1 := fun i hi => ku W i hBW hi
  have HKV : Hid (∀ W i, Below w.heap.size w W → i = eb - min ea eb → Calls Try.prog 39 #[.slice va vn vc, .int .i64 i] W fun r w' => ∃ v, r = .returned v ∧ Ir w' v Y ∧ Below W.heap.size W w') := kv
  have HH : Hid ((W.heap[w.heap.size]? = some (.cells #[.bool na, .slice ua un uc, .int .i64 ea] 30 (0, 0)) ∧ W.heap[w.heap.size + 1]? = some (.cells #[.bool nb, .slice va vn vc, .int .i64 eb] 30 (0, 0)) ∧ W.heap[w.heap.size + 1 + 1]? = some (.cells #[.bool false, .slice none 0 0, .int .i64 0] 30 (0, 0))) ∧ W.heap.size = w.heap.size + 1 + 1 + 1 ∧ Below w.heap.size w W) := ⟨⟨hA, hBb, hC⟩, hsz, hBW⟩
  clear hA hBb hC hsz hBW ku kv
  go_enter Try.func26, Try.ntmps26
  go_wp2_with fail
  rw [← hW]
  clear hW
  refine (k1 _ (by first | rfl | (rw [IntKind.wrap_i64]; omega) | omega)).mono ?_
  rintro r w4 ⟨p, rfl, hp, hB4⟩
  clear k1
  obtain ⟨⟨a0, a1, a2⟩, -⟩ := box_cells29 (box_later HH.out.1.1 hB4 (by have := HH.out.2.1; omega))
  obtain ⟨⟨b0, b1, b2⟩, -⟩ := box_cells29 (box_later HH.out.1.2.1 hB4 (by have := HH.out.2.1; omega))
  have HB4 : Hid (Below W.heap.size W w4) := hB4
  have HP4 : Hid (Ir w4 p X) := hp
  clear hB4 hp
  go_wp2_with fail
  refine (HKV.out w4 _ (HH.out.2.2.trans (HB4.out.mono HH.out.2.2.size)) (by first | rfl | (rw [IntKind.wrap_i64]; omega) | omega)).mono ?_
  rintro r w5 ⟨q, rfl, hq, hB5⟩
  have hB5' : Below W.heap.size W w5 := HB4.out.trans (hB5.mono HB4.out.size)
  have hp := HP4.out.later hB5
  clear a0 a1 a2 b0 b1 b2 hB5
  obtain ⟨⟨h1, h2, h3⟩, hs, hBW⟩ := HH.out
  obtain ⟨⟨a0, a1, a2⟩, -⟩ := box_cells29 (box_later h1 hB5' (by omega))
  obtain ⟨⟨b0, b1, b2⟩, -⟩ := box_cells29 (box_later h2 hB5' (by omega))
  have HC5 : Hid (w5.heap[w.heap.size + 1 + 1]? = some (.cells #[.bool false, .slice none 0 0, .int .i64 0] 30 (0, 0)) ∧ Below W.heap.size W w5) := ⟨box_later h3 hB5' (by omega), hB5'⟩
  have hp6 := hp
  have hq6 := hq
  have kS : ∀ W6, Below w5.heap.size w5 W6 → Calls Try.prog 41 #[p, q] W6 fun r w' => ∃ v, r = .returned v ∧ Ir w' v (X + Y) ∧ Below w5.heap.size w5 w' := fun W6 hb =>
    (rsum (w := W6) (hp6.later hb) (hq6.later hb) (by omega) (by omega)).mono fun r w' ⟨v, e1, o1, o2⟩ => ⟨v, e1, o1, hb.trans (o2.mono hb.size)⟩
  have hKeep : ∀ w', Below w5.heap.size w5 w' → w'.cell? ⟨w.heap.size, 0, none⟩ = some (.bool na) := fun w' hb => (hb.cell (World.block_lt_of_cell? _ _ a0)).trans a0
  have HK : Hid (∀ w', Below w5.heap.size w5 w' → w'.cell? ⟨w.heap.size, 0, none⟩ = some (.bool na)) := hKeep
  have HR5 : Hid (∀ dd, Below w5.heap.size w5 (w5.drewN dd).drew) := (fun dd => ⟨rfl, rfl, rfl, Nat.le_refl _, fun _ _ => rfl⟩ : ∀ dd, Below w5.heap.size w5 (w5.drewN dd).drew)
  have hR5 : Below w5.heap.size w5 w5.drew := (Below.refl _ _).drew
  have k56 : ∀ v7 w7, Ir w7 v7 (X + Y) → Below w5.heap.size w5 w7 → Calls Try.prog 17 #[.bool na, v7, .int .i64 (min ea eb)] w7 fun r w' => ∃ s ao n cap ex, r = .returned (.agg #[.bool s, .slice ao n cap, .int .i64 ex]) ∧
      Hid (NC w' w7.heap.size (.agg #[.bool s, .slice ao n cap, .int .i64 ex]) na (X + Y) (min ea eb) ∧ w5.heap.size ≤ w7.heap.size) ∧ Below w5.heap.size w5 w' ∧ Hid (w'.heap[w.heap.size + 1 + 1]? = some (.cells #[.bool false, .slice none 0 0, .int .i64 0] 30 (0, 0))) ∧
      (w'.cell? ⟨w.heap.size + 1 + 1, 0, none⟩ = some (.bool false) ∧ w'.cell? ⟨w.heap.size + 1 + 1, 1, none⟩ = some (.slice none 0 0) ∧ w'.cell? ⟨w.heap.size + 1 + 1, 2, none⟩ = some (.int .i64 0)) ∧ (w'.frozen? ⟨w.heap.size + 1 + 1, 0, none⟩ = false ∧ w'.frozen? ⟨w.heap.size + 1 + 1, 1, none⟩ = false ∧ w'.frozen? ⟨w.heap.size + 1 + 1, 2, none⟩ = false) := by
    intro v7 w7 ho hb
    obtain ⟨ao0, cap0, rfl, hl0, hat0⟩ := ho
    refine (rnorm ⟨ao0, cap0, rfl, hl0, hat0⟩ (by omega) (by omega)).mono ?_
    rintro r w8 ⟨a, rfl, hN, hb8⟩
    obtain ⟨s, ao, n, cap, ex, rfl⟩ := hN.shape
    have hb58 : Below w5.heap.size w5 w8 := hb.trans (hb8.mono hb.size)
    have hblk := box_later HC5.out.1 hb58 (by have := HC5.out.2.size; omega)
    obtain ⟨f1, f2⟩ := box_cells29 hblk
    exact ⟨s, ao, n, cap, ex, rfl, ⟨hN, hb.size⟩, hb58, hblk, f1, f2⟩
  clear h1 h2 h3 hp hq hp6 hq6 hB5' hs hBW hKeep hX hX1 hX2 HR5
  go_wp2
  go_region_held3 (fun w' => w'.cell? ⟨w.heap.size, 0, none⟩ = some (.bool na)) (first | (with_reducible assumption) | (refine HK.out _ ?_; with_reducible assumption) | (rw [World.cell?_setCell_other _ _ _ _ (by simp), World.cell?_setCell_other _ _ _ _ (by simp), World.cell?_setCell_other _ _ _ _ (by simp)]; refine HK.out _ ?_; with_reducible assumption) | go_keep)
    (first | (go_at_call 41; refine (kS _ (by first | (with_reducible assumption) | exact hR5)).mono ?_; rintro r w7 ⟨v7, rfl, ho7, hb7⟩) | (go_at_call 17; refine (k56 _ _ ho7 hb7).mono ?_; rintro r w8 ⟨s8, ao8, n8, cap8, ex8, rfl, hN8, hb8, hblk8, ⟨x1, x2, x3⟩, x4, x5, x6⟩))
  have HF : Hid (Below w5.heap.size w5 w8) := hb8
  clear ho7 hb7 hb8 k56 kS x1 x2 x3 x4 x5 x6 a0 a1 a2 b0 b1 b2 HK
  go_wp2
  refine bodyPost_ret (results_cell_row rfl _ _ (w.heap.size + 1 + 1) 30 #[.bool s8, .slice ao8 n8 cap8, .int .i64 ex8] (0, 0) _ rfl (store3_29 _ _ _ hblk8.out) Try.underlying30 rfl Try.info30) rfl ?_
  obtain ⟨-, hs, hBW⟩ := HH.out
  have hs4 := HC5.out.2.size
  have hs5 := hN8.out.2
  exact ⟨_, rfl, (hN8.out.1.store (by omega) _ _ _).mono (by omega), below_store3 (hBW.trans ((HC5.out.2.trans (HF.out.mono hs4)).mono hBW.size)) (by omega) _ _ _⟩
set_option maxHeartbeats 4000000 in
set_option maxRecDepth 200000 in
theorem rplusN_d (na nb : Bool) (ua va : Option Addr) (un uc vn vc X Y : Nat) (ea eb : Int) (w : World) (hlt : X < Y) (hne : (na == nb) = false) (hX : dlen (Y - X) ≤ 1000000) (hX1 : dlen X ≤ 1000000) (hX2 : dlen Y ≤ 1000000) (he1 : -4000000 ≤ ea) (he2 : ea ≤ 4000000) (he3 : -4000000 ≤ eb) (he4 : eb ≤ 4000000) (hn0 : ((un : Int) == 0) = false) (hn1 : ((vn : Int) == 0) = false)
    (ku : ∀ W i, Below w.heap.size w W → i = ea - min ea eb → Calls Try.prog 39 #[.slice ua un uc, .int .i64 i] W fun r w' => ∃ v, r = .returned v ∧ Ir w' v X ∧ Below W.heap.size W w')
    (kv : ∀ W i, Below w.heap.size w W → i = eb - min ea eb → Calls Try.prog 39 #[.slice va vn vc, .int .i64 i] W fun r w' => ∃ v, r = .returned v ∧ Ir w' v Y ∧ Below W.heap.size W w') :
    Calls Try.prog 26 #[.agg #[.bool na, .slice ua un uc, .int .i64 ea], .agg #[.bool nb, .slice va vn vc, .int .i64 eb]] w fun r w' => ∃ a, r = .returned a ∧ NC w' w.heap.size a nb (Y - X) (min ea eb) ∧ Below w.heap.size w w' := by
  obtain ⟨W, hW⟩ : ∃ W, W = ((w.alloc (.cells #[.bool na, .slice ua un uc, .int .i64 ea] 30)).alloc (.cells #[.bool nb, .slice va vn vc, .int .i64 eb] 30)).alloc (.cells #[.bool false, .slice none 0 0, .int .i64 0] 30) := ⟨_, rfl⟩
  obtain ⟨hA, hBb, hC, hsz, hBW⟩ := boxes3 _ _ _ hW
  have k1 := fun i hi => ku W i hBW hi
  have HKV : Hid (∀ W i, Below w.heap.size w W → i = eb - min ea eb → Calls Try.prog 39 #[.slice va vn vc, .int .i64 i] W fun r w' => ∃ v, r = .returned v ∧ Ir w' v Y ∧ Below W.heap.size W w') := kv
  have HH : Hid ((W.heap[w.heap.size]? = some (.cells #[.bool na, .slice ua un uc, .int .i64 ea] 30 (0, 0)) ∧ W.heap[w.heap.size + 1]? = some (.cells #[.bool nb, .slice va vn vc, .int .i64 eb] 30 (0, 0)) ∧ W.heap[w.heap.size + 1 + 1]? = some (.cells #[.bool false, .slice none 0 0, .int .i64 0] 30 (0, 0))) ∧ W.heap.size = w.heap.size + 1 + 1 + 1 ∧ Below w.heap.size w W) := ⟨⟨hA, hBb, hC⟩, hsz, hBW⟩
  clear hA hBb hC hsz hBW ku kv
  go_enter Try.func26, Try.ntmps26
  go_wp2_with fail
  rw [← hW]
  clear hW
  refine (k1 _ (by first | rfl | (rw [IntKind.wrap_i64]; omega) | omega)).mono ?_
  rintro r w4 ⟨p, rfl, hp, hB4⟩
  clear k1
  obtain ⟨⟨a0, a1, a2⟩, -⟩ := box_cells29 (box_later HH.out.1.1 hB4 (by have := HH.out.2.1; omega))
  obtain ⟨⟨b0, b1, b2⟩, -⟩ := box_cells29 (box_later HH.out.1.2.1 hB4 (by have := HH.out.2.1; omega))
  have HB4 : Hid (Below W.heap.size W w4) := hB4
  have HP4 : Hid (Ir w4 p X) := hp
  clear hB4 hp
  go_wp2_with fail
  refine (HKV.out w4 _ (HH.out.2.2.trans (HB4.out.mono HH.out.2.2.size)) (by first | rfl | (rw [IntKind.wrap_i64]; omega) | omega)).mono ?_
  rintro r w5 ⟨q, rfl, hq, hB5⟩
  have hB5' : Below W.heap.size W w5 := HB4.out.trans (hB5.mono HB4.out.size)
  have hp := HP4.out.later hB5
  clear a0 a1 a2 b0 b1 b2 hB5
  obtain ⟨⟨h1, h2, h3⟩, hs, hBW⟩ := HH.out
  obtain ⟨⟨a0, a1, a2⟩, -⟩ := box_cells29 (box_later h1 hB5' (by omega))
  obtain ⟨⟨b0, b1, b2⟩, -⟩ := box_cells29 (box_later h2 hB5' (by omega))
  have HC5 : Hid (w5.heap[w.heap.size + 1 + 1]? = some (.cells #[.bool false, .slice none 0 0, .int .i64 0] 30 (0, 0)) ∧ Below W.heap.size W w5) := ⟨box_later h3 hB5' (by omega), hB5'⟩
  have hp6 := hp
  have hq6 := hq
  have kS : ∀ W6, Below w5.heap.size w5 W6 → Calls Try.prog 42 #[q, p] W6 fun r w' => ∃ v, r = .returned v ∧ Ir w' v (Y - X) ∧ Below w5.heap.size w5 w' := fun W6 hb =>
    (rless (w := W6) (hq6.later hb) (hp6.later hb) (by omega) (by omega)).mono fun r w' ⟨v, e1, o1, o2⟩ => ⟨v, e1, o1, hb.trans (o2.mono hb.size)⟩
  have hKeep : ∀ w', Below w5.heap.size w5 w' → w'.cell? ⟨w.heap.size + 1, 0, none⟩ = some (.bool nb) := fun w' hb => (hb.cell (World.block_lt_of_cell? _ _ b0)).trans b0
  have HK : Hid (∀ w', Below w5.heap.size w5 w' → w'.cell? ⟨w.heap.size + 1, 0, none⟩ = some (.bool nb)) := hKeep
  have HR5 : Hid (∀ dd, Below w5.heap.size w5 (w5.drewN dd).drew) := (fun dd => ⟨rfl, rfl, rfl, Nat.le_refl _, fun _ _ => rfl⟩ : ∀ dd, Below w5.heap.size w5 (w5.drewN dd).drew)
  have hR5 : Below w5.heap.size w5 w5.drew := (Below.refl _ _).drew
  have k56 : ∀ v7 w7, Ir w7 v7 (Y - X) → Below w5.heap.size w5 w7 → Calls Try.prog 17 #[.bool nb, v7, .int .i64 (min ea eb)] w7 fun r w' => ∃ s ao n cap ex, r = .returned (.agg #[.bool s, .slice ao n cap, .int .i64 ex]) ∧
      Hid (NC w' w7.heap.size (.agg #[.bool s, .slice ao n cap, .int .i64 ex]) nb (Y - X) (min ea eb) ∧ w5.heap.size ≤ w7.heap.size) ∧ Below w5.heap.size w5 w' ∧ Hid (w'.heap[w.heap.size + 1 + 1]? = some (.cells #[.bool false, .slice none 0 0, .int .i64 0] 30 (0, 0))) ∧
      (w'.cell? ⟨w.heap.size + 1 + 1, 0, none⟩ = some (.bool false) ∧ w'.cell? ⟨w.heap.size + 1 + 1, 1, none⟩ = some (.slice none 0 0) ∧ w'.cell? ⟨w.heap.size + 1 + 1, 2, none⟩ = some (.int .i64 0)) ∧ (w'.frozen? ⟨w.heap.size + 1 + 1, 0, none⟩ = false ∧ w'.frozen? ⟨w.heap.size + 1 + 1, 1, none⟩ = false ∧ w'.frozen? ⟨w.heap.size + 1 + 1, 2, none⟩ = false) := by
    intro v7 w7 ho hb
    obtain ⟨ao0, cap0, rfl, hl0, hat0⟩ := ho
    refine (rnorm ⟨ao0, cap0, rfl, hl0, hat0⟩ (by omega) (by omega)).mono ?_
    rintro r w8 ⟨a, rfl, hN, hb8⟩
    obtain ⟨s, ao, n, cap, ex, rfl⟩ := hN.shape
    have hb58 : Below w5.heap.size w5 w8 := hb.trans (hb8.mono hb.size)
    have hblk := box_later HC5.out.1 hb58 (by have := HC5.out.2.size; omega)
    obtain ⟨f1, f2⟩ := box_cells29 hblk
    exact ⟨s, ao, n, cap, ex, rfl, ⟨hN, hb.size⟩, hb58, hblk, f1, f2⟩
  have k129 := rord hp hq (by omega) (by omega)
  have hcm : cmpI (X : Int) (Y : Int) < 0 := by unfold cmpI; rw [if_pos (by omega)]; omega
  generalize cmpI (X : Int) (Y : Int) = cv at *
  clear h1 h2 h3 hp hq hp6 hq6 hB5' hs hBW hKeep hX hX1 hX2 hlt
  go_wp2_with fail
  refine k129.mono ?_
  rintro r w7 ⟨rfl, dd, rfl⟩
  have hR5 := HR5.out dd
  clear k129
  have z0 : (w5.drewN dd).cell? ⟨w.heap.size + 1, 0, none⟩ = some (.bool nb) := b0
  go_wp2
  go_region_held3 (fun w' => w'.cell? ⟨w.heap.size + 1, 0, none⟩ = some (.bool nb)) (first | (with_reducible assumption) | (refine HK.out _ ?_; with_reducible assumption) | (rw [World.cell?_setCell_other _ _ _ _ (by simp), World.cell?_setCell_other _ _ _ _ (by simp), World.cell?_setCell_other _ _ _ _ (by simp)]; refine HK.out _ ?_; with_reducible assumption) | go_keep)
    (first | (go_at_call 42; refine (kS _ (by first | (with_reducible assumption) | exact hR5)).mono ?_; rintro r w7 ⟨v7, rfl, ho7, hb7⟩) | (go_at_call 17; refine (k56 _ _ ho7 hb7).mono ?_; rintro r w8 ⟨s8, ao8, n8, cap8, ex8, rfl, hN8, hb8, hblk8, ⟨x1, x2, x3⟩, x4, x5, x6⟩))
  have HF : Hid (Below w5.heap.size w5 w8) := hb8
  clear ho7 hb7 hb8 k56 kS x1 x2 x3 x4 x5 x6 a0 a1 a2 b0 b1 b2 HK
  go_wp2
  refine bodyPost_ret (results_cell_row rfl _ _ (w.heap.size + 1 + 1) 30 #[.bool s8, .slice ao8 n8 cap8, .int .i64 ex8] (0, 0) _ rfl (store3_29 _ _ _ hblk8.out) Try.underlying30 rfl Try.info30) rfl ?_
  obtain ⟨-, hs, hBW⟩ := HH.out
  have hs4 := HC5.out.2.size
  have hs5 := hN8.out.2
  exact ⟨_, rfl, (hN8.out.1.store (by omega) _ _ _).mono (by omega), below_store3 (hBW.trans ((HC5.out.2.trans (HF.out.mono hs4)).mono hBW.size)) (by omega) _ _ _⟩
set_option maxHeartbeats 4000000 in
set_option maxRecDepth 200000 in
theorem rplusN_e (na nb : Bool) (ua va : Option Addr) (un uc vn vc X Y : Nat) (ea eb : Int) (w : World) (hlt : Y ≤ X) (hne : (na == nb) = false) (hX : dlen (X - Y) ≤ 1000000) (hX1 : dlen X ≤ 1000000) (hX2 : dlen Y ≤ 1000000) (he1 : -4000000 ≤ ea) (he2 : ea ≤ 4000000) (he3 : -4000000 ≤ eb) (he4 : eb ≤ 4000000) (hn0 : ((un : Int) == 0) = false) (hn1 : ((vn : Int) == 0) = false)
    (ku : ∀ W i, Below w.heap.size w W → i = ea - min ea eb → Calls Try.prog 39 #[.slice ua un uc, .int .i64 i] W fun r w' => ∃ v, r = .returned v ∧ Ir w' v X ∧ Below W.heap.size W w')
    (kv : ∀ W i, Below w.heap.size w W → i = eb - min ea eb → Calls Try.prog 39 #[.slice va vn vc, .int .i64 i] W fun r w' => ∃ v, r = .returned v ∧ Ir w' v Y ∧ Below W.heap.size W w') :
    Calls Try.prog 26 #[.agg #[.bool na, .slice ua un uc, .int .i64 ea], .agg #[.bool nb, .slice va vn vc, .int .i64 eb]] w fun r w' => ∃ a, r = .returned a ∧ NC w' w.heap.size a na (X - Y) (min ea eb) ∧ Below w.heap.size w w' := by
  obtain ⟨W, hW⟩ : ∃ W, W = ((w.alloc (.cells #[.bool na, .slice ua un uc, .int .i64 ea] 30)).alloc (.cells #[.bool nb, .slice va vn vc, .int .i64 eb] 30)).alloc (.cells #[.bool false, .slice none 0 0, .int .i64 0] 30) := ⟨_, rfl⟩
  obtain ⟨hA, hBb, hC, hsz, hBW⟩ := boxes3 _ _ _ hW
  have k1 := fun i hi => ku W i hBW hi
  have HKV : Hid (∀ W i, Below w.heap.size w W → i = eb - min ea eb → Calls Try.prog 39 #[.slice va vn vc, .int .i64 i] W fun r w' => ∃ v, r = .returned v ∧ Ir w' v Y ∧ Below W.heap.size W w') := kv
  have HH : Hid ((W.heap[w.heap.size]? = some (.cells #[.bool na, .slice ua un uc, .int .i64 ea] 30 (0, 0)) ∧ W.heap[w.heap.size + 1]? = some (.cells #[.bool nb, .slice va vn vc, .int .i64 eb] 30 (0, 0)) ∧ W.heap[w.heap.size + 1 + 1]? = some (.cells #[.bool false, .slice none 0 0, .int .i64 0] 30 (0, 0))) ∧ W.heap.size = w.heap.size + 1 + 1 + 1 ∧ Below w.heap.size w W) := ⟨⟨hA, hBb, hC⟩, hsz, hBW⟩
  clear hA hBb hC hsz hBW ku kv
  go_enter Try.func26, Try.ntmps26
  go_wp2_with fail
  rw [← hW]
  clear hW
  refine (k1 _ (by first | rfl | (rw [IntKind.wrap_i64]; omega) | omega)).mono ?_
  rintro r w4 ⟨p, rfl, hp, hB4⟩
  clear k1
  obtain ⟨⟨a0, a1, a2⟩, -⟩ := box_cells29 (box_later HH.out.1.1 hB4 (by have := HH.out.2.1; omega))
  obtain ⟨⟨b0, b1, b2⟩, -⟩ := box_cells29 (box_later HH.out.1.2.1 hB4 (by have := HH.out.2.1; omega))
  have HB4 : Hid (Below W.heap.size W w4) := hB4
  have HP4 : Hid (Ir w4 p X) := hp
  clear hB4 hp
  go_wp2_with fail
  refine (HKV.out w4 _ (HH.out.2.2.trans (HB4.out.mono HH.out.2.2.size)) (by first | rfl | (rw [IntKind.wrap_i64]; omega) | omega)).mono ?_
  rintro r w5 ⟨q, rfl, hq, hB5⟩
  have hB5' : Below W.heap.size W w5 := HB4.out.trans (hB5.mono HB4.out.size)
  have hp := HP4.out.later hB5
  clear a0 a1 a2 b0 b1 b2 hB5
  obtain ⟨⟨h1, h2, h3⟩, hs, hBW⟩ := HH.out
  obtain ⟨⟨a0, a1, a2⟩, -⟩ := box_cells29 (box_later h1 hB5' (by omega))
  obtain ⟨⟨b0, b1, b2⟩, -⟩ := box_cells29 (box_later h2 hB5' (by omega))
  have HC5 : Hid (w5.heap[w.heap.size + 1 + 1]? = some (.cells #[.bool false, .slice none 0 0, .int .i64 0] 30 (0, 0)) ∧ Below W.heap.size W w5) := ⟨box_later h3 hB5' (by omega), hB5'⟩
  have hp6 := hp
  have hq6 := hq
  have kS : ∀ W6, Below w5.heap.size w5 W6 → Calls Try.prog 42 #[p, q] W6 fun r w' => ∃ v, r = .returned v ∧ Ir w' v (X - Y) ∧ Below w5.heap.size w5 w' := fun W6 hb =>
    (rless (w := W6) (hp6.later hb) (hq6.later hb) (by omega) (by omega)).mono fun r w' ⟨v, e1, o1, o2⟩ => ⟨v, e1, o1, hb.trans (o2.mono hb.size)⟩
  have hKeep : ∀ w', Below w5.heap.size w5 w' → w'.cell? ⟨w.heap.size, 0, none⟩ = some (.bool na) := fun w' hb => (hb.cell (World.block_lt_of_cell? _ _ a0)).trans a0
  have HK : Hid (∀ w', Below w5.heap.size w5 w' → w'.cell? ⟨w.heap.size, 0, none⟩ = some (.bool na)) := hKeep
  have HR5 : Hid (∀ dd, Below w5.heap.size w5 (w5.drewN dd).drew) := (fun dd => ⟨rfl, rfl, rfl, Nat.le_refl _, fun _ _ => rfl⟩ : ∀ dd, Below w5.heap.size w5 (w5.drewN dd).drew)
  have hR5 : Below w5.heap.size w5 w5.drew := (Below.refl _ _).drew
  have k56 : ∀ v7 w7, Ir w7 v7 (X - Y) → Below w5.heap.size w5 w7 → Calls Try.prog 17 #[.bool na, v7, .int .i64 (min ea eb)] w7 fun r w' => ∃ s ao n cap ex, r = .returned (.agg #[.bool s, .slice ao n cap, .int .i64 ex]) ∧
      Hid (NC w' w7.heap.size (.agg #[.bool s, .slice ao n cap, .int .i64 ex]) na (X - Y) (min ea eb) ∧ w5.heap.size ≤ w7.heap.size) ∧ Below w5.heap.size w5 w' ∧ Hid (w'.heap[w.heap.size + 1 + 1]? = some (.cells #[.bool false, .slice none 0 0, .int .i64 0] 30 (0, 0))) ∧
      (w'.cell? ⟨w.heap.size + 1 + 1, 0, none⟩ = some (.bool false) ∧ w'.cell? ⟨w.heap.size + 1 + 1, 1, none⟩ = some (.slice none 0 0) ∧ w'.cell? ⟨w.heap.size + 1 + 1, 2, none⟩ = some (.int .i64 0)) ∧ (w'.frozen? ⟨w.heap.size + 1 + 1, 0, none⟩ = false ∧ w'.frozen? ⟨w.heap.size + 1 + 1, 1, none⟩ = false ∧ w'.frozen? ⟨w.heap.size + 1 + 1, 2, none⟩ = false) := by
    intro v7 w7 ho hb
    obtain ⟨ao0, cap0, rfl, hl0, hat0⟩ := ho
    refine (rnorm ⟨ao0, cap0, rfl, hl0, hat0⟩ (by omega) (by omega)).mono ?_
    rintro r w8 ⟨a, rfl, hN, hb8⟩
    obtain ⟨s, ao, n, cap, ex, rfl⟩ := hN.shape
    have hb58 : Below w5.heap.size w5 w8 := hb.trans (hb8.mono hb.size)
    have hblk := box_later HC5.out.1 hb58 (by have := HC5.out.2.size; omega)
    obtain ⟨f1, f2⟩ := box_cells29 hblk
    exact ⟨s, ao, n, cap, ex, rfl, ⟨hN, hb.size⟩, hb58, hblk, f1, f2⟩
  have k129 := rord hp hq (by omega) (by omega)
  have hcm : ¬ cmpI (X : Int) (Y : Int) < 0 := by unfold cmpI; rw [if_neg (by omega)]; split <;> omega
  generalize cmpI (X : Int) (Y : Int) = cv at *
  clear h1 h2 h3 hp hq hp6 hq6 hB5' hs hBW hKeep hX hX1 hX2 hlt
  go_wp2_with fail
  refine k129.mono ?_
  rintro r w7 ⟨rfl, dd, rfl⟩
  have hR5 := HR5.out dd
  clear k129
  have z0 : (w5.drewN dd).cell? ⟨w.heap.size, 0, none⟩ = some (.bool na) := a0
  go_wp2
  go_region_held3 (fun w' => w'.cell? ⟨w.heap.size, 0, none⟩ = some (.bool na)) (first | (with_reducible assumption) | (refine HK.out _ ?_; with_reducible assumption) | (rw [World.cell?_setCell_other _ _ _ _ (by simp), World.cell?_setCell_other _ _ _ _ (by simp), World.cell?_setCell_other _ _ _ _ (by simp)]; refine HK.out _ ?_; with_reducible assumption) | go_keep)
    (first | (go_at_call 42; refine (kS _ (by first | (with_reducible assumption) | exact hR5)).mono ?_; rintro r w7 ⟨v7, rfl, ho7, hb7⟩) | (go_at_call 17; refine (k56 _ _ ho7 hb7).mono ?_; rintro r w8 ⟨s8, ao8, n8, cap8, ex8, rfl, hN8, hb8, hblk8, ⟨x1, x2, x3⟩, x4, x5, x6⟩))
  have HF : Hid (Below w5.heap.size w5 w8) := hb8
  clear ho7 hb7 hb8 k56 kS x1 x2 x3 x4 x5 x6 a0 a1 a2 b0 b1 b2 HK
  go_wp2
  refine bodyPost_ret (results_cell_row rfl _ _ (w.heap.size + 1 + 1) 30 #[.bool s8, .slice ao8 n8 cap8, .int .i64 ex8] (0, 0) _ rfl (store3_29 _ _ _ hblk8.out) Try.underlying30 rfl Try.info30) rfl ?_
  obtain ⟨-, hs, hBW⟩ := HH.out
  have hs4 := HC5.out.2.size
  have hs5 := hN8.out.2
  exact ⟨_, rfl, (hN8.out.1.store (by omega) _ _ _).mono (by omega), below_store3 (hBW.trans ((HC5.out.2.trans (HF.out.mono hs4)).mono hBW.size)) (by omega) _ _ _⟩
theorem rplusG {na nb : Bool} {ua va : Option Addr} {uc vc x y : Nat} {ea eb : Int} {w : World} (h1 : Arg w ua (dlen x) uc x) (h2 : Arg w va (dlen y) vc y) (c1 : cn na x ea = (na, x, ea)) (c2 : cn nb y eb = (nb, y, eb)) (he1 : -2000000 ≤ ea) (he2 : ea ≤ 2000000) (he3 : -2000000 ≤ eb) (he4 : eb ≤ 2000000) (hl1 : dlen x ≤ 300000) (hl2 : dlen y ≤ 300000) :
    Calls Try.prog 26 #[.agg #[.bool na, .slice ua (dlen x) uc, .int .i64 ea], .agg #[.bool nb, .slice va (dlen y) vc, .int .i64 eb]] w fun r w' => ∃ a, r = .returned a ∧ NC w' w.heap.size a (sumN na x ea nb y eb).1 (sumN na x ea nb y eb).2.1 (sumN na x ea nb y eb).2.2 ∧ Below w.heap.size w w' := by
  unfold sumN
  by_cases x0 : x = 0
  · rw [if_pos x0]
    show Calls _ _ _ _ fun r w' => ∃ a, r = .returned a ∧ NC w' w.heap.size a nb y eb ∧ _
    subst x0
    rw [dlen_zero]
    refine (rplus_a na nb ua va uc _ vc ea eb w y h2).mono ?_
    rintro r w' ⟨ao', cap', rfl, hd, hb⟩
    exact ⟨_, rfl, hd.nc (by first | exact c2 | exact c1) (by omega), hb⟩
  · rw [if_neg x0]
    by_cases y0 : y = 0
    · rw [if_pos y0]
      show Calls _ _ _ _ fun r w' => ∃ a, r = .returned a ∧ NC w' w.heap.size a na x ea ∧ _
      subst y0
      rw [dlen_zero]
      refine (rplus_b na nb ua va _ uc vc ea eb w x h1 (len_ne (n := 0) x0)).mono ?_
      rintro r w' ⟨ao', cap', rfl, hd, hb⟩
      exact ⟨_, rfl, hd.nc (by first | exact c2 | exact c1) (by omega), hb⟩
    · rw [if_neg y0]
      have l1 : dlen (x * 2 ^ (ea - min ea eb).toNat) ≤ 760000 := by have := shl_len (x := x) (k := (ea - min ea eb).toNat) rfl; omega
      have l2 : dlen (y * 2 ^ (eb - min ea eb).toNat) ≤ 760000 := by have := shl_len (x := y) (k := (eb - min ea eb).toNat) rfl; omega
      have ku : ∀ W i, Below w.heap.size w W → i = ea - min ea eb → Calls Try.prog 39 #[.slice ua (dlen x) uc, .int .i64 i] W fun r w' => ∃ v, r = .returned v ∧ Ir w' v (x * 2 ^ (ea - min ea eb).toNat) ∧ Below W.heap.size W w' := by
        intro W i hW hi
        have hik : i = (((ea - min ea eb).toNat : Nat) : Int) := by omega
        rw [hik]
        exact rup ⟨ua, uc, rfl, h1.le, (h1.later hW).at_⟩ _ (by omega) (by omega)
      have kv : ∀ W i, Below w.heap.size w W → i = eb - min ea eb → Calls Try.prog 39 #[.slice va (dlen y) vc, .int .i64 i] W fun r w' => ∃ v, r = .returned v ∧ Ir w' v (y * 2 ^ (eb - min ea eb).toNat) ∧ Below W.heap.size W w' := by
        intro W i hW hi
        have hik : i = (((eb - min ea eb).toNat : Nat) : Int) := by omega
        rw [hik]
        exact rup ⟨va, vc, rfl, h2.le, (h2.later hW).at_⟩ _ (by omega) (by omega)
      by_cases hs : na = nb
      · rw [if_pos hs]
        have hne : (na == nb) = true := by simp [hs]
        refine (rplusN_c na nb ua va _ uc _ vc _ _ ea eb w hne (by have := dlen_add_le (x * 2 ^ (ea - min ea eb).toNat) (y * 2 ^ (eb - min ea eb).toNat); omega) (by omega) (by omega) (by omega) (by omega) (by omega) (by omega) (len_ne (n := 0) x0) (len_ne (n := 0) y0) ku kv).mono ?_
        rintro r w' ⟨a, rfl, hn, hb⟩
        exact ⟨a, rfl, hn, hb⟩
      · rw [if_neg hs]
        have hne : (na == nb) = false := by simp [hs]
        by_cases hlt : x * 2 ^ (ea - min ea eb).toNat < y * 2 ^ (eb - min ea eb).toNat
        · rw [if_pos hlt]
          refine (rplusN_d na nb ua va _ uc _ vc _ _ ea eb w hlt hne (Nat.le_trans (dlen_mono (Nat.sub_le ..)) (by omega)) (by omega) (by omega) (by omega) (by omega) (by omega) (by omega) (len_ne (n := 0) x0) (len_ne (n := 0) y0) ku kv).mono ?_
          rintro r w' ⟨a, rfl, hn, hb⟩
          exact ⟨a, rfl, hn, hb⟩
        · rw [if_neg hlt]
          refine (rplusN_e na nb ua va _ uc _ vc _ _ ea eb w (by omega) hne (Nat.le_trans (dlen_mono (Nat.sub_le ..)) (by omega)) (by omega) (by omega) (by omega) (by omega) (by omega) (by omega) (len_ne (n := 0) x0) (len_ne (n := 0) y0) ku kv).mono ?_
          rintro r w' ⟨a, rfl, hn, hb⟩
          exact ⟨a, rfl, hn, hb⟩

end Go.Proofs.Ytknljimmilhfkaa
/- The document's Float, as a number that can be handed on. -/
namespace Go.Proofs.Ytknljimmilhfkaa
set_option linter.unusedVariables false
set_option linter.unusedSimpArgs false
open Go.RowKit Go.Fl64

theorem rnormN {neg : Bool} {ao : Option Addr} {n cap x : Nat} {e : Int} {w : World} (h2 : At w ao n x) (hn : dlen x ≤ n) (h1 : n ≤ cap) (hc : n ≤ 1000000000) (he : -4611686018427387904 ≤ e ∧ e ≤ 4611686018427387904) :
    Calls Try.prog 17 #[.bool neg, .slice ao n cap, .int .i64 e] w fun r w' => ∃ a, r = .returned a ∧ NC w' w.heap.size a neg x e ∧ Below w.heap.size w w' := by
  by_cases h0 : x = 0
  · subst h0
    refine (r34_0 neg ao _ cap e w h2 h1 (by omega)).mono ?_
    rintro r w' ⟨rfl, hb⟩
    refine ⟨_, rfl, ⟨none, 0, ?_, ?_, fun ad e => by cases e⟩, hb⟩
    · unfold cn; rw [if_pos rfl, dlen_zero]
    · unfold cn; rw [if_pos rfl]
      exact ⟨fun _ => .inr ⟨rfl, rfl⟩, ⟨0, 0, fun h => by rw [dlen_zero] at h; omega, fun i hi => by rw [dlen_zero] at hi; omega⟩, by rw [dlen_zero]; exact Nat.le_refl _, by rw [dlen_zero]; omega⟩
  · refine (r34c_1 neg ao _ cap x e w h2 hn h1 hc h0 he).mono ?_
    rintro r w' ⟨g, cap', rfl, hg, hcc, ho, hb⟩
    have hle : dlen (x / 2 ^ tz x) ≤ dlen x := dlen_mono (Nat.div_le_self _ _)
    refine ⟨_, rfl, ⟨some ⟨g, 0, none⟩, cap', ?_, ?_, fun ad e _ => ?_⟩, hb⟩
    · unfold cn; rw [if_neg h0]
    · unfold cn; rw [if_neg h0]
      exact ⟨fun _ => .inl ⟨_, rfl⟩, ho, hcc, (by omega : dlen (x / 2 ^ tz x) ≤ 35184372088832)⟩
    · injection e with e; rw [← e]; exact hg
theorem xnorm_two {ng : Bool} {m : Nat} {e : Int} {W : World} (hm : m < 18446744073709551616) (he : -4611686018427387904 ≤ e ∧ e ≤ 4611686018427387904) :
    Calls Try.prog 17 #[.bool ng, .slice (some ⟨W.heap.size, 0, none⟩) 2 2, .int .i64 e] (W.alloc (Obj.cells #[Value.int IntKind.u32 ((m : Int) % 4294967296), Value.int IntKind.u32 ((m : Int) / 4294967296)] 44)) fun r w' => ∃ s ao n cap ex, r = .returned (.agg #[.bool s, .slice ao n cap, .int .i64 ex]) ∧ NC w' (W.heap.size + 1) (.agg #[.bool s, .slice ao n cap, .int .i64 ex]) ng m e ∧ Below W.heap.size W w' := by
  have hL : dlen m ≤ 2 := (dlen_le 2 m).2 (by unfold B; omega)
  refine (rnormN (two_at m W hm) hL (Nat.le_refl _) (by omega) he).mono ?_
  rintro r w' ⟨a, rfl, hn, hb⟩
  obtain ⟨s, ao, n, cap, ex, rfl⟩ := hn.shape
  refine ⟨_, _, _, _, _, rfl, hn.mono (by simp), ?_⟩
  exact ((Below.refl W.heap.size W).alloc (Nat.le_refl _) _).trans (hb.mono (by simp))

set_option maxRecDepth 200000 in
theorem x33_0 (a m : Nat) (w : World) (ng : Bool) (hX : bits .and .u64 ((a : Int) / 4503599627370496) 2047 = 0) (hand : bits .and .u64 (a : Int) 4503599627370495 = (m : Int)) (hng : ((a : Int) / 9223372036854775808 == 1) = ng) (hm : m < 18446744073709551616) :
    Calls Try.prog 5 #[.float .f64 a] w fun r w' => ∃ A, r = .returned A ∧ NC w' w.heap.size A ng m (-1074) ∧ Below w.heap.size w w' := by
  have kb := Ie.run_bits
  obtain ⟨W, hW⟩ : ∃ W, W = w.alloc (.cells #[.bool false, .slice none 0 0, .int .i64 0] 30) := ⟨_, rfl⟩
  have k34 := xnorm_two (ng := ng) (m := m) (e := (-1074)) (W := W) hm (by omega)
  have HB0 : Hid (Below w.heap.size w W ∧ W.heap[w.heap.size]? = some (.cells #[.bool false, .slice none 0 0, .int .i64 0] 30 (0, 0)) ∧ W.heap.size = w.heap.size + 1) := ⟨by rw [hW]; exact (Below.refl _ _).alloc (Nat.le_refl _) _, by rw [hW]; exact heap_alloc_new _ _, by rw [hW]; simp⟩
  rw [HB0.out.2.2] at k34
  go_enter Try.func5, Try.ntmps5
  go_wp2_with fail
  rw [← hW]
  clear hW
  refine k34.mono ?_
  rintro r w3 ⟨s, ao, n, cap, ex, rfl, hn, hb⟩
  have hs := HB0.out.2.2
  have HC3 : Hid (w3.heap[w.heap.size]? = some (.cells #[.bool false, .slice none 0 0, .int .i64 0] 30 (0, 0))) := box_later HB0.out.2.1 hb (by omega)
  obtain ⟨⟨a1, a2, a3⟩, a4, a5, a6⟩ := box_cells29 HC3.out
  have HN : Hid (NC w3 (w.heap.size + 1) (.agg #[.bool s, .slice ao n cap, .int .i64 ex]) ng m (-1074) ∧ Below (w.heap.size + 1) W w3) := ⟨hn.mono (by omega), hb⟩
  clear hn hb k34 hs
  go_wp2
  refine bodyPost_ret (results_cell_row rfl _ _ w.heap.size 30 #[.bool s, .slice ao n cap, .int .i64 ex] (0, 0) _ rfl (store3_29 _ _ _ HC3.out) Try.underlying30 rfl Try.info30) rfl ?_
  have hs := HB0.out.2.2
  exact ⟨_, rfl, (HN.out.1.store (by omega) _ _ _).mono (by omega), below_store3 (HB0.out.1.trans (HN.out.2.mono (by omega))) (Nat.le_refl _) _ _ _⟩

set_option maxRecDepth 200000 in
theorem x33_1 (a m0 m : Nat) (X : Int) (w : World) (ng : Bool) (hX : bits .and .u64 ((a : Int) / 4503599627370496) 2047 = X) (hX0 : (X == 0) = false) (hX1 : 0 ≤ X) (hX2 : X < 2048) (hand : bits .and .u64 (a : Int) 4503599627370495 = (m0 : Int)) (hor : bits .or .u64 (m0 : Int) 4503599627370496 = (m : Int)) (hng : ((a : Int) / 9223372036854775808 == 1) = ng) (hm : m < 18446744073709551616) :
    Calls Try.prog 5 #[.float .f64 a] w fun r w' => ∃ A, r = .returned A ∧ NC w' w.heap.size A ng m (X - 1075) ∧ Below w.heap.size w w' := by
  have kb := Ie.run_bits
  obtain ⟨W, hW⟩ : ∃ W, W = w.alloc (.cells #[.bool false, .slice none 0 0, .int .i64 0] 30) := ⟨_, rfl⟩
  have k34 := xnorm_two (ng := ng) (m := m) (e := (X - 1075)) (W := W) hm (by omega)
  have HB0 : Hid (Below w.heap.size w W ∧ W.heap[w.heap.size]? = some (.cells #[.bool false, .slice none 0 0, .int .i64 0] 30 (0, 0)) ∧ W.heap.size = w.heap.size + 1) := ⟨by rw [hW]; exact (Below.refl _ _).alloc (Nat.le_refl _) _, by rw [hW]; exact heap_alloc_new _ _, by rw [hW]; simp⟩
  rw [HB0.out.2.2] at k34
  go_enter Try.func5, Try.ntmps5
  go_wp2_with fail
  rw [← hW]
  clear hW
  refine k34.mono ?_
  rintro r w3 ⟨s, ao, n, cap, ex, rfl, hn, hb⟩
  have hs := HB0.out.2.2
  have HC3 : Hid (w3.heap[w.heap.size]? = some (.cells #[.bool false, .slice none 0 0, .int .i64 0] 30 (0, 0))) := box_later HB0.out.2.1 hb (by omega)
  obtain ⟨⟨a1, a2, a3⟩, a4, a5, a6⟩ := box_cells29 HC3.out
  have HN : Hid (NC w3 (w.heap.size + 1) (.agg #[.bool s, .slice ao n cap, .int .i64 ex]) ng m (X - 1075) ∧ Below (w.heap.size + 1) W w3) := ⟨hn.mono (by omega), hb⟩
  clear hn hb k34 hs
  go_wp2
  refine bodyPost_ret (results_cell_row rfl _ _ w.heap.size 30 #[.bool s, .slice ao n cap, .int .i64 ex] (0, 0) _ rfl (store3_29 _ _ _ HC3.out) Try.underlying30 rfl Try.info30) rfl ?_
  have hs := HB0.out.2.2
  exact ⟨_, rfl, (HN.out.1.store (by omega) _ _ _).mono (by omega), below_store3 (HB0.out.1.trans (HN.out.2.mono (by omega))) (Nat.le_refl _) _ _ _⟩

theorem x33 (a : Nat) (ha : a < 18446744073709551616) (w : World) :
    Calls Try.prog 5 #[.float .f64 a] w fun r w' => ∃ A, r = .returned A ∧ NC w' w.heap.size A (neg a) (Ie.mant a) (Ie.lp a) ∧ Below w.heap.size w w' := by
  have hX : bits .and .u64 ((a : Int) / 4503599627370496) 2047 = ((mag a / 4503599627370496 : Nat) : Int) := by
    have e : (a : Int) / 4503599627370496 = ((a / 4503599627370496 : Nat) : Int) := by omega
    rw [e, and_2047 _ (by omega)]
    congr 1
    unfold mag
    omega
  have hand : bits .and .u64 (a : Int) 4503599627370495 = ((mag a % 4503599627370496 : Nat) : Int) := by
    rw [Ie.and_mant a ha]
    congr 1
    unfold mag
    omega
  have hng : ((a : Int) / 9223372036854775808 == 1) = neg a := by
    unfold neg
    rw [Bool.beq_eq_decide_eq]
    congr 1
    apply propext
    omega
  have hml : mag a < 9223372036854775808 := by unfold mag; omega
  by_cases h0 : mag a < 4503599627370496
  · have e1 : mag a / 4503599627370496 = 0 := by omega
    have e2 : mag a % 4503599627370496 = mag a := by omega
    rw [e1] at hX
    rw [e2] at hand
    have e3 : Ie.mant a = mag a := by unfold Ie.mant; rw [if_pos h0]
    have e4 : Ie.lp a = -1074 := by unfold Ie.lp; rw [e1]; omega
    rw [e3, e4]
    exact x33_0 a (mag a) w (neg a) hX hand hng (by omega)
  · have e3 : Ie.mant a = 4503599627370496 + mag a % 4503599627370496 := by unfold Ie.mant; rw [if_neg h0]
    have e4 : Ie.lp a = ((mag a / 4503599627370496 : Nat) : Int) - 1075 := by unfold Ie.lp; omega
    rw [e3, e4]
    exact x33_1 a _ _ _ w (neg a) hX (by rw [Bool.beq_eq_decide_eq]; simp; omega) (by omega) (by omega) hand (Ie.or_mant _ (by omega)) hng (by omega)
/-- the number that a float is -/
def tF (a : Nat) : Bool × Nat × Int := cn (neg a) (Ie.mant a) (Ie.lp a)
/-- a number of the document, in memory -/
def DN (w : World) (A : Value) (t : Bool × Nat × Int) : Prop := ∃ ao cap, A = .agg #[.bool t.1, .slice ao (dlen t.2.1) cap, .int .i64 t.2.2] ∧ Arg w ao (dlen t.2.1) cap t.2.1
theorem DN.later {w w' : World} {A : Value} {t : Bool × Nat × Int} (h : DN w A t) (hb : Below w.heap.size w w') : DN w' A t := by
  obtain ⟨ao, cap, h1, h2⟩ := h
  exact ⟨ao, cap, h1, h2.later hb⟩
theorem DN.shape {w : World} {A : Value} {t : Bool × Nat × Int} (h : DN w A t) : ∃ s ao n cap e, A = .agg #[.bool s, .slice ao n cap, .int .i64 e] := by
  obtain ⟨ao, cap, h1, -⟩ := h
  exact ⟨_, _, _, _, _, h1⟩
theorem NC.dn {w : World} {base : Nat} {a : Value} {neg : Bool} {x : Nat} {e : Int} (h : NC w base a neg x e) : DN w a (cn neg x e) := by
  obtain ⟨ao, cap, h1, h2, -⟩ := h
  exact ⟨ao, cap, h1, h2⟩
theorem float_dn (a : Nat) (ha : a < 18446744073709551616) (w : World) :
    Calls Try.prog 5 #[.float .f64 a] w fun r w' => ∃ A, r = .returned A ∧ DN w' A (tF a) ∧ Below w.heap.size w w' :=
  (x33 a ha w).mono fun r w' ⟨A, e, h, hb⟩ => ⟨A, e, h.dn, hb⟩
end Go.Proofs.Ytknljimmilhfkaa
/- The document's Add; Add, Sub, Mul refused. -/
namespace Go.Proofs.Ytknljimmilhfkaa
set_option linter.unusedVariables false
set_option linter.unusedSimpArgs false
open Go.RowKit

end Go.Proofs.Ytknljimmilhfkaa
/- The document's Sub; far numbers; all of Add, Sub, Mul, Shift. -/
namespace Go.Proofs.Ytknljimmilhfkaa
set_option linter.unusedVariables false
set_option linter.unusedSimpArgs false
open Go.RowKit

end Go.Proofs.Ytknljimmilhfkaa
/- The document's down, and whether nothing was lost. -/
namespace Go.Proofs.Ytknljimmilhfkaa
set_option linter.unusedVariables false
set_option linter.unusedSimpArgs false
open Go.RowKit

end Go.Proofs.Ytknljimmilhfkaa
/- The document's long division: how its guesses come to the right digit. -/
namespace Go.Proofs.Ytknljimmilhfkaa
set_option linter.unusedVariables false
set_option linter.unusedSimpArgs false

/-- a guess too high -/
theorem kn_low {R V v1 v2 t r3 d r n : Nat} (hn : 2 ≤ n) (hV : (v1 * B + v2) * B ^ (n - 2) ≤ V) (hR : R < (t * B + r3 + 1) * B ^ (n - 2)) (ht : d * v1 + r = t) (h : r * B + r3 < d * v2) : R < d * V := by
  have h1 : (t * B + r3 + 1) ≤ d * (v1 * B + v2) := by
    have e1 : d * (v1 * B + v2) = (d * v1) * B + d * v2 := by grind
    have e2 : t * B = d * v1 * B + r * B := by rw [← ht, Nat.add_mul]
    omega
  calc R < (t * B + r3 + 1) * B ^ (n - 2) := hR
    _ ≤ d * (v1 * B + v2) * B ^ (n - 2) := Nat.mul_le_mul_right _ h1
    _ = d * ((v1 * B + v2) * B ^ (n - 2)) := Nat.mul_assoc _ _ _
    _ ≤ d * V := Nat.mul_le_mul_left _ hV
/-- a guess that passed is at most one too high -/
theorem kn_high {R V v1 v2 t r3 d r n : Nat} (hn : 2 ≤ n) (hV : V < (v1 * B + v2 + 1) * B ^ (n - 2)) (hR : (t * B + r3) * B ^ (n - 2) ≤ R) (ht : d * v1 + r = t) (hd : d ≤ B) (hv : 1 ≤ v1) (h : d * v2 ≤ r * B + r3) : (d - 1) * V ≤ R := by
  rcases Nat.eq_zero_or_pos d with h0 | h0
  · subst h0; simp
  obtain ⟨c, rfl⟩ : ∃ c, d = c + 1 := ⟨d - 1, by omega⟩
  rw [Nat.add_sub_cancel]
  have hb : c ≤ v1 * B + v2 := by
    have : B ≤ v1 * B := Nat.le_mul_of_pos_left _ hv
    omega
  have h1 : c * (v1 * B + v2 + 1) ≤ t * B + r3 := by
    have e1 : (c + 1) * (v1 * B + v2) = ((c + 1) * v1) * B + (c + 1) * v2 := by grind
    have e2 : t * B = (c + 1) * v1 * B + r * B := by rw [← ht, Nat.add_mul]
    have e3 : (c + 1) * (v1 * B + v2) = c * (v1 * B + v2) + (v1 * B + v2) := by grind
    have e4 : c * (v1 * B + v2 + 1) = c * (v1 * B + v2) + c := by grind
    omega
  calc c * V ≤ c * ((v1 * B + v2 + 1) * B ^ (n - 2)) := Nat.mul_le_mul_left _ (Nat.le_of_lt hV)
    _ = c * (v1 * B + v2 + 1) * B ^ (n - 2) := (Nat.mul_assoc _ _ _).symm
    _ ≤ (t * B + r3) * B ^ (n - 2) := Nat.mul_le_mul_right _ h1
    _ ≤ R := hR
/-- the state of the guess: not below the digit, and the first one no more than two above the base -/
structure Kn (R V v1 t d r : Nat) : Prop where
  sum : d * v1 + r = t
  ge : R < (d + 1) * V
  le : d ≤ B + 1
/-- the first guess -/
theorem kn_start {R V v1 v2 t n : Nat} (hn : 1 ≤ n) (hv : 1 ≤ v1) (hh : B ≤ 2 * v1) (hv2 : v2 < B) (hV1 : v1 * B ^ (n - 1) ≤ V) (hR : R < (t + 1) * B ^ (n - 1)) (ht : t ≤ v1 * B + v2) : Kn R V v1 t (t / v1) (t % v1) := by
  have h0 := Nat.div_add_mod t v1
  have h1 := Nat.mod_lt t (show 0 < v1 by omega)
  refine ⟨by rw [Nat.mul_comm]; exact h0, ?_, ?_⟩
  · have h2 : t + 1 ≤ (t / v1 + 1) * v1 := by rw [Nat.add_mul, Nat.one_mul, Nat.mul_comm]; omega
    calc R < (t + 1) * B ^ (n - 1) := hR
      _ ≤ (t / v1 + 1) * v1 * B ^ (n - 1) := Nat.mul_le_mul_right _ h2
      _ = (t / v1 + 1) * (v1 * B ^ (n - 1)) := Nat.mul_assoc _ _ _
      _ ≤ (t / v1 + 1) * V := Nat.mul_le_mul_left _ hV1
  · refine Nat.le_of_lt_succ ((Nat.div_lt_iff_lt_mul (by omega)).2 ?_)
    have : (B + 1).succ * v1 = v1 * B + 2 * v1 := by rw [Nat.succ_eq_add_one]; grind
    rw [this]; omega
/-- one less -/
theorem Kn.less {R V v1 v2 t d r r3 n : Nat} (h : Kn R V v1 t d r) (hn : 2 ≤ n) (hV : (v1 * B + v2) * B ^ (n - 2) ≤ V) (hR : R < (t * B + r3 + 1) * B ^ (n - 2)) (hq : R < V * B) (hc : B ≤ d ∨ r * B + r3 < d * v2) : Kn R V v1 t (d - 1) (r + v1) ∧ 1 ≤ d := by
  have hd : 1 ≤ d := by
    rcases hc with h | h
    · have := B_pos; omega
    · rcases Nat.eq_zero_or_pos d with h0 | h0
      · rw [h0] at h; omega
      · exact h0
  refine ⟨⟨?_, ?_, ?_⟩, hd⟩
  · have := h.sum
    have e : d * v1 = (d - 1) * v1 + v1 := by
      obtain ⟨c, rfl⟩ : ∃ c, d = c + 1 := ⟨d - 1, by omega⟩
      rw [Nat.add_sub_cancel, Nat.add_mul, Nat.one_mul]
    omega
  · rw [show d - 1 + 1 = d by omega]
    rcases hc with h1 | h1
    · exact Nat.lt_of_lt_of_le hq (by rw [Nat.mul_comm]; exact Nat.mul_le_mul_right _ h1)
    · exact kn_low hn hV hR h.sum h1
  · have := h.le; omega
/-- the guess is done: the digit, or one more -/
theorem Kn.done {R V v1 v2 t d r r3 n : Nat} (h : Kn R V v1 t d r) (hn : 2 ≤ n) (hv : 1 ≤ v1) (hv2 : v2 < B) (hV0 : 0 < V) (hV : V < (v1 * B + v2 + 1) * B ^ (n - 2)) (hR : (t * B + r3) * B ^ (n - 2) ≤ R) (hd : d < B) (hc : d * v2 ≤ r * B + r3 ∨ B ≤ r) : R / V ≤ d ∧ d ≤ R / V + 1 := by
  have hc' : d * v2 ≤ r * B + r3 := by
    rcases hc with h | h
    · exact h
    · have h1 : d * v2 ≤ B * B := Nat.mul_le_mul (Nat.le_of_lt hd) (Nat.le_of_lt hv2)
      have h2 : B * B ≤ r * B := Nat.mul_le_mul_right _ h
      omega
  constructor
  · exact Nat.le_of_lt_succ ((Nat.div_lt_iff_lt_mul hV0).2 h.ge)
  · have h1 := kn_high hn hV hR h.sum (Nat.le_of_lt hd) hv hc'
    have := (Nat.le_div_iff_mul_le hV0).2 h1
    omega
end Go.Proofs.Ytknljimmilhfkaa
/- The document's division by one digit. -/
namespace Go.Proofs.Ytknljimmilhfkaa
set_option linter.unusedVariables false
set_option linter.unusedSimpArgs false
open Go.RowKit

end Go.Proofs.Ytknljimmilhfkaa
