/- Own work: contracts of the program's functions, part 8: SA8 SA9 UA1 UA2 UA3 UA4 UA5 UA6 UA7 SN2 SN3 SN4 SN5 SN6 SN7. -/
import Derived.Test.YtnalhfcpcpondaaGreatDoorA6
import Derived.Test.YtnalhfcpcpondaaGreatDoorA7
import Derived.RangeFuncNested
import Derived.RangeFuncBound
import Derived.RangeFuncCalls
import Derived.RangeFuncLeaves
import Derived.Test.YtnalhfcpcpondaaGreatDoorA2
import Derived.Shelf.Abstract
import Derived.Shelf.RegionOpen
import Derived.WalkKit
import Derived.OwnWalkIn
import Derived.TacticsInMore
import Derived.LoopNIn
import Derived.LoopIn
import Derived.Test.YtnalhfcpcpondaaGreatDoorA4

/- Add and Sub of floats: the program and the document answer alike. -/
namespace Go.Proofs.YtnalhfcpcpondaaGreatDoor
set_option linter.unusedVariables false
set_option linter.unusedSimpArgs false
open Go.RowKit Go.Fl64

theorem tF_fits (a : Nat) : Fits (-1074) 1025 (tF a).2.1 (tF a).2.2 := by
  refine Fits.cn (.inr ⟨(Ie.lp_bound a).1, by have := (Ie.lp_bound a).2; omega, ?_⟩)
  have h := Ie.mant_bound a
  have h2 := (Ie.lp_bound a).2
  have : 2 ^ 53 ≤ 2 ^ (1025 - Ie.lp a).toNat := Nat.pow_le_pow_right (by decide) (by omega)
  omega
theorem tF_ok (a : Nat) : Ok (tF a) := by
  refine ok_cn (Fits.ok (lo := -1074) (hi := 1025) (.inr ⟨(Ie.lp_bound a).1, by have := (Ie.lp_bound a).2; omega, ?_⟩) (by omega) (by omega) (by omega))
  have h := Ie.mant_bound a
  have h2 := (Ie.lp_bound a).2
  have : 2 ^ 53 ≤ 2 ^ (1025 - Ie.lp a).toNat := Nat.pow_le_pow_right (by decide) (by omega)
  omega
theorem cn_parts (a m : Nat) (ha : a < 18446744073709551616) (hf : mag a < 9218868437227405312) (hm : Ie.sM a = (m : Int)) : cn (neg a) m (Ie.sE a) = tF a := by
  unfold tF cn
  rcases of_parts a m ha hf hm with ⟨h1, h2⟩ | ⟨h1, h2, -, h3, h4⟩
  · rw [if_pos h1, if_pos h2]
  · rw [if_neg h1, if_neg h2, h3, h4]
theorem exact_ok (a : Nat) (ha : a < 18446744073709551616) (hf : mag a < 9218868437227405312) (w : World) (hT : Tab32 w) (hI : Ie.Tab w) : Calls Tryz.prog 98 #[.float .f64 a] w fun r w' => OutA w (tF a) r w' := by
  obtain ⟨m, hm, hml⟩ := sM_lt a ha
  refine exact_1 a (tF a) w fun W hW => (of_fin a m ha W (hT.later hW) (Tab.later hI hW) hf hm).mono ?_
  rintro r w' ⟨A, rfl, hN, hb⟩
  have hp := hN.pn
  rw [cn_parts a m ha hf hm] at hp
  obtain ⟨s, ao, n, cap, e, rfl⟩ := hp.shape
  exact ⟨s, ao, n, cap, e, rfl, hp, hb⟩

/-- the sum of two numbers, in its one form -/
def tS (t1 t2 : Bool × Nat × Int) : Bool × Nat × Int := cn (sumN t1.1 t1.2.1 t1.2.2 t2.1 t2.2.1 t2.2.2).1 (sumN t1.1 t1.2.1 t1.2.2 t2.1 t2.2.1 t2.2.2).2.1 (sumN t1.1 t1.2.1 t1.2.2 t2.1 t2.2.1 t2.2.2).2.2
theorem tS_fits {lo hi : Int} {t1 t2 : Bool × Nat × Int} (h1 : Fits lo hi t1.2.1 t1.2.2) (h2 : Fits lo hi t2.2.1 t2.2.2) : Fits lo (hi + 1) (tS t1 t2).2.1 (tS t1 t2).2.2 := Fits.cn (Fits.sum h1 h2)
theorem tS_okR {lo hi : Int} {t1 t2 : Bool × Nat × Int} (h1 : Fits lo hi t1.2.1 t1.2.2) (h2 : Fits lo hi t2.2.1 t2.2.2) (hb : hi + 1 - lo ≤ 65536) (hlo : -65536 ≤ lo) (hhi : hi + 1 ≤ 65536) : okR (sumN t1.1 t1.2.1 t1.2.2 t2.1 t2.2.1 t2.2.2).1 (sumN t1.1 t1.2.1 t1.2.2 t2.1 t2.2.1 t2.2.2).2.1 (sumN t1.1 t1.2.1 t1.2.2 t2.1 t2.2.1 t2.2.2).2.2 = true := (Fits.sum h1 h2).ok hb hlo hhi
theorem psign {t : Bool × Nat × Int} {A : Value} {w : World} (ok : Ok t) (h : PN w A t) : Calls Tryz.prog 132 #[A] w fun r w' => r = .returned (.int .i64 (sgI t.1 (dlen t.2.1))) ∧ Below w.heap.size w w' := by
  obtain ⟨ao, cap, rfl, h1⟩ := h
  obtain ⟨f1, -, -, -, -⟩ := ok.facts
  exact sign_ok h1 (by omega) ok
theorem sgI_nought {s : Bool} {x : Nat} : (sgI s (dlen x) == 0) = decide (x = 0) := by
  unfold sgI
  by_cases h : x = 0
  · rw [if_pos (dlen_eq_zero.2 h), decide_eq_true h]; rfl
  · rw [if_neg (fun e => h (dlen_eq_zero.1 e)), decide_eq_false h]; cases s <;> rfl
theorem sig_lt {s : Bool} {n : Nat} (h : n ≤ 9218868437227405312) : sig s n < 18446744073709551616 := by
  unfold sig; cases s <;> simp <;> omega
theorem tfF_lt {s : Bool} {x : Nat} {e m : Int} (hm : 1 ≤ m ∧ m ≤ 3) : tfF s true x e m < 18446744073709551616 := by
  rw [tf_bdy hm]; exact sig_lt (bdy_le _ _ _)
theorem fin_false {a : Nat} : fin a = false ↔ ¬ mag a < 9218868437227405312 := by unfold fin; simp
theorem addX_lt {a b : Nat} (ha : a < 18446744073709551616) (hb : b < 18446744073709551616) : addX a b < 18446744073709551616 := by
  unfold addX
  repeat' split
  all_goals first | exact ha | exact hb | decide

/-- what a call of floats answers, alike X -/
def OutF2 (W : World) (X : Nat) (r : Ending) (w' : World) : Prop := ∃ n, r = .returned (.float .f64 n) ∧ lk n X ∧ Below W.heap.size W w'
end Go.Proofs.YtnalhfcpcpondaaGreatDoor
/- Sub of floats, and the walk of RoundSums. -/
namespace Go.Proofs.YtnalhfcpcpondaaGreatDoor
set_option linter.unusedVariables false
set_option linter.unusedSimpArgs false
open Go.RowKit Go.Fl64

theorem psub_1 (a b X : Nat) (m : Int) (w : World) (hb : b < 18446744073709551616) (k : Calls Tryz.prog 91 #[.float .f64 a, .float .f64 (ngt b), .int .i64 m] w fun r w' => OutF2 w X r w') :
    Calls Tryz.prog 76 #[.float .f64 a, .float .f64 b, .int .i64 m] w fun r w' => OutF2 w X r w' := by
  have hn : ∀ w, (Op.unary UnOp.neg (.float .f64 b)).run Tryz.prog w = .ok (.float .f64 (ngt b)) w := fun w => by rw [← negF b hb]; rfl
  go_enter Tryz.func76, Tryz.ntmps76
  go_wp2_with fail
  refine k.mono ?_
  rintro r w1 ⟨n, rfl, h1, h2⟩
  have HB : Hid (lk n X ∧ Below w.heap.size w w1) := ⟨h1, h2⟩
  clear k h1 h2
  go_wp2_with fail
  go_ret
  exact ⟨_, rfl, HB.out.1, HB.out.2⟩
end Go.Proofs.YtnalhfcpcpondaaGreatDoor
/- A range over a function whose rounds are told of the memory that they are handed. -/
namespace Go.Proofs.YtnalhfcpcpondaaGreatDoor
set_option linter.unusedVariables false
set_option linter.unusedSimpArgs false
open Go Go.RowKit

end Go.Proofs.YtnalhfcpcpondaaGreatDoor
/- The small functions of sums: exact, rounded. -/
namespace Go.Proofs.YtnalhfcpcpondaaGreatDoor
set_option linter.unusedVariables false
set_option linter.unusedSimpArgs false
open Go.RowKit Go.Fl64

end Go.Proofs.YtnalhfcpcpondaaGreatDoor
/- The iterator over a list's floats, as exact numbers. -/
namespace Go.Proofs.YtnalhfcpcpondaaGreatDoor
set_option linter.unusedVariables false
set_option linter.unusedSimpArgs false
open Go Go.RowKit Go.Fl64 Go.Shelf
attribute [local go_sem] Oper.semAt_some

/-- a list of floats in memory -/
def FAt (w : World) (ao : Option Addr) (len : Nat) (xs : Nat → Nat) : Prop := ∃ b off, (0 < len → ao = some ⟨b, off, none⟩) ∧ ∀ j, j < len → w.cell? ⟨b, off + j, none⟩ = some (.float .f64 (xs j))
theorem FAt.later {w w' : World} {ao : Option Addr} {len : Nat} {xs : Nat → Nat} (h : FAt w ao len xs) (hb : Below w.heap.size w w') : FAt w' ao len xs := by
  obtain ⟨b, off, h1, h2⟩ := h
  refine ⟨b, off, h1, fun j hj => ?_⟩
  have := h2 j hj
  have hlt : b < w.heap.size := by
    unfold World.cell? at this
    rcases Nat.lt_or_ge b w.heap.size with h | h
    · exact h
    · rw [Array.getElem?_eq_none h] at this
      simp at this
  exact (hb.cell (p := ⟨b, off + j, none⟩) hlt).trans this

end Go.Proofs.YtnalhfcpcpondaaGreatDoor
/- The exact sum of a list's floats. -/
namespace Go.Proofs.YtnalhfcpcpondaaGreatDoor
set_option linter.unusedVariables false
set_option linter.unusedSimpArgs false
open Go Go.RowKit Go.Fl64 Go.Shelf
attribute [local go_sem] Oper.semAt_some

/-- the sum of the first floats of a list, in its one form -/
def tSum (xs : Nat → Nat) : Nat → Bool × Nat × Int
  | 0 => (false, 0, 0)
  | k + 1 => tS (tSum xs k) (tF (xs k))

theorem cell_put {W : World} {l : Nat} {o o' : Obj} {p : Addr} {v : Value} (h : W.cell? p = some v) (hl : W.heap[l]? = some o) (ho : o.isCells = false) : (W.putObj l o').cell? p = some v := by
  unfold World.cell? at *
  by_cases e : p.block = l
  · rw [e, hl] at h
    cases o <;> simp_all [Obj.isCells]
  · rw [World.putObj_heap_other e]; exact h
theorem pn_put {W : World} {l : Nat} {o o' : Obj} {A : Value} {t : Bool × Nat × Int} (h : PN W A t) (hl : W.heap[l]? = some o) (ho : o.isCells = false) : PN (W.putObj l o') A t := by
  obtain ⟨ao, cap, h1, ao', cap', h2, h3, h4, b, off, h5, h6⟩ := h
  exact ⟨ao, cap, h1, ao', cap', h2, h3, h4, b, off, h5, fun i hi => cell_put (h6 i hi) hl ho⟩
theorem box_put {W : World} {l g : Nat} {o o' : Obj} {c : Array Value} {ty : TypeId} {z : Nat × Nat} (h : W.heap[g]? = some (.cells c ty z)) (hl : W.heap[l]? = some o) (ho : o.isCells = false) : (W.putObj l o').heap[g]? = some (.cells c ty z) := by
  have e : g ≠ l := by
    intro e
    rw [e, hl] at h
    cases h
    cases ho
  rw [World.putObj_heap_other e]; exact h
/-- what holds between two rounds: the result's box is empty, the sum's box holds the sum so far -/
def TotI (w : World) (B g3 : Nat) (xs : Nat → Nat) (k : Nat) (W : World) : Prop :=
  Below w.heap.size w W ∧ B ≤ W.heap.size ∧ W.heap[w.heap.size]? = some (.cells #[.bool false, .slice none 0 0, .int .i64 0] 95 (0, 0)) ∧ ∃ s ao n cap e, W.heap[g3]? = some (.cells #[.bool s, .slice ao n cap, .int .i64 e] 95 (0, 0)) ∧ PN W (.agg #[.bool s, .slice ao n cap, .int .i64 e]) (tSum xs k)
theorem TotI.later {w : World} {B g3 : Nat} {xs : Nat → Nat} {k : Nat} {A C : World} (h : TotI w B g3 xs k A) (hb : Below A.heap.size A C) : TotI w B g3 xs k C := by
  obtain ⟨h1, h2, h3, s, ao, n, cap, e, h4, h5⟩ := h
  exact ⟨h1.trans (hb.mono h1.size), Nat.le_trans h2 hb.size, box_later h3 hb (lt_of_box h3), s, ao, n, cap, e, box_later h4 hb (lt_of_box h4), h5.later hb⟩
theorem TotI.put {w : World} {B g3 : Nat} {xs : Nat → Nat} {k l : Nat} {A : World} {o o' : Obj} (h : TotI w B g3 xs k A) (hB : w.heap.size ≤ B) (hl : B ≤ l) (ho : A.heap[l]? = some o) (hc : o.isCells = false) : TotI w B g3 xs k (A.putObj l o') := by
  obtain ⟨h1, h2, h3, s, ao, n, cap, e, h4, h5⟩ := h
  have hb : Below w.heap.size A (A.putObj l o') := (Below.refl w.heap.size A).grown (grownBy_putObj' A l o') (by have := (Array.getElem?_eq_some_iff.1 ho).1; omega) (fun k e => by cases e; omega)
  exact ⟨h1.trans hb, Nat.le_trans h2 hb.size, box_put h3 ho hc, s, ao, n, cap, e, box_put h4 ho hc, pn_put h5 ho hc⟩
theorem KeepsFrom.below {B : Nat} {W W' : World} (h : Below W.heap.size W W') : KeepsFrom B W W' := ⟨h.size, fun k o _ hk _ => box_later hk h (Array.getElem?_eq_some_iff.1 hk).1⟩

end Go.Proofs.YtnalhfcpcpondaaGreatDoor
/- sums.taken, sums.finite, sums.near. -/
namespace Go.Proofs.YtnalhfcpcpondaaGreatDoor
set_option linter.unusedVariables false
set_option linter.unusedSimpArgs false
open Go.RowKit Go.Fl64

/-- a number of the program in its box, made since a world -/
def UxP (w3 wc : World) (g : Nat) (s : Bool) (ao : Option Addr) (n cap : Nat) (ex : Int) (t : Bool × Nat × Int) : Prop := wc.heap[g]? = some (.cells #[.bool s, .slice ao n cap, .int .i64 ex] 95 (0, 0)) ∧ w3.heap.size ≤ g ∧ Below w3.heap.size w3 wc ∧ PN wc (.agg #[.bool s, .slice ao n cap, .int .i64 ex]) t
theorem UxP.new {w3 w7 : World} {s : Bool} {ao : Option Addr} {n cap : Nat} {ex : Int} {t : Bool × Nat × Int} (hn : PN w7 (.agg #[.bool s, .slice ao n cap, .int .i64 ex]) t) (hb : Below w3.heap.size w3 w7) : UxP w3 (w7.alloc (.cells #[.bool s, .slice ao n cap, .int .i64 ex] 95)) w7.heap.size s ao n cap ex t :=
  ⟨heap_alloc_new _ _, hb.size, hb.alloc hb.size _, hn.later ((Below.refl _ _).alloc (Nat.le_refl _) _)⟩
theorem UxP.put {w3 w7 : World} {g : Nat} {s : Bool} {ao : Option Addr} {n cap : Nat} {ex : Int} {t : Bool × Nat × Int} (hn : PN w7 (.agg #[.bool s, .slice ao n cap, .int .i64 ex]) t) (hb : Below w3.heap.size w3 w7) (hg : w3.heap.size ≤ g) (hbx : w7.heap[g]? = some (.cells #[.bool false, .slice none 0 0, .int .i64 0] 95 (0, 0))) :
    UxP w3 (((w7.setCell ⟨g, 0, none⟩ (.bool s)).setCell ⟨g, 1, none⟩ (.slice ao n cap)).setCell ⟨g, 2, none⟩ (.int .i64 ex)) g s ao n cap ex t :=
  ⟨store3 _ _ _ hbx, hg, below_store3 hb hg _ _ _, pn_store hn hbx _ _ _⟩

end Go.Proofs.YtnalhfcpcpondaaGreatDoor
/- sums.finite, sums.near, sums.floats, sums.Two. -/
namespace Go.Proofs.YtnalhfcpcpondaaGreatDoor
set_option linter.unusedVariables false
set_option linter.unusedSimpArgs false
open Go.RowKit Go.Fl64

end Go.Proofs.YtnalhfcpcpondaaGreatDoor
/- The sum of two floats to the nearest, as a function; sums.near and the document's add. -/
namespace Go.Proofs.YtnalhfcpcpondaaGreatDoor
set_option linter.unusedVariables false
set_option linter.unusedSimpArgs false
open Go.RowKit Go.Fl64

theorem lk_or {n X : Nat} (h : lk n X) : n = X ∨ (isNaN n = true ∧ isNaN X = true) := by
  cases hn : isNaN X
  · exact .inl (h.eq hn)
  · cases h2 : isNaN n
    · have := h.2
      unfold same at this
      rw [hn, h2] at this
      have e : n = X := by simp at this; omega
      rw [e, hn] at h2
      cases h2
    · exact .inr ⟨rfl, rfl⟩
end Go.Proofs.YtnalhfcpcpondaaGreatDoor
/- The small functions of span: noughts, infinities, what may be. -/
namespace Go.Proofs.YtnalhfcpcpondaaGreatDoor
set_option linter.unusedVariables false
set_option linter.unusedSimpArgs false
open Go.RowKit Go.Fl64

theorem eq_zero (a : Nat) (ha : a < 18446744073709551616) : eq a 0 = (decide (a = 0) || decide (a = 9223372036854775808)) := by
  rw [← Bool.decide_or]
  unfold eq
  rw [show isNaN 0 = false from rfl]
  have h := stp_zero ha
  rw [show stp 0 = 0 from rfl]
  by_cases h0 : stp a = 0
  · have h1 := h.1 h0
    rw [decide_eq_true h0, decide_eq_true h1]
    rcases h1 with rfl | rfl <;> rfl
  · rw [decide_eq_false h0, decide_eq_false fun h2 => h0 (h.2 h2), Bool.and_false]

theorem pmn (a : Nat) (ha : a < 18446744073709551616) (w : World) :
    Calls Tryz.prog 84 #[.float .f64 a] w fun r w' => r = .returned (.bool (decide (a = 9223372036854775808))) ∧ w' = w := by
  have k := Ie.c33 a ha
  have e := ord_eq a 0 ha (by omega)
  rw [eq_zero a ha] at e
  by_cases h : a = 0 ∨ a = 9223372036854775808
  · have e1 : (FloatKind.f64.format.order a 0 == some Ordering.eq) = true := by
      rw [e, ← Bool.decide_or]; exact decide_eq_true h
    have e2 : decide (a = 9223372036854775808) = neg a := by
      rcases h with rfl | rfl <;> rfl
    rw [e2]
    clear e e2 h
    go_enter Tryz.func84, Tryz.ntmps84
    go_wp2_with (first | (go_at_call 127; refine (k _).mono ?_; rintro r w' ⟨rfl, rfl⟩))
    go_ret
    exact ⟨rfl, rfl⟩
  · have e1 : (FloatKind.f64.format.order a 0 == some Ordering.eq) = false := by
      rw [e, ← Bool.decide_or]; exact decide_eq_false h
    rw [decide_eq_false fun h1 => h (.inr h1)]
    clear e h
    go_enter Tryz.func84, Tryz.ntmps84
    go_wp2
    go_ret
    exact ⟨rfl, rfl⟩
theorem ppl (a : Nat) (ha : a < 18446744073709551616) (w : World) :
    Calls Tryz.prog 102 #[.float .f64 a] w fun r w' => r = .returned (.float .f64 (pl a)) ∧ w' = w := by
  have e := ord_eq a 0 ha (by omega)
  rw [eq_zero a ha] at e
  by_cases h : a = 0 ∨ a = 9223372036854775808
  · have e1 : (FloatKind.f64.format.order a 0 == some Ordering.eq) = true := by
      rw [e, ← Bool.decide_or]; exact decide_eq_true h
    have e2 : pl a = 0 := by
      rcases h with rfl | rfl <;> rfl
    rw [e2]
    clear e e2 h
    go_enter Tryz.func102, Tryz.ntmps102
    go_wp2
    go_ret
    exact ⟨rfl, rfl⟩
  · have e1 : (FloatKind.f64.format.order a 0 == some Ordering.eq) = false := by
      rw [e, ← Bool.decide_or]; exact decide_eq_false h
    have e2 : pl a = a := if_neg fun h1 => h (.inr h1)
    rw [e2]
    clear e e2 h
    go_enter Tryz.func102, Tryz.ntmps102
    go_wp2
    go_ret
    exact ⟨rfl, rfl⟩
end Go.Proofs.YtnalhfcpcpondaaGreatDoor
/- Valid on both sides. -/
namespace Go.Proofs.YtnalhfcpcpondaaGreatDoor
set_option linter.unusedVariables false
set_option linter.unusedSimpArgs false
open Go.RowKit Go.Fl64

theorem box_cells2 {w : World} {g : Nat} {a b : Value} {T : TypeId} (h : w.heap[g]? = some (.cells #[a, b] T (0, 0))) : w.cell? ⟨g, 0, none⟩ = some a ∧ w.cell? ⟨g, 1, none⟩ = some b := by
  simp [World.cell?, h]
theorem bdrewN {B : Nat} {a w : World} (h : Below B a w) (n : Nat) : Below B a (w.drewN n) := h.trans ⟨rfl, rfl, rfl, Nat.le_refl _, fun _ _ => rfl⟩
theorem cinf_p (w : World) : Calls Tryz.prog 46 #[.int .i64 1] w fun r w' => r = .returned (.float .f64 9218868437227405312) ∧ w' = w := by
  have hb := Ie.run_frombits
  go_enter Tryz.func46, Tryz.ntmps46
  go_wp2
  go_ret
  exact ⟨rfl, rfl⟩
theorem isinf_p (a : Nat) (ha : a < 18446744073709551616) (w : World) :
    Calls Tryz.prog 44 #[.float .f64 a, .int .i64 1] w fun e w' => e = .returned (.bool (lt 9218868437227405311 a)) ∧ w' = w := by
  have h := ord_gt a 9218868437227405311 ha (by omega)
  have H : Hid ((FloatKind.f64.format.order a 9218868437227405311 == some Ordering.gt) = lt 9218868437227405311 a) := h
  clear h
  go_enter Tryz.func44, Tryz.ntmps44
  go_wp2
  go_ret
  exact ⟨congrArg Ending.returned (congrArg Value.bool H.out), rfl⟩
theorem run_negf8 (a : Nat) (w : World) : (Op.unary .neg (.float .f64 a)).run Tryz.prog w = .ok (.float .f64 (Op.negFloat .f64 a)) w := rfl
theorem isinf_m (a : Nat) (ha : a < 18446744073709551616) (w : World) :
    Calls Tryz.prog 44 #[.float .f64 a, .int .i64 (-1)] w fun e w' => e = .returned (.bool (lt 9218868437227405311 (ngt a))) ∧ w' = w := by
  have kn := run_negf8
  have h := ord_gt (ngt a) 9218868437227405311 (ngt_lt ha) (by omega)
  have hn := negF a ha
  generalize ngt a = b at *
  have H : Hid ((FloatKind.f64.format.order b 9218868437227405311 == some Ordering.gt) = lt 9218868437227405311 b) := h
  clear h
  go_enter Tryz.func44, Tryz.ntmps44
  go_wp2
  go_ret
  refine ⟨?_, rfl⟩
  rw [hn] at *
  exact congrArg Ending.returned (congrArg Value.bool H.out)

theorem ngt_stp {a : Nat} (ha : a < 18446744073709551616) : stp (ngt a) = - stp a := by
  unfold stp
  rw [ngt_mag ha, ngt_neg ha]
  cases neg a <;> simp [sgn]
theorem ngt_nan {a : Nat} (ha : a < 18446744073709551616) : isNaN (ngt a) = isNaN a := by
  unfold isNaN; rw [ngt_mag ha]
theorem nan_stp {a : Nat} (h : isNaN a = false) : -9218868437227405312 ≤ stp a ∧ stp a ≤ 9218868437227405312 := by
  have h' : ¬ 9218868437227405312 < mag a := of_decide_eq_false h
  unfold stp sgn
  split <;> omega
/-- what the program asks -/
theorem vI_p (lo hi : Nat) (h1 : lo < 18446744073709551616) (h2 : hi < 18446744073709551616) :
    vI lo hi = (le lo hi && !(lt 9218868437227405311 lo || lt 9218868437227405311 (ngt hi)) && (!decide (lo = 9223372036854775808) && !decide (hi = 9223372036854775808))) := by
  unfold vI
  cases hl : le lo hi
  · rfl
  · unfold le at hl
    simp only [Bool.and_eq_true, Bool.not_eq_true', decide_eq_true_eq] at hl
    obtain ⟨⟨n1, n2⟩, h3⟩ := hl
    have b1 := nan_stp n1
    have b2 := nan_stp n2
    have e1 : lt lo 9218868437227405312 = !lt 9218868437227405311 lo := by
      unfold lt
      rw [n1, show isNaN 9218868437227405312 = false by decide, show isNaN 9218868437227405311 = false by decide, show stp 9218868437227405312 = 9218868437227405312 by decide, show stp 9218868437227405311 = 9218868437227405311 by decide]
      rw [Bool.not_false, Bool.true_and, Bool.true_and, Bool.true_and, ← decide_not]
      exact decide_eq_decide.2 (by omega)
    have e2 : lt 18442240474082181120 hi = !lt 9218868437227405311 (ngt hi) := by
      unfold lt
      rw [ngt_nan h2, n2, ngt_stp h2, show isNaN 18442240474082181120 = false by decide, show isNaN 9218868437227405311 = false by decide, show stp 18442240474082181120 = -9218868437227405312 by decide, show stp 9218868437227405311 = 9218868437227405311 by decide]
      rw [Bool.not_false, Bool.true_and, Bool.true_and, Bool.true_and, ← decide_not]
      exact decide_eq_decide.2 (by omega)
    rw [e1, e2]
    simp [Bool.and_assoc]
set_option maxHeartbeats 1000000 in
theorem pvalid_1 (lo hi : Nat) (w : World)
    (h : (FloatKind.f64.format.order lo hi == some Ordering.lt || FloatKind.f64.format.order lo hi == some Ordering.eq) = false) :
    Calls Tryz.prog 43 #[.agg #[.float .f64 lo, .float .f64 hi]] w fun r w' => r = .returned (.bool false) ∧ Below w.heap.size w w' := by
  go_enter Tryz.func43, Tryz.ntmps43
  go_wp2_with (first | fail)
  go_ret
  exact ⟨rfl, (Below.refl _ _).alloc (Nat.le_refl _) _⟩
set_option maxHeartbeats 1000000 in
theorem pvalid_2 (lo hi : Nat) (w : World) (p q s : Bool)
    (h : (FloatKind.f64.format.order lo hi == some Ordering.lt || FloatKind.f64.format.order lo hi == some Ordering.eq) = true)
    (k1 : ∀ W, Calls Tryz.prog 44 #[.float .f64 lo, .int .i64 1] W fun e w' => e = .returned (.bool true) ∧ w' = W)
    (k2 : ∀ W, Calls Tryz.prog 44 #[.float .f64 hi, .int .i64 (-1)] W fun e w' => e = .returned (.bool p) ∧ w' = W)
    (k3 : ∀ W, Calls Tryz.prog 84 #[.float .f64 lo] W fun e w' => e = .returned (.bool q) ∧ w' = W)
    (k4 : ∀ W, Calls Tryz.prog 84 #[.float .f64 hi] W fun e w' => e = .returned (.bool s) ∧ w' = W) :
    Calls Tryz.prog 43 #[.agg #[.float .f64 lo, .float .f64 hi]] w fun r w' => r = .returned (.bool false) ∧ Below w.heap.size w w' := by
  go_enter Tryz.func43, Tryz.ntmps43
  go_wp2_with (first | (go_at_call 44; first | (with_reducible refine (k1 _).mono ?_; rintro r w' ⟨rfl, rfl⟩) | (with_reducible refine (k2 _).mono ?_; rintro r w' ⟨rfl, rfl⟩)) | (go_at_call 84; first | (with_reducible refine (k3 _).mono ?_; rintro r w' ⟨rfl, rfl⟩) | (with_reducible refine (k4 _).mono ?_; rintro r w' ⟨rfl, rfl⟩)))
  go_ret
  exact ⟨rfl, (Below.refl _ _).alloc (Nat.le_refl _) _⟩
set_option maxHeartbeats 1000000 in
theorem pvalid_3 (lo hi : Nat) (w : World) (q s : Bool)
    (h : (FloatKind.f64.format.order lo hi == some Ordering.lt || FloatKind.f64.format.order lo hi == some Ordering.eq) = true)
    (k1 : ∀ W, Calls Tryz.prog 44 #[.float .f64 lo, .int .i64 1] W fun e w' => e = .returned (.bool false) ∧ w' = W)
    (k2 : ∀ W, Calls Tryz.prog 44 #[.float .f64 hi, .int .i64 (-1)] W fun e w' => e = .returned (.bool true) ∧ w' = W)
    (k3 : ∀ W, Calls Tryz.prog 84 #[.float .f64 lo] W fun e w' => e = .returned (.bool q) ∧ w' = W)
    (k4 : ∀ W, Calls Tryz.prog 84 #[.float .f64 hi] W fun e w' => e = .returned (.bool s) ∧ w' = W) :
    Calls Tryz.prog 43 #[.agg #[.float .f64 lo, .float .f64 hi]] w fun r w' => r = .returned (.bool false) ∧ Below w.heap.size w w' := by
  go_enter Tryz.func43, Tryz.ntmps43
  go_wp2_with (first | (go_at_call 44; first | (with_reducible refine (k1 _).mono ?_; rintro r w' ⟨rfl, rfl⟩) | (with_reducible refine (k2 _).mono ?_; rintro r w' ⟨rfl, rfl⟩)) | (go_at_call 84; first | (with_reducible refine (k3 _).mono ?_; rintro r w' ⟨rfl, rfl⟩) | (with_reducible refine (k4 _).mono ?_; rintro r w' ⟨rfl, rfl⟩)))
  go_ret
  exact ⟨rfl, (Below.refl _ _).alloc (Nat.le_refl _) _⟩
set_option maxHeartbeats 1000000 in
theorem pvalid_4 (lo hi : Nat) (w : World) (s : Bool)
    (h : (FloatKind.f64.format.order lo hi == some Ordering.lt || FloatKind.f64.format.order lo hi == some Ordering.eq) = true)
    (k1 : ∀ W, Calls Tryz.prog 44 #[.float .f64 lo, .int .i64 1] W fun e w' => e = .returned (.bool false) ∧ w' = W)
    (k2 : ∀ W, Calls Tryz.prog 44 #[.float .f64 hi, .int .i64 (-1)] W fun e w' => e = .returned (.bool false) ∧ w' = W)
    (k3 : ∀ W, Calls Tryz.prog 84 #[.float .f64 lo] W fun e w' => e = .returned (.bool true) ∧ w' = W)
    (k4 : ∀ W, Calls Tryz.prog 84 #[.float .f64 hi] W fun e w' => e = .returned (.bool s) ∧ w' = W) :
    Calls Tryz.prog 43 #[.agg #[.float .f64 lo, .float .f64 hi]] w fun r w' => r = .returned (.bool false) ∧ Below w.heap.size w w' := by
  go_enter Tryz.func43, Tryz.ntmps43
  go_wp2_with (first | (go_at_call 44; first | (with_reducible refine (k1 _).mono ?_; rintro r w' ⟨rfl, rfl⟩) | (with_reducible refine (k2 _).mono ?_; rintro r w' ⟨rfl, rfl⟩)) | (go_at_call 84; first | (with_reducible refine (k3 _).mono ?_; rintro r w' ⟨rfl, rfl⟩) | (with_reducible refine (k4 _).mono ?_; rintro r w' ⟨rfl, rfl⟩)))
  go_ret
  exact ⟨rfl, (Below.refl _ _).alloc (Nat.le_refl _) _⟩
set_option maxHeartbeats 1000000 in
theorem pvalid_5 (lo hi : Nat) (w : World) (s : Bool)
    (h : (FloatKind.f64.format.order lo hi == some Ordering.lt || FloatKind.f64.format.order lo hi == some Ordering.eq) = true)
    (k1 : ∀ W, Calls Tryz.prog 44 #[.float .f64 lo, .int .i64 1] W fun e w' => e = .returned (.bool false) ∧ w' = W)
    (k2 : ∀ W, Calls Tryz.prog 44 #[.float .f64 hi, .int .i64 (-1)] W fun e w' => e = .returned (.bool false) ∧ w' = W)
    (k3 : ∀ W, Calls Tryz.prog 84 #[.float .f64 lo] W fun e w' => e = .returned (.bool false) ∧ w' = W)
    (k4 : ∀ W, Calls Tryz.prog 84 #[.float .f64 hi] W fun e w' => e = .returned (.bool s) ∧ w' = W) :
    Calls Tryz.prog 43 #[.agg #[.float .f64 lo, .float .f64 hi]] w fun r w' => r = .returned (.bool (!s)) ∧ Below w.heap.size w w' := by
  go_enter Tryz.func43, Tryz.ntmps43
  go_wp2_with (first | (go_at_call 44; first | (with_reducible refine (k1 _).mono ?_; rintro r w' ⟨rfl, rfl⟩) | (with_reducible refine (k2 _).mono ?_; rintro r w' ⟨rfl, rfl⟩)) | (go_at_call 84; first | (with_reducible refine (k3 _).mono ?_; rintro r w' ⟨rfl, rfl⟩) | (with_reducible refine (k4 _).mono ?_; rintro r w' ⟨rfl, rfl⟩)))
  go_ret
  exact ⟨rfl, (Below.refl _ _).alloc (Nat.le_refl _) _⟩
theorem svalid (lo hi : Nat) (h1 : lo < 18446744073709551616) (h2 : hi < 18446744073709551616) (w : World) :
    Calls Tryz.prog 43 #[.agg #[.float .f64 lo, .float .f64 hi]] w fun r w' => r = .returned (.bool (vI lo hi)) ∧ Below w.heap.size w w' := by
  have ho := ord_le lo hi h1 h2
  rw [vI_p lo hi h1 h2]
  have k1 := isinf_p lo h1
  have k2 := isinf_m hi h2
  have k3 := pmn lo h1
  have k4 := pmn hi h2
  cases hl : le lo hi
  · rw [hl] at ho
    exact pvalid_1 lo hi w ho
  · rw [hl] at ho
    cases hp : lt 9218868437227405311 lo
    · rw [hp] at k1
      cases hq : lt 9218868437227405311 (ngt hi)
      · rw [hq] at k2
        cases hs : decide (lo = 9223372036854775808)
        · rw [hs] at k3
          exact pvalid_5 lo hi w _ ho k1 k2 k3 k4
        · rw [hs] at k3
          exact pvalid_4 lo hi w _ ho k1 k2 k3 k4
      · rw [hq] at k2
        exact pvalid_3 lo hi w _ _ ho k1 k2 k3 k4
    · rw [hp] at k1
      exact pvalid_2 lo hi w _ _ _ ho k1 k2 k3 k4
theorem dclean (a : Nat) (ha : a < 18446744073709551616) (w : World) :
    Calls Tryz.prog 79 #[.float .f64 a] w fun r w' => r = .returned (.bool (!decide (a = 9223372036854775808))) ∧ w' = w := by
  have k := Ie.c33 a ha
  have e := ord_ne a 0 ha (by omega)
  rw [eq_zero a ha] at e
  by_cases h : a = 0 ∨ a = 9223372036854775808
  · have e1 : (FloatKind.f64.format.order a 0 != some Ordering.eq) = false := by
      rw [e, ← Bool.decide_or, decide_eq_true h]; rfl
    have e2 : decide (a = 9223372036854775808) = neg a := by
      rcases h with rfl | rfl <;> rfl
    rw [e2]
    clear e e2 h
    go_enter Tryz.func79, Tryz.ntmps79
    go_wp2_with (first | (go_at_call 127; refine (k _).mono ?_; rintro r w' ⟨rfl, rfl⟩))
    go_ret
    exact ⟨rfl, rfl⟩
  · have e1 : (FloatKind.f64.format.order a 0 != some Ordering.eq) = true := by
      rw [e, ← Bool.decide_or, decide_eq_false h]; rfl
    rw [decide_eq_false fun h1 => h (.inr h1)]
    clear e h
    go_enter Tryz.func79, Tryz.ntmps79
    go_wp2
    go_ret
    exact ⟨rfl, rfl⟩
set_option maxHeartbeats 4000000 in
theorem dvalid_1 (lo hi : Nat) (w : World) (p q r s : Bool)
    (o1 : (FloatKind.f64.format.order lo hi == some Ordering.lt || FloatKind.f64.format.order lo hi == some Ordering.eq) = false)
    (o2 : (FloatKind.f64.format.order lo 9218868437227405312 == some Ordering.lt) = p)
    (o3 : (FloatKind.f64.format.order hi 18442240474082181120 == some Ordering.gt) = q)
    (k3 : ∀ W, Calls Tryz.prog 79 #[.float .f64 lo] W fun e w' => e = .returned (.bool r) ∧ w' = W)
    (k4 : ∀ W, Calls Tryz.prog 79 #[.float .f64 hi] W fun e w' => e = .returned (.bool s) ∧ w' = W) :
    Calls Tryz.prog 40 #[.agg #[.float .f64 lo, .float .f64 hi]] w fun r w' => r = .returned (.bool false) ∧ Below w.heap.size w w' := by
  obtain ⟨W, hW⟩ : ∃ W, W = w.alloc (.cells #[.float .f64 lo, .float .f64 hi] 24) := ⟨_, rfl⟩
  have HX : Hid (Below w.heap.size w W) := by rw [hW]; exact (Below.refl _ _).alloc (Nat.le_refl _) _
  have hcl : W.cell? ⟨w.heap.size, 0, none⟩ = some (.float .f64 lo) ∧ W.cell? ⟨w.heap.size, 1, none⟩ = some (.float .f64 hi) := by rw [hW]; exact box_cells2 (heap_alloc_new _ _)
  obtain ⟨c0, c1⟩ := hcl
  go_enter Tryz.func40, Tryz.ntmps40
  go_upto_region 1 with fail
  rw [← hW]
  clear hW
  go_quiet (first | (go_at_call 46; first | (with_reducible refine Calls.quiet_of_same (cinf_p _)) | (with_reducible refine Calls.quiet_of_same (cinf_m _))) | (go_at_call 79; first | (with_reducible refine Calls.quiet_of_same (k3 _)) | (with_reducible refine Calls.quiet_of_same (k4 _))))
  go_wp2
  go_ret
  exact ⟨rfl, bdrewN HX.out _⟩
set_option maxHeartbeats 4000000 in
theorem dvalid_2 (lo hi : Nat) (w : World) (q r s : Bool)
    (o1 : (FloatKind.f64.format.order lo hi == some Ordering.lt || FloatKind.f64.format.order lo hi == some Ordering.eq) = true)
    (o2 : (FloatKind.f64.format.order lo 9218868437227405312 == some Ordering.lt) = false)
    (o3 : (FloatKind.f64.format.order hi 18442240474082181120 == some Ordering.gt) = q)
    (k3 : ∀ W, Calls Tryz.prog 79 #[.float .f64 lo] W fun e w' => e = .returned (.bool r) ∧ w' = W)
    (k4 : ∀ W, Calls Tryz.prog 79 #[.float .f64 hi] W fun e w' => e = .returned (.bool s) ∧ w' = W) :
    Calls Tryz.prog 40 #[.agg #[.float .f64 lo, .float .f64 hi]] w fun r w' => r = .returned (.bool false) ∧ Below w.heap.size w w' := by
  obtain ⟨W, hW⟩ : ∃ W, W = w.alloc (.cells #[.float .f64 lo, .float .f64 hi] 24) := ⟨_, rfl⟩
  have HX : Hid (Below w.heap.size w W) := by rw [hW]; exact (Below.refl _ _).alloc (Nat.le_refl _) _
  have hcl : W.cell? ⟨w.heap.size, 0, none⟩ = some (.float .f64 lo) ∧ W.cell? ⟨w.heap.size, 1, none⟩ = some (.float .f64 hi) := by rw [hW]; exact box_cells2 (heap_alloc_new _ _)
  obtain ⟨c0, c1⟩ := hcl
  go_enter Tryz.func40, Tryz.ntmps40
  go_upto_region 1 with fail
  rw [← hW]
  clear hW
  go_quiet (first | (go_at_call 46; first | (with_reducible refine Calls.quiet_of_same (cinf_p _)) | (with_reducible refine Calls.quiet_of_same (cinf_m _))) | (go_at_call 79; first | (with_reducible refine Calls.quiet_of_same (k3 _)) | (with_reducible refine Calls.quiet_of_same (k4 _))))
  go_wp2
  go_ret
  exact ⟨rfl, bdrewN HX.out _⟩
set_option maxHeartbeats 4000000 in
theorem dvalid_3 (lo hi : Nat) (w : World) (r s : Bool)
    (o1 : (FloatKind.f64.format.order lo hi == some Ordering.lt || FloatKind.f64.format.order lo hi == some Ordering.eq) = true)
    (o2 : (FloatKind.f64.format.order lo 9218868437227405312 == some Ordering.lt) = true)
    (o3 : (FloatKind.f64.format.order hi 18442240474082181120 == some Ordering.gt) = false)
    (k3 : ∀ W, Calls Tryz.prog 79 #[.float .f64 lo] W fun e w' => e = .returned (.bool r) ∧ w' = W)
    (k4 : ∀ W, Calls Tryz.prog 79 #[.float .f64 hi] W fun e w' => e = .returned (.bool s) ∧ w' = W) :
    Calls Tryz.prog 40 #[.agg #[.float .f64 lo, .float .f64 hi]] w fun r w' => r = .returned (.bool false) ∧ Below w.heap.size w w' := by
  obtain ⟨W, hW⟩ : ∃ W, W = w.alloc (.cells #[.float .f64 lo, .float .f64 hi] 24) := ⟨_, rfl⟩
  have HX : Hid (Below w.heap.size w W) := by rw [hW]; exact (Below.refl _ _).alloc (Nat.le_refl _) _
  have hcl : W.cell? ⟨w.heap.size, 0, none⟩ = some (.float .f64 lo) ∧ W.cell? ⟨w.heap.size, 1, none⟩ = some (.float .f64 hi) := by rw [hW]; exact box_cells2 (heap_alloc_new _ _)
  obtain ⟨c0, c1⟩ := hcl
  go_enter Tryz.func40, Tryz.ntmps40
  go_upto_region 1 with fail
  rw [← hW]
  clear hW
  go_quiet (first | (go_at_call 46; first | (with_reducible refine Calls.quiet_of_same (cinf_p _)) | (with_reducible refine Calls.quiet_of_same (cinf_m _))) | (go_at_call 79; first | (with_reducible refine Calls.quiet_of_same (k3 _)) | (with_reducible refine Calls.quiet_of_same (k4 _))))
  go_wp2
  go_ret
  exact ⟨rfl, bdrewN HX.out _⟩
set_option maxHeartbeats 4000000 in
theorem dvalid_4 (lo hi : Nat) (w : World) (s : Bool)
    (o1 : (FloatKind.f64.format.order lo hi == some Ordering.lt || FloatKind.f64.format.order lo hi == some Ordering.eq) = true)
    (o2 : (FloatKind.f64.format.order lo 9218868437227405312 == some Ordering.lt) = true)
    (o3 : (FloatKind.f64.format.order hi 18442240474082181120 == some Ordering.gt) = true)
    (k3 : ∀ W, Calls Tryz.prog 79 #[.float .f64 lo] W fun e w' => e = .returned (.bool false) ∧ w' = W)
    (k4 : ∀ W, Calls Tryz.prog 79 #[.float .f64 hi] W fun e w' => e = .returned (.bool s) ∧ w' = W) :
    Calls Tryz.prog 40 #[.agg #[.float .f64 lo, .float .f64 hi]] w fun r w' => r = .returned (.bool false) ∧ Below w.heap.size w w' := by
  obtain ⟨W, hW⟩ : ∃ W, W = w.alloc (.cells #[.float .f64 lo, .float .f64 hi] 24) := ⟨_, rfl⟩
  have HX : Hid (Below w.heap.size w W) := by rw [hW]; exact (Below.refl _ _).alloc (Nat.le_refl _) _
  have hcl : W.cell? ⟨w.heap.size, 0, none⟩ = some (.float .f64 lo) ∧ W.cell? ⟨w.heap.size, 1, none⟩ = some (.float .f64 hi) := by rw [hW]; exact box_cells2 (heap_alloc_new _ _)
  obtain ⟨c0, c1⟩ := hcl
  go_enter Tryz.func40, Tryz.ntmps40
  go_upto_region 1 with fail
  rw [← hW]
  clear hW
  go_quiet (first | (go_at_call 46; first | (with_reducible refine Calls.quiet_of_same (cinf_p _)) | (with_reducible refine Calls.quiet_of_same (cinf_m _))) | (go_at_call 79; first | (with_reducible refine Calls.quiet_of_same (k3 _)) | (with_reducible refine Calls.quiet_of_same (k4 _))))
  go_wp2
  go_ret
  exact ⟨rfl, bdrewN HX.out _⟩
set_option maxHeartbeats 4000000 in
theorem dvalid_5 (lo hi : Nat) (w : World) (s : Bool)
    (o1 : (FloatKind.f64.format.order lo hi == some Ordering.lt || FloatKind.f64.format.order lo hi == some Ordering.eq) = true)
    (o2 : (FloatKind.f64.format.order lo 9218868437227405312 == some Ordering.lt) = true)
    (o3 : (FloatKind.f64.format.order hi 18442240474082181120 == some Ordering.gt) = true)
    (k3 : ∀ W, Calls Tryz.prog 79 #[.float .f64 lo] W fun e w' => e = .returned (.bool true) ∧ w' = W)
    (k4 : ∀ W, Calls Tryz.prog 79 #[.float .f64 hi] W fun e w' => e = .returned (.bool s) ∧ w' = W) :
    Calls Tryz.prog 40 #[.agg #[.float .f64 lo, .float .f64 hi]] w fun r w' => r = .returned (.bool s) ∧ Below w.heap.size w w' := by
  obtain ⟨W, hW⟩ : ∃ W, W = w.alloc (.cells #[.float .f64 lo, .float .f64 hi] 24) := ⟨_, rfl⟩
  have HX : Hid (Below w.heap.size w W) := by rw [hW]; exact (Below.refl _ _).alloc (Nat.le_refl _) _
  have hcl : W.cell? ⟨w.heap.size, 0, none⟩ = some (.float .f64 lo) ∧ W.cell? ⟨w.heap.size, 1, none⟩ = some (.float .f64 hi) := by rw [hW]; exact box_cells2 (heap_alloc_new _ _)
  obtain ⟨c0, c1⟩ := hcl
  go_enter Tryz.func40, Tryz.ntmps40
  go_upto_region 1 with fail
  rw [← hW]
  clear hW
  go_quiet (first | (go_at_call 46; first | (with_reducible refine Calls.quiet_of_same (cinf_p _)) | (with_reducible refine Calls.quiet_of_same (cinf_m _))) | (go_at_call 79; first | (with_reducible refine Calls.quiet_of_same (k3 _)) | (with_reducible refine Calls.quiet_of_same (k4 _))))
  go_wp2
  go_ret
  exact ⟨rfl, bdrewN HX.out _⟩
theorem d8valid (lo hi : Nat) (h1 : lo < 18446744073709551616) (h2 : hi < 18446744073709551616) (w : World) :
    Calls Tryz.prog 40 #[.agg #[.float .f64 lo, .float .f64 hi]] w fun r w' => r = .returned (.bool (vI lo hi)) ∧ Below w.heap.size w w' := by
  have o1 := ord_le lo hi h1 h2
  have o2 := ord_lt lo 9218868437227405312 h1 (by omega)
  have o3 := ord_gt hi 18442240474082181120 h2 (by omega)
  have k3 := dclean lo h1
  have k4 := dclean hi h2
  unfold vI
  rw [decide_not, decide_not]
  cases hl : le lo hi
  · rw [hl] at o1
    exact dvalid_1 lo hi w _ _ _ _ o1 o2 o3 k3 k4
  · rw [hl] at o1
    cases hp : lt lo 9218868437227405312
    · rw [hp] at o2
      exact dvalid_2 lo hi w _ _ _ o1 o2 o3 k3 k4
    · rw [hp] at o2
      cases hq : lt 18442240474082181120 hi
      · rw [hq] at o3
        exact dvalid_3 lo hi w _ _ o1 o2 o3 k3 k4
      · rw [hq] at o3
        cases hs : decide (lo = 9223372036854775808)
        · rw [hs] at k3
          exact dvalid_5 lo hi w _ o1 o2 o3 k3 k4
        · rw [hs] at k3
          exact dvalid_4 lo hi w _ o1 o2 o3 k3 k4
end Go.Proofs.YtnalhfcpcpondaaGreatDoor
/- mayBe, of two intervals; between, All. -/
namespace Go.Proofs.YtnalhfcpcpondaaGreatDoor
set_option linter.unusedVariables false
set_option linter.unusedSimpArgs false
open Go.RowKit Go.Fl64

theorem run_store_flt (P : Program) (w : World) (a : Addr) (m : Mode) (k : FloatKind) (n : Nat) : (store a (.float k n) m).run P w = stored P w a (.float k n) m := run_store P w a _ m rfl
attribute [local go_sem] run_store_flt

set_option maxRecDepth 200000 in
theorem smaybe_1 (g k : Nat) (lo hi : Nat → Nat) (w : World) (hk : k ≤ 3)
    (h0 : ∀ i, i < k → w.cell? ⟨g, i * 2, none⟩ = some (.float .f64 (lo i))) (h1 : ∀ i, i < k → w.cell? ⟨g, i * 2 + 1, none⟩ = some (.float .f64 (hi i)))
    (b0 : ∀ i, lo i < 18446744073709551616) (b1 : ∀ i, hi i < 18446744073709551616) :
    Calls Tryz.prog 39 #[.slice (some ⟨g, 0, none⟩) k k] w fun r w' => r = .returned (.bool (decide (∀ i, i < k → vI (lo i) (hi i) = true))) ∧ Below w.heap.size w w' := by
  generalize hans : decide (∀ i, i < k → vI (lo i) (hi i) = true) = ans
  have HA : Hid (ans = decide (∀ i, i < k → vI (lo i) (hi i) = true)) := hans.symm
  clear hans
  go_enter Tryz.func39, Tryz.ntmps39
  go_wp2
  go_loopw [7] (fun i wr => ∃ j : Nat, j ≤ k ∧ i = .int .i64 j ∧ Hid (Below w.heap.size w wr) ∧ Hid (∀ i, i < j → vI (lo i) (hi i) = true)) (fun i _ => k - (intOf i).toNat)
  case atStart => exact ⟨0, Nat.zero_le _, rfl, Below.refl _ _, (fun i hi' => absurd hi' (Nat.not_lt_zero _) : ∀ i, i < 0 → vI (lo i) (hi i) = true)⟩
  case round =>
    obtain ⟨j, hj, rfl, hB, hok⟩ := hrel
    by_cases hjk : j < k
    · have a0 : wr.cell? ⟨g, j * 2, none⟩ = some (.float .f64 (lo j)) := (hB.out.cell (World.block_lt_of_cell? _ _ (h0 j hjk))).trans (h0 j hjk)
      have a1 : wr.cell? ⟨g, j * 2 + 1, none⟩ = some (.float .f64 (hi j)) := (hB.out.cell (World.block_lt_of_cell? _ _ (h1 j hjk))).trans (h1 j hjk)
      have hg : g < wr.heap.size := World.block_lt_of_cell? _ _ a0
      have hji : (j : Int) < (k : Int) := by omega
      clear h0 h1
      have k18 := svalid (lo j) (hi j) (b0 j) (b1 j) (wr.alloc (.cells #[.float .f64 (lo j), .float .f64 (hi j)] 24))
      generalize hokj : vI (lo j) (hi j) = okj at *
      have HOK : Hid (vI (lo j) (hi j) = okj) := hokj
      clear hokj b0 b1
      go_wp2_with fail
      refine k18.mono ?_
      rintro r w1 ⟨rfl, hw1⟩
      have HB1 : Hid (Below w.heap.size w w1) := (hB.out.alloc hB.out.size _).trans (hw1.mono (by have := hB.out.size; simp; omega))
      clear hw1 k18
      cases okj
      · go_wp2
        go_ret
        refine ⟨congrArg Ending.returned (congrArg Value.bool ?_), HB1.out⟩
        rw [HA.out, decide_eq_false]
        intro h
        have := h j hjk
        rw [HOK.out] at this
        exact absurd this (by decide)
      · go_wp2
        exact ⟨⟨j + 1, by omega, by simp, HB1, (fun i hi' => by
          by_cases e1 : i = j
          · subst e1; exact HOK.out
          · exact hok.out i (by omega) : ∀ i, i < j + 1 → vI (lo i) (hi i) = true)⟩, by simp [intOf]; omega⟩
    · obtain rfl : j = k := by omega
      clear h0 h1
      go_wp2
      go_ret
      refine ⟨congrArg Ending.returned (congrArg Value.bool ?_), hB.out⟩
      rw [HA.out, decide_eq_true hok.out]
theorem box_cells_2x2 {w : World} {g : Nat} {a b c d : Value} {T : TypeId} (h : w.heap[g]? = some (.cells #[a, b, c, d] T (0, 0))) : w.cell? ⟨g, 0, none⟩ = some a ∧ w.cell? ⟨g, 1, none⟩ = some b ∧ w.cell? ⟨g, 2, none⟩ = some c ∧ w.cell? ⟨g, 3, none⟩ = some d := by
  simp [World.cell?, h]
/-- mayBe of two intervals that lie in a new row -/
theorem smaybe {a b c d g : Nat} {T : TypeId} {w : World} (h : w.heap[g]? = some (.cells #[.float .f64 a, .float .f64 b, .float .f64 c, .float .f64 d] T (0, 0)))
    (ha : a < 18446744073709551616) (hb : b < 18446744073709551616) (hc : c < 18446744073709551616) (hd : d < 18446744073709551616) :
    Calls Tryz.prog 39 #[.slice (some ⟨g, 0, none⟩) 2 2] w fun r w' => r = .returned (.bool (vI a b && vI c d)) ∧ Below w.heap.size w w' := by
  obtain ⟨x0, x1, x2, x3⟩ := box_cells_2x2 h
  have k := smaybe_1 g 2 (fun i => if i = 0 then a else c) (fun i => if i = 0 then b else d) w (by omega)
    (fun i hi => by rcases (show i = 0 ∨ i = 1 by omega) with rfl | rfl; exact x0; exact x2)
    (fun i hi => by rcases (show i = 0 ∨ i = 1 by omega) with rfl | rfl; exact x1; exact x3)
    (fun i => by split <;> assumption) (fun i => by split <;> assumption)
  have e : decide (∀ i, i < 2 → vI (if i = 0 then a else c) (if i = 0 then b else d) = true) = (vI a b && vI c d) := by
    rw [Bool.eq_iff_iff, decide_eq_true_eq, Bool.and_eq_true]
    constructor
    · intro h
      exact ⟨h 0 (by omega), h 1 (by omega)⟩
    · rintro ⟨h1, h2⟩ i hi
      rcases (show i = 0 ∨ i = 1 by omega) with rfl | rfl
      · exact h1
      · exact h2
  rw [e] at k
  exact k

theorem iv_info : (Tryz.prog.info? 24).map (·.size) = some 2 := by kernel_rfl
theorem sall (w : World) : Calls Tryz.prog 47 #[] w fun r w' => r = .returned (.agg #[.float .f64 18442240474082181120, .float .f64 9218868437227405312]) ∧ Below w.heap.size w w' := by
  go_enter Tryz.func47, Tryz.ntmps47
  go_wp2_with (first | (go_at_call 46; first | (with_reducible refine (cinf_p _).mono ?_; rintro r w' ⟨rfl, rfl⟩) | (with_reducible refine (cinf_m _).mono ?_; rintro r w' ⟨rfl, rfl⟩)))
  refine bodyPost_ret (results_cell_row rfl _ _ w.heap.size 24 #[.float .f64 18442240474082181120, .float .f64 9218868437227405312] (0, 0) _ rfl (heap_alloc_new _ _) Tryz.underlying24 rfl iv_info) rfl ?_
  exact ⟨rfl, (Below.refl _ _).alloc (Nat.le_refl _) _⟩
theorem sbetween (a b : Nat) (w : World) (ha : a < 18446744073709551616) (hb : b < 18446744073709551616) : Calls Tryz.prog 66 #[.float .f64 a, .float .f64 b] w fun r w' => r = .returned (.agg #[.float .f64 (pl a), .float .f64 (pl b)]) ∧ Below w.heap.size w w' := by
  have k1 := ppl a ha
  have k2 := ppl b hb
  generalize pl a = A at *
  generalize pl b = C at *
  go_enter Tryz.func66, Tryz.ntmps66
  go_wp2_with (first | (go_at_call 102; first | (with_reducible refine (k1 _).mono ?_; rintro r w' ⟨rfl, rfl⟩) | (with_reducible refine (k2 _).mono ?_; rintro r w' ⟨rfl, rfl⟩)))
  refine bodyPost_ret (results_cell_row rfl _ _ w.heap.size 24 #[.float .f64 A, .float .f64 C] (0, 0) _ rfl (heap_alloc_new _ _) Tryz.underlying24 rfl iv_info) rfl ?_
  exact ⟨rfl, (Below.refl _ _).alloc (Nat.le_refl _) _⟩
end Go.Proofs.YtnalhfcpcpondaaGreatDoor
/- Has and Within on both sides. -/
namespace Go.Proofs.YtnalhfcpcpondaaGreatDoor
set_option linter.unusedVariables false
set_option linter.unusedSimpArgs false
open Go.RowKit Go.Fl64
attribute [local go_sem] run_store_flt

set_option maxHeartbeats 2000000 in
theorem shas_1 (lo hi f : Nat) (v i p q : Bool) (w : World)
    (k1 : ∀ W, Calls Tryz.prog 43 #[.agg #[.float .f64 lo, .float .f64 hi]] W fun r w' => r = .returned (.bool v) ∧ Below W.heap.size W w')
    (k2 : ∀ W, Calls Tryz.prog 44 #[.float .f64 f, .int .i64 0] W fun r w' => r = .returned (.bool i) ∧ w' = W)
    (o1 : (FloatKind.f64.format.order lo f == some Ordering.lt || FloatKind.f64.format.order lo f == some Ordering.eq) = p) (o2 : (FloatKind.f64.format.order f hi == some Ordering.lt || FloatKind.f64.format.order f hi == some Ordering.eq) = q) :
    Calls Tryz.prog 12 #[.agg #[.float .f64 lo, .float .f64 hi], .float .f64 f] w fun r w' => r = .returned (.bool (v && !i && p && q)) ∧ Below w.heap.size w w' := by
  obtain ⟨W, hW⟩ : ∃ W, W = w.alloc (.cells #[.float .f64 lo, .float .f64 hi] 24) := ⟨_, rfl⟩
  have HX : Hid (Below w.heap.size w W ∧ W.heap[w.heap.size]? = some (.cells #[.float .f64 lo, .float .f64 hi] 24 (0, 0))) := ⟨by rw [hW]; exact (Below.refl _ _).alloc (Nat.le_refl _) _, by rw [hW]; exact heap_alloc_new _ _⟩
  have HK : Hid (∀ w', Below W.heap.size W w' → w'.cell? ⟨w.heap.size, 0, none⟩ = some (.float .f64 lo) ∧ w'.cell? ⟨w.heap.size, 1, none⟩ = some (.float .f64 hi)) := fun w' hb => box_cells2 (box_later HX.out.2 hb (lt_of_box HX.out.2))
  obtain ⟨c0, c1⟩ := HK.out W (Below.refl _ _)
  have kv := k1 W
  clear k1
  go_enter Tryz.func12, Tryz.ntmps12
  go_upto_region 1 with fail
  rw [← hW]
  clear hW
  go_wp2_with fail
  refine kv.mono ?_
  rintro r w1 ⟨rfl, hb1⟩
  clear c0 c1
  obtain ⟨c0, c1⟩ := HK.out w1 hb1
  have HB : Hid (Below w.heap.size w w1) := HX.out.1.trans (hb1.mono HX.out.1.size)
  clear hb1 HK HX kv
  cases v <;> cases i <;> cases p
  all_goals
    go_wp2_with (first | (go_at_call 44; refine (k2 _).mono ?_; rintro r w' ⟨rfl, rfl⟩))
    go_ret
    exact ⟨rfl, HB.out⟩
/-- whether a float lies in an interval -/
def hI (lo hi f : Nat) : Bool := vI lo hi && !lt 9218868437227405311 (mag f) && le lo f && le f hi
theorem shas (lo hi f : Nat) (h1 : lo < 18446744073709551616) (h2 : hi < 18446744073709551616) (h3 : f < 18446744073709551616) (w : World) :
    Calls Tryz.prog 12 #[.agg #[.float .f64 lo, .float .f64 hi], .float .f64 f] w fun r w' => r = .returned (.bool (hI lo hi f)) ∧ Below w.heap.size w w' :=
  shas_1 lo hi f _ _ _ _ w (fun W => svalid lo hi h1 h2 W) (fun W => c123 f h3 W) (ord_le lo f h1 h3) (ord_le f hi h3 h2)
set_option maxHeartbeats 2000000 in
theorem dhas_1 (lo hi f : Nat) (v i j p q : Bool) (w : World)
    (k1 : ∀ W, Calls Tryz.prog 40 #[.agg #[.float .f64 lo, .float .f64 hi]] W fun r w' => r = .returned (.bool v) ∧ Below W.heap.size W w')
    (o3 : (FloatKind.f64.format.order f 18442240474082181119 == some Ordering.gt || FloatKind.f64.format.order f 18442240474082181119 == some Ordering.eq) = i) (o4 : (FloatKind.f64.format.order f 9218868437227405311 == some Ordering.lt || FloatKind.f64.format.order f 9218868437227405311 == some Ordering.eq) = j) (o1 : (FloatKind.f64.format.order lo f == some Ordering.lt || FloatKind.f64.format.order lo f == some Ordering.eq) = p) (o2 : (FloatKind.f64.format.order f hi == some Ordering.lt || FloatKind.f64.format.order f hi == some Ordering.eq) = q) :
    Calls Tryz.prog 13 #[.agg #[.float .f64 lo, .float .f64 hi], .float .f64 f] w fun r w' => r = .returned (.bool (v && i && j && p && q)) ∧ Below w.heap.size w w' := by
  obtain ⟨W, hW⟩ : ∃ W, W = w.alloc (.cells #[.float .f64 lo, .float .f64 hi] 24) := ⟨_, rfl⟩
  have HX : Hid (Below w.heap.size w W ∧ W.heap[w.heap.size]? = some (.cells #[.float .f64 lo, .float .f64 hi] 24 (0, 0))) := ⟨by rw [hW]; exact (Below.refl _ _).alloc (Nat.le_refl _) _, by rw [hW]; exact heap_alloc_new _ _⟩
  have HK : Hid (∀ w', Below W.heap.size W w' → w'.cell? ⟨w.heap.size, 0, none⟩ = some (.float .f64 lo) ∧ w'.cell? ⟨w.heap.size, 1, none⟩ = some (.float .f64 hi)) := fun w' hb => box_cells2 (box_later HX.out.2 hb (lt_of_box HX.out.2))
  obtain ⟨c0, c1⟩ := HK.out W (Below.refl _ _)
  have kv := k1 W
  clear k1
  go_enter Tryz.func13, Tryz.ntmps13
  go_upto_region 1 with fail
  rw [← hW]
  clear hW
  go_wp2_with fail
  refine kv.mono ?_
  rintro r w1 ⟨rfl, hb1⟩
  clear c0 c1
  obtain ⟨c0, c1⟩ := HK.out w1 hb1
  have HB : Hid (Below w.heap.size w w1) := HX.out.1.trans (hb1.mono HX.out.1.size)
  clear hb1 HK HX kv
  cases v <;> cases i <;> cases j <;> cases p
  all_goals
    go_wp2
    go_ret
    exact ⟨rfl, HB.out⟩
theorem hI_d (lo hi f : Nat) (h3 : f < 18446744073709551616) : hI lo hi f = (vI lo hi && le 18442240474082181119 f && le f 9218868437227405311 && le lo f && le f hi) := by
  unfold hI
  cases hn : isNaN f
  · have e : (!lt 9218868437227405311 (mag f)) = (le 18442240474082181119 f && le f 9218868437227405311) := by
      have hm : isNaN (mag f) = false := by
        have h' : ¬ 9218868437227405312 < mag f := of_decide_eq_false hn
        unfold isNaN
        rw [show mag (mag f) = mag f by unfold mag; omega]
        exact decide_eq_false h'
      have hs : stp (mag f) = (mag f : Int) := by
        unfold stp sgn neg
        rw [show mag (mag f) = mag f by unfold mag; omega, if_neg (by have := mag_lt f; simp; omega)]
      unfold lt le
      rw [hn, hm, hs, show isNaN 18442240474082181119 = false by decide, show isNaN 9218868437227405311 = false by decide, show stp 18442240474082181119 = -9218868437227405311 by decide, show stp 9218868437227405311 = 9218868437227405311 by decide]
      simp only [Bool.not_false, Bool.true_and]
      rw [← decide_not, ← Bool.decide_and]
      refine decide_eq_decide.2 ?_
      unfold stp sgn
      have := mag_lt f
      split <;> omega
    rw [Bool.and_assoc (vI lo hi) (le 18442240474082181119 f), e]
  · have e : le lo f = false := by unfold le; rw [hn]; simp
    rw [e]
    simp
theorem dhas (lo hi f : Nat) (h1 : lo < 18446744073709551616) (h2 : hi < 18446744073709551616) (h3 : f < 18446744073709551616) (w : World) :
    Calls Tryz.prog 13 #[.agg #[.float .f64 lo, .float .f64 hi], .float .f64 f] w fun r w' => r = .returned (.bool (hI lo hi f)) ∧ Below w.heap.size w w' := by
  rw [hI_d lo hi f h3]
  exact dhas_1 lo hi f _ _ _ _ _ w (fun W => d8valid lo hi h1 h2 W) (ord_ge f _ h3 (by omega)) (ord_le f _ h3 (by omega)) (ord_le lo f h1 h3) (ord_le f hi h3 h2)
set_option maxHeartbeats 2000000 in
theorem swithin_1 (a b c d : Nat) (v p q : Bool) (w : World)
    (k1 : ∀ W g T, W.heap[g]? = some (.cells #[.float .f64 a, .float .f64 b, .float .f64 c, .float .f64 d] T (0, 0)) → Calls Tryz.prog 39 #[.slice (some ⟨g, 0, none⟩) 2 2] W fun r w' => r = .returned (.bool v) ∧ Below W.heap.size W w')
    (o1 : (FloatKind.f64.format.order c a == some Ordering.lt || FloatKind.f64.format.order c a == some Ordering.eq) = p) (o2 : (FloatKind.f64.format.order b d == some Ordering.lt || FloatKind.f64.format.order b d == some Ordering.eq) = q) :
    Calls Tryz.prog 14 #[.agg #[.float .f64 a, .float .f64 b], .agg #[.float .f64 c, .float .f64 d]] w fun r w' => r = .returned (.bool (v && p && q)) ∧ Below w.heap.size w w' := by
  obtain ⟨W, hW⟩ : ∃ W, W = (w.alloc (.cells #[.float .f64 a, .float .f64 b] 24)).alloc (.cells #[.float .f64 c, .float .f64 d] 24) := ⟨_, rfl⟩
  have HX : Hid (Below w.heap.size w W ∧ W.heap[w.heap.size]? = some (.cells #[.float .f64 a, .float .f64 b] 24 (0, 0)) ∧ W.heap[w.heap.size + 1]? = some (.cells #[.float .f64 c, .float .f64 d] 24 (0, 0))) := ⟨by rw [hW]; exact ((Below.refl _ _).alloc (Nat.le_refl _) _).alloc (by simp) _, by rw [hW]; exact (Below.heap_alloc _ _ _ (by simp)).trans (heap_alloc_new _ _), by rw [hW]; have := heap_alloc_new (w.alloc (.cells #[.float .f64 a, .float .f64 b] 24)) (.cells #[.float .f64 c, .float .f64 d] 24); simpa using this⟩
  have HK : Hid (∀ w', Below W.heap.size W w' → (w'.cell? ⟨w.heap.size, 0, none⟩ = some (.float .f64 a) ∧ w'.cell? ⟨w.heap.size, 1, none⟩ = some (.float .f64 b)) ∧ (w'.cell? ⟨w.heap.size + 1, 0, none⟩ = some (.float .f64 c) ∧ w'.cell? ⟨w.heap.size + 1, 1, none⟩ = some (.float .f64 d))) := fun w' hb => ⟨box_cells2 (box_later HX.out.2.1 hb (lt_of_box HX.out.2.1)), box_cells2 (box_later HX.out.2.2 hb (lt_of_box HX.out.2.2))⟩
  obtain ⟨⟨c0, c1⟩, c2, c3⟩ := HK.out W (Below.refl _ _)
  have H1 : Hid (∀ W g T, W.heap[g]? = some (.cells #[.float .f64 a, .float .f64 b, .float .f64 c, .float .f64 d] T (0, 0)) → Calls Tryz.prog 39 #[.slice (some ⟨g, 0, none⟩) 2 2] W fun r w' => r = .returned (.bool v) ∧ Below W.heap.size W w') := k1
  clear k1
  go_enter Tryz.func14, Tryz.ntmps14
  go_upto_region 1 with fail
  rw [← hW]
  clear hW
  go_wp2_with fail
  refine (H1.out _ _ _ (heap_alloc_new _ _)).mono ?_
  rintro r w1 ⟨rfl, hb1⟩
  clear c0 c1 c2 c3
  have hb2 : Below W.heap.size W w1 := ((Below.refl _ _).alloc (Nat.le_refl _) _).trans (hb1.mono (by simp))
  obtain ⟨⟨c0, c1⟩, c2, c3⟩ := HK.out w1 hb2
  have HB : Hid (Below w.heap.size w w1) := HX.out.1.trans (hb2.mono HX.out.1.size)
  clear hb1 hb2 HK HX H1
  cases v <;> cases p
  all_goals
    go_wp2
    go_ret
    exact ⟨rfl, HB.out⟩
/-- whether an interval lies in another one -/
def wI (a b c d : Nat) : Bool := vI a b && vI c d && le c a && le b d
theorem swithin (a b c d : Nat) (ha : a < 18446744073709551616) (hb : b < 18446744073709551616) (hc : c < 18446744073709551616) (hd : d < 18446744073709551616) (w : World) :
    Calls Tryz.prog 14 #[.agg #[.float .f64 a, .float .f64 b], .agg #[.float .f64 c, .float .f64 d]] w fun r w' => r = .returned (.bool (wI a b c d)) ∧ Below w.heap.size w w' :=
  swithin_1 a b c d _ _ _ w (fun W g T h => smaybe h ha hb hc hd) (ord_le c a hc ha) (ord_le b d hb hd)
set_option maxHeartbeats 2000000 in
theorem dwithin_1 (a b c d : Nat) (u v p q : Bool) (w : World)
    (k1 : ∀ W, Calls Tryz.prog 40 #[.agg #[.float .f64 a, .float .f64 b]] W fun r w' => r = .returned (.bool u) ∧ Below W.heap.size W w')
    (k2 : ∀ W, Calls Tryz.prog 40 #[.agg #[.float .f64 c, .float .f64 d]] W fun r w' => r = .returned (.bool v) ∧ Below W.heap.size W w')
    (o1 : (FloatKind.f64.format.order c a == some Ordering.lt || FloatKind.f64.format.order c a == some Ordering.eq) = p) (o2 : (FloatKind.f64.format.order b d == some Ordering.lt || FloatKind.f64.format.order b d == some Ordering.eq) = q) :
    Calls Tryz.prog 15 #[.agg #[.float .f64 a, .float .f64 b], .agg #[.float .f64 c, .float .f64 d]] w fun r w' => r = .returned (.bool (u && v && p && q)) ∧ Below w.heap.size w w' := by
  obtain ⟨W, hW⟩ : ∃ W, W = (w.alloc (.cells #[.float .f64 a, .float .f64 b] 24)).alloc (.cells #[.float .f64 c, .float .f64 d] 24) := ⟨_, rfl⟩
  have HX : Hid (Below w.heap.size w W ∧ W.heap[w.heap.size]? = some (.cells #[.float .f64 a, .float .f64 b] 24 (0, 0)) ∧ W.heap[w.heap.size + 1]? = some (.cells #[.float .f64 c, .float .f64 d] 24 (0, 0))) := ⟨by rw [hW]; exact ((Below.refl _ _).alloc (Nat.le_refl _) _).alloc (by simp) _, by rw [hW]; exact (Below.heap_alloc _ _ _ (by simp)).trans (heap_alloc_new _ _), by rw [hW]; have := heap_alloc_new (w.alloc (.cells #[.float .f64 a, .float .f64 b] 24)) (.cells #[.float .f64 c, .float .f64 d] 24); simpa using this⟩
  have HK : Hid (∀ w', Below W.heap.size W w' → (w'.cell? ⟨w.heap.size, 0, none⟩ = some (.float .f64 a) ∧ w'.cell? ⟨w.heap.size, 1, none⟩ = some (.float .f64 b)) ∧ (w'.cell? ⟨w.heap.size + 1, 0, none⟩ = some (.float .f64 c) ∧ w'.cell? ⟨w.heap.size + 1, 1, none⟩ = some (.float .f64 d))) := fun w' hb => ⟨box_cells2 (box_later HX.out.2.1 hb (lt_of_box HX.out.2.1)), box_cells2 (box_later HX.out.2.2 hb (lt_of_box HX.out.2.2))⟩
  obtain ⟨⟨c0, c1⟩, c2, c3⟩ := HK.out W (Below.refl _ _)
  have kv := k1 W
  have H2 : Hid (∀ W, Calls Tryz.prog 40 #[.agg #[.float .f64 c, .float .f64 d]] W fun r w' => r = .returned (.bool v) ∧ Below W.heap.size W w') := k2
  clear k1 k2
  go_enter Tryz.func15, Tryz.ntmps15
  go_upto_region 1 with fail
  rw [← hW]
  clear hW
  go_wp2_with fail
  refine kv.mono ?_
  rintro r w1 ⟨rfl, hb1⟩
  clear c0 c1 c2 c3 kv
  obtain ⟨⟨c0, c1⟩, c2, c3⟩ := HK.out w1 hb1
  cases u
  · have HB : Hid (Below w.heap.size w w1) := HX.out.1.trans (hb1.mono HX.out.1.size)
    clear hb1 HK HX H2
    go_wp2
    go_ret
    exact ⟨rfl, HB.out⟩
  have kv := H2.out w1
  have HB1 : Hid (Below W.heap.size W w1) := hb1
  clear hb1
  go_wp2_with fail
  refine kv.mono ?_
  rintro r w2 ⟨rfl, hb2⟩
  clear c0 c1 c2 c3 kv
  have hb3 : Below W.heap.size W w2 := HB1.out.trans (hb2.mono HB1.out.size)
  obtain ⟨⟨c0, c1⟩, c2, c3⟩ := HK.out w2 hb3
  have HB : Hid (Below w.heap.size w w2) := HX.out.1.trans (hb3.mono HX.out.1.size)
  clear hb2 hb3 HK HX H2 HB1
  cases v <;> cases p
  all_goals
    go_wp2
    go_ret
    exact ⟨rfl, HB.out⟩
theorem dwithin (a b c d : Nat) (ha : a < 18446744073709551616) (hb : b < 18446744073709551616) (hc : c < 18446744073709551616) (hd : d < 18446744073709551616) (w : World) :
    Calls Tryz.prog 15 #[.agg #[.float .f64 a, .float .f64 b], .agg #[.float .f64 c, .float .f64 d]] w fun r w' => r = .returned (.bool (wI a b c d)) ∧ Below w.heap.size w w' :=
  dwithin_1 a b c d _ _ _ _ w (fun W => d8valid a b ha hb W) (fun W => d8valid c d hc hd W) (ord_le c a hc ha) (ord_le b d hb hd)
end Go.Proofs.YtnalhfcpcpondaaGreatDoor
/- math.Max and math.Min, of floats that are no NaN. -/
namespace Go.Proofs.YtnalhfcpcpondaaGreatDoor
set_option linter.unusedVariables false
set_option linter.unusedSimpArgs false
open Go.RowKit Go.Fl64

/-- what a float that is no NaN reads as -/
theorem rd (x : Nat) (hx : x < 18446744073709551616) (nx : isNaN x = false) :
    (mag x = 9218868437227405312 ∧ FloatKind.f64.decode x = .infinity (neg x)) ∨ (mag x < 9218868437227405312 ∧ (FloatKind.f64.decode x).isInfinity = false ∧ (FloatKind.f64.decode x).isNaN = false ∧ (FloatKind.f64.decode x).neg = neg x ∧ (FloatKind.f64.decode x).isZero = decide (mag x = 0)) := by
  unfold FloatKind.decode
  rw [f64]
  have n' : ¬ 9218868437227405312 < mag x := of_decide_eq_false nx
  by_cases f : mag x < 9218868437227405312
  · obtain ⟨m, k, e, h⟩ := read_number x hx f
    refine .inr ⟨f, ?_⟩
    rw [e]
    refine ⟨rfl, rfl, rfl, ?_⟩
    have h2 : m = 0 ↔ mag x = 0 := by
      rw [← val_eq_zero (mag x), ← h]
      constructor
      · rintro rfl; simp
      · intro h3
        rcases Nat.mul_eq_zero.1 h3 with h4 | h4
        · exact h4
        · have := Nat.two_pow_pos k; omega
    rw [← decide_eq_decide.2 h2]
    cases m with
    | zero => rfl
    | succ n => simp [Ieee.Datum.isZero]
  · exact .inl ⟨by omega, read_infinity x hx (by omega)⟩
theorem inf_beq (s t : Bool) : ((Ieee.Datum.infinity s) == .infinity t) = (s == t) := by cases s <;> cases t <;> rfl
theorem not_inf {d : Ieee.Datum} (s : Bool) (h : d.isInfinity = false) : (d == .infinity s) = false := by
  cases d with
  | number _ _ _ => rfl
  | infinity t => simp [Ieee.Datum.isInfinity] at h
  | nan _ _ => rfl
theorem rd_inf (x : Nat) (s : Bool) (hx : x < 18446744073709551616) (nx : isNaN x = false) : (FloatKind.f64.decode x == .infinity s) = decide (stp x = if s then -9218868437227405312 else 9218868437227405312) := by
  rcases rd x hx nx with ⟨mx, dx⟩ | ⟨mx, x1, x2, x3, x4⟩
  · rw [dx, inf_beq]
    unfold stp sgn
    rw [mx]
    cases neg x <;> cases s <;> rfl
  · rw [not_inf s x1]
    symm
    apply decide_eq_false
    unfold stp sgn
    cases neg x <;> cases s <;> simp <;> omega
theorem rd_nan (x : Nat) (hx : x < 18446744073709551616) (nx : isNaN x = false) : (FloatKind.f64.decode x).isNaN = false := by
  rcases rd x hx nx with ⟨mx, dx⟩ | ⟨mx, x1, x2, x3, x4⟩
  · rw [dx]; rfl
  · exact x2
theorem rd_zero (x : Nat) (hx : x < 18446744073709551616) (nx : isNaN x = false) : (FloatKind.f64.decode x).isZero = decide (stp x = 0) := by
  rcases rd x hx nx with ⟨mx, dx⟩ | ⟨mx, x1, x2, x3, x4⟩
  · rw [dx]
    symm
    apply decide_eq_false
    unfold stp sgn
    rw [mx]
    cases neg x <;> simp
  · rw [x4]
    apply decide_eq_decide.2
    unfold stp sgn
    split <;> omega
theorem stp_eq {x y : Nat} (hx : x < 18446744073709551616) (hy : y < 18446744073709551616) (h : stp x = stp y) (h0 : stp x ≠ 0) : x = y :=
  stp_inj hx hy h (fun e => h0 (by rw [e]; decide)) (fun e => h0 (by rw [h, e]; decide))
theorem gt_cmp (x y : Int) : (some (compare x y) == some Ordering.gt) = decide (y < x) := by
  rcases Int.lt_trichotomy x y with h | h | h
  · rw [Fl64.cmp_lt h, decide_eq_false (by omega)]; rfl
  · rw [Fl64.cmp_eq h, decide_eq_false (by omega)]; rfl
  · rw [Fl64.cmp_gt h, decide_eq_true h]; rfl
theorem lt_cmp (x y : Int) : (some (compare x y) == some Ordering.lt) = decide (x < y) := by
  rcases Int.lt_trichotomy x y with h | h | h
  · rw [Fl64.cmp_lt h, decide_eq_true h]; rfl
  · rw [Fl64.cmp_eq h, decide_eq_false (by omega)]; rfl
  · rw [Fl64.cmp_gt h, decide_eq_false (by omega)]; rfl
theorem pick_max (s : String) (x y : Nat) (hx : x < 18446744073709551616) (hy : y < 18446744073709551616) (nx : isNaN x = false) (ny : isNaN y = false) :
    Extern.MathDim.pick s false .gt #[.float .f64 x, .float .f64 y] = pure (.float .f64 (fMax x y)) := by
  have ho : (FloatKind.f64.decode x).order (FloatKind.f64.decode y) = some (compare (stp x) (stp y)) := order_num x y hx hy nx ny
  have sx := nan_stp nx
  have sy := nan_stp ny
  have e0 : FloatKind.f64.encode (.infinity false) = 9218868437227405312 := by decide
  have e1 : stp 9218868437227405312 = 9218868437227405312 := by decide
  have e2 : 9218868437227405312 < 18446744073709551616 := by omega
  show (pure (Value.float .f64 (if FloatKind.f64.decode x == .infinity false || FloatKind.f64.decode y == .infinity false then FloatKind.f64.encode (.infinity false) else if (FloatKind.f64.decode x).isNaN || (FloatKind.f64.decode y).isNaN then 0x7FF8000000000001 else if (FloatKind.f64.decode x).isZero && (FloatKind.f64.decode y).isZero then (if (FloatKind.f64.decode x).neg == false then x else y) else if (FloatKind.f64.decode x).order (FloatKind.f64.decode y) == some .gt then x else y)) : Sem Value) = _
  congr 2
  rw [ho, gt_cmp, e0, rd_inf x false hx nx, rd_inf y false hy ny, rd_nan x hx nx, rd_nan y hy ny, rd_zero x hx nx, rd_zero y hy ny, dec_neg x hx nx]
  simp only [Bool.or_eq_true, Bool.and_eq_true, decide_eq_true_eq, Bool.or_self, Bool.false_eq_true, if_false, if_true]
  unfold fMax
  split
  · rename_i h
    rcases h with h | h
    · have hxe : x = 9218868437227405312 := stp_eq hx e2 (by omega) (by omega)
      rcases Int.lt_trichotomy (stp x) (stp y) with g | g | g
      · first | omega | rw [if_pos g, hxe]
      · have hye : y = 9218868437227405312 := stp_eq hy e2 (by omega) (by omega)
        rw [if_neg (by omega), if_neg (by omega), hxe, hye]; simp
      · first | omega | rw [if_neg (by omega), if_pos g, hxe]
    · have hye : y = 9218868437227405312 := stp_eq hy e2 (by omega) (by omega)
      rcases Int.lt_trichotomy (stp x) (stp y) with g | g | g
      · first | omega | rw [if_pos g, hye]
      · have hxe : x = 9218868437227405312 := stp_eq hx e2 (by omega) (by omega)
        rw [if_neg (by omega), if_neg (by omega), hxe, hye]; simp
      · first | omega | rw [if_neg (by omega), if_pos g, hye]
  · split
    · rename_i h0
      have g1 : ¬ stp x < stp y := by omega
      have g2 : ¬ stp y < stp x := by omega
      simp only [g1, g2, if_false]
      cases neg x <;> rfl
    · rename_i h0
      rcases Int.lt_trichotomy (stp x) (stp y) with g | g | g
      · have g2 : ¬ stp y < stp x := by omega
        simp only [g, g2, if_true, if_false]
      · have e : x = y := stp_eq hx hy g (by omega)
        subst e
        simp
      · have g2 : ¬ stp x < stp y := by omega
        simp only [g, g2, if_true, if_false]
theorem pick_min (s : String) (x y : Nat) (hx : x < 18446744073709551616) (hy : y < 18446744073709551616) (nx : isNaN x = false) (ny : isNaN y = false) :
    Extern.MathDim.pick s true .lt #[.float .f64 x, .float .f64 y] = pure (.float .f64 (fMin x y)) := by
  have ho : (FloatKind.f64.decode x).order (FloatKind.f64.decode y) = some (compare (stp x) (stp y)) := order_num x y hx hy nx ny
  have sx := nan_stp nx
  have sy := nan_stp ny
  have e0 : FloatKind.f64.encode (.infinity true) = 18442240474082181120 := by decide
  have e1 : stp 18442240474082181120 = -9218868437227405312 := by decide
  have e2 : 18442240474082181120 < 18446744073709551616 := by omega
  show (pure (Value.float .f64 (if FloatKind.f64.decode x == .infinity true || FloatKind.f64.decode y == .infinity true then FloatKind.f64.encode (.infinity true) else if (FloatKind.f64.decode x).isNaN || (FloatKind.f64.decode y).isNaN then 0x7FF8000000000001 else if (FloatKind.f64.decode x).isZero && (FloatKind.f64.decode y).isZero then (if (FloatKind.f64.decode x).neg == true then x else y) else if (FloatKind.f64.decode x).order (FloatKind.f64.decode y) == some .lt then x else y)) : Sem Value) = _
  congr 2
  rw [ho, lt_cmp, e0, rd_inf x true hx nx, rd_inf y true hy ny, rd_nan x hx nx, rd_nan y hy ny, rd_zero x hx nx, rd_zero y hy ny, dec_neg x hx nx]
  simp only [Bool.or_eq_true, Bool.and_eq_true, decide_eq_true_eq, Bool.or_self, Bool.false_eq_true, if_false, if_true]
  unfold fMin
  split
  · rename_i h
    rcases h with h | h
    · have hxe : x = 18442240474082181120 := stp_eq hx e2 (by omega) (by omega)
      rcases Int.lt_trichotomy (stp x) (stp y) with g | g | g
      · first | omega | rw [if_pos g, hxe]
      · have hye : y = 18442240474082181120 := stp_eq hy e2 (by omega) (by omega)
        rw [if_neg (by omega), if_neg (by omega), hxe, hye]; simp
      · first | omega | rw [if_neg (by omega), if_pos g, hxe]
    · have hye : y = 18442240474082181120 := stp_eq hy e2 (by omega) (by omega)
      rcases Int.lt_trichotomy (stp x) (stp y) with g | g | g
      · first | omega | rw [if_pos g, hye]
      · have hxe : x = 18442240474082181120 := stp_eq hx e2 (by omega) (by omega)
        rw [if_neg (by omega), if_neg (by omega), hxe, hye]; simp
      · first | omega | rw [if_neg (by omega), if_pos g, hye]
  · split
    · rename_i h0
      have g1 : ¬ stp x < stp y := by omega
      have g2 : ¬ stp y < stp x := by omega
      simp only [g1, g2, if_false]
      cases neg x <;> rfl
    · rename_i h0
      rcases Int.lt_trichotomy (stp x) (stp y) with g | g | g
      · have g2 : ¬ stp y < stp x := by omega
        simp only [g, g2, if_true, if_false]
      · have e : x = y := stp_eq hx hy g (by omega)
        subst e
        simp
      · have g2 : ¬ stp x < stp y := by omega
        simp only [g, g2, if_true, if_false]
theorem run_archMax (x y : Nat) (w : World) (hx : x < 18446744073709551616) (hy : y < 18446744073709551616) (nx : isNaN x = false) (ny : isNaN y = false) :
    (callFunc 80 #[.float .f64 x, .float .f64 y]).run Tryz.prog w = .ok (.value (.float .f64 (fMax x y))) w := by
  rw [run_callFunc_extern Tryz.func80 (e := Extern.MathDim.pick "math.archMax" false .gt) (by kernel_rfl) (by kernel_rfl) (by kernel_rfl) (by kernel_rfl), pick_max _ x y hx hy nx ny]
  rfl
theorem dmax (x y : Nat) (w : World) (hx : x < 18446744073709551616) (hy : y < 18446744073709551616) (nx : isNaN x = false) (ny : isNaN y = false) :
    Calls Tryz.prog 41 #[.float .f64 x, .float .f64 y] w fun r w' => r = .returned (.float .f64 (fMax x y)) ∧ w' = w := by
  have k := fun W => run_archMax x y W hx hy nx ny
  generalize fMax x y = m at *
  go_enter Tryz.func41, Tryz.ntmps41
  go_wp2
  go_ret
  exact ⟨rfl, rfl⟩
theorem run_archMin (x y : Nat) (w : World) (hx : x < 18446744073709551616) (hy : y < 18446744073709551616) (nx : isNaN x = false) (ny : isNaN y = false) :
    (callFunc 82 #[.float .f64 x, .float .f64 y]).run Tryz.prog w = .ok (.value (.float .f64 (fMin x y))) w := by
  rw [run_callFunc_extern Tryz.func82 (e := Extern.MathDim.pick "math.archMin" true .lt) (by kernel_rfl) (by kernel_rfl) (by kernel_rfl) (by kernel_rfl), pick_min _ x y hx hy nx ny]
  rfl
theorem dmin (x y : Nat) (w : World) (hx : x < 18446744073709551616) (hy : y < 18446744073709551616) (nx : isNaN x = false) (ny : isNaN y = false) :
    Calls Tryz.prog 42 #[.float .f64 x, .float .f64 y] w fun r w' => r = .returned (.float .f64 (fMin x y)) ∧ w' = w := by
  have k := fun W => run_archMin x y W hx hy nx ny
  generalize fMin x y = m at *
  go_enter Tryz.func42, Tryz.ntmps42
  go_wp2
  go_ret
  exact ⟨rfl, rfl⟩
end Go.Proofs.YtnalhfcpcpondaaGreatDoor
/- Boxes of intervals; the lesser and the greater of two floats, drawn or not. -/
namespace Go.Proofs.YtnalhfcpcpondaaGreatDoor
set_option linter.unusedVariables false
set_option linter.unusedSimpArgs false
open Go.RowKit Go.Fl64
attribute [local go_sem] run_store_flt

/-- an interval lies in a box -/
def IvB (W : World) (g : Nat) (a b : Nat) : Prop := W.heap[g]? = some (.cells #[.float .f64 a, .float .f64 b] 24 (0, 0))
/-- its cells -/
def IvF (W : World) (g : Nat) (a b : Nat) : Prop := W.cell? ⟨g, 0, none⟩ = some (.float .f64 a) ∧ W.cell? ⟨g, 1, none⟩ = some (.float .f64 b) ∧ W.frozen? ⟨g, 0, none⟩ = false ∧ W.frozen? ⟨g, 1, none⟩ = false
theorem IvB.facts {W : World} {g a b : Nat} (h : IvB W g a b) : IvF W g a b := by
  unfold IvB at h
  simp [IvF, World.cell?, World.frozen?, h]
theorem IvB.lt {W : World} {g a b : Nat} (h : IvB W g a b) : g < W.heap.size := lt_of_box h
theorem IvB.box {W w' : World} {g a b : Nat} (h : IvB W g a b) (hb : Below W.heap.size W w') : IvB w' g a b := box_later h hb h.lt
theorem IvB.later {W w' : World} {g a b : Nat} (h : IvB W g a b) (hb : Below W.heap.size W w') : IvF w' g a b := (h.box hb).facts
theorem IvB.new (w : World) (a b : Nat) : IvB (w.alloc (.cells #[.float .f64 a, .float .f64 b] 24)) w.heap.size a b := heap_alloc_new _ _
theorem IvB.alloc {W : World} {g a b : Nat} (h : IvB W g a b) (o : Obj) : IvB (W.alloc o) g a b := h.box ((Below.refl _ _).alloc (Nat.le_refl _) _)
theorem IvB.set {W : World} {g a b : Nat} (h : IvB W g a b) (c d : Nat) : IvB ((W.setCell ⟨g, 0, none⟩ (.float .f64 c)).setCell ⟨g, 1, none⟩ (.float .f64 d)) g c d := by
  unfold IvB at *
  simp [World.setCell, Array.getElem?_modify, h]
theorem below_store2 {B : Nat} {w w' : World} {g : Nat} (h : Below B w w') (hg : B ≤ g) (a b : Value) : Below B w ((w'.setCell ⟨g, 0, none⟩ a).setCell ⟨g, 1, none⟩ b) :=
  (h.setCell hg _).setCell hg _
theorem bxs1_0 (w : World) (a b : Nat) : Below w.heap.size w (w.alloc (.cells #[.float .f64 a, .float .f64 b] 24)) := (Below.refl _ _).alloc (Nat.le_refl _) _
theorem bxs1_1 (w : World) (a b : Nat) : IvB (w.alloc (.cells #[.float .f64 a, .float .f64 b] 24)) w.heap.size a b := IvB.new w a b
theorem bxs2_0 (w : World) (a b c d : Nat) : Below w.heap.size w ((w.alloc (.cells #[.float .f64 a, .float .f64 b] 24)).alloc (.cells #[.float .f64 c, .float .f64 d] 24)) := (bxs1_0 w a b).alloc (bxs1_0 w a b).size _
theorem bxs2_1 (w : World) (a b c d : Nat) : IvB ((w.alloc (.cells #[.float .f64 a, .float .f64 b] 24)).alloc (.cells #[.float .f64 c, .float .f64 d] 24)) w.heap.size a b := (bxs1_1 w a b).alloc _
theorem bxs2_2 (w : World) (a b c d : Nat) : IvB ((w.alloc (.cells #[.float .f64 a, .float .f64 b] 24)).alloc (.cells #[.float .f64 c, .float .f64 d] 24)) (w.heap.size + 1) c d := by
  have := IvB.new (w.alloc (.cells #[.float .f64 a, .float .f64 b] 24)) c d
  simpa using this
theorem bxs3_0 (w : World) (a b c d e f : Nat) : Below w.heap.size w (((w.alloc (.cells #[.float .f64 a, .float .f64 b] 24)).alloc (.cells #[.float .f64 c, .float .f64 d] 24)).alloc (.cells #[.float .f64 e, .float .f64 f] 24)) := (bxs2_0 w a b c d).alloc (bxs2_0 w a b c d).size _
theorem bxs3_1 (w : World) (a b c d e f : Nat) : IvB (((w.alloc (.cells #[.float .f64 a, .float .f64 b] 24)).alloc (.cells #[.float .f64 c, .float .f64 d] 24)).alloc (.cells #[.float .f64 e, .float .f64 f] 24)) w.heap.size a b := (bxs2_1 w a b c d).alloc _
theorem bxs3_2 (w : World) (a b c d e f : Nat) : IvB (((w.alloc (.cells #[.float .f64 a, .float .f64 b] 24)).alloc (.cells #[.float .f64 c, .float .f64 d] 24)).alloc (.cells #[.float .f64 e, .float .f64 f] 24)) (w.heap.size + 1) c d := (bxs2_2 w a b c d).alloc _
theorem bxs3_3 (w : World) (a b c d e f : Nat) : IvB (((w.alloc (.cells #[.float .f64 a, .float .f64 b] 24)).alloc (.cells #[.float .f64 c, .float .f64 d] 24)).alloc (.cells #[.float .f64 e, .float .f64 f] 24)) (w.heap.size + 1 + 1) e f := by
  have := IvB.new ((w.alloc (.cells #[.float .f64 a, .float .f64 b] 24)).alloc (.cells #[.float .f64 c, .float .f64 d] 24)) e f
  simpa using this

theorem max_any (x y : Nat) (hx : x < 18446744073709551616) (hy : y < 18446744073709551616) (W : World) : ∃ n W1, n < 18446744073709551616 ∧ (∀ ts t, (Builtin.max_ ts t #[.float .f64 x, .float .f64 y]).run Tryz.prog W = .ok (.float .f64 n) W1) ∧ Below W.heap.size W W1 ∧ (isNaN x = false → isNaN y = false → n = fMax x y) := by
  by_cases h : isNaN x = true ∨ isNaN y = true
  · refine ⟨(Question.nanMinMax .f64 true x y).cut (W.tape W.drawn (.nanMinMax .f64 true x y)), W.drew, ?_, ?_, (Below.refl _ _).drew, ?_⟩
    · simp only [Question.cut]; omega
    · intro ts t
      have ho : FloatKind.f64.format.order x y = none := by
        rw [f64]
        rcases h with h | h
        · exact order_nan_left x y h
        · exact order_nan_right x y h
      simp [Builtin.max_, Builtin.max2, ho, Question.forced]
    · intro h1 h2
      rw [h1, h2] at h
      simp at h
  · have h1 : isNaN x = false := by cases e : isNaN x; rfl; exact absurd (.inl e) h
    have h2 : isNaN y = false := by cases e : isNaN y; rfl; exact absurd (.inr e) h
    exact ⟨fMax x y, W, fMax_lt hx hy, fun ts t => run_fmax W ts t x y hx hy h1 h2, Below.refl _ _, fun _ _ => rfl⟩
theorem min_any (x y : Nat) (hx : x < 18446744073709551616) (hy : y < 18446744073709551616) (W : World) : ∃ n W1, n < 18446744073709551616 ∧ (∀ ts t, (Builtin.min_ ts t #[.float .f64 x, .float .f64 y]).run Tryz.prog W = .ok (.float .f64 n) W1) ∧ Below W.heap.size W W1 ∧ (isNaN x = false → isNaN y = false → n = fMin x y) := by
  by_cases h : isNaN x = true ∨ isNaN y = true
  · refine ⟨(Question.nanMinMax .f64 false x y).cut (W.tape W.drawn (.nanMinMax .f64 false x y)), W.drew, ?_, ?_, (Below.refl _ _).drew, ?_⟩
    · simp only [Question.cut]; omega
    · intro ts t
      have ho : FloatKind.f64.format.order x y = none := by
        rw [f64]
        rcases h with h | h
        · exact order_nan_left x y h
        · exact order_nan_right x y h
      simp [Builtin.min_, Builtin.min2, ho, Question.forced]
    · intro h1 h2
      rw [h1, h2] at h
      simp at h
  · have h1 : isNaN x = false := by cases e : isNaN x; rfl; exact absurd (.inl e) h
    have h2 : isNaN y = false := by cases e : isNaN y; rfl; exact absurd (.inr e) h
    exact ⟨fMin x y, W, fMin_lt hx hy, fun ts t => run_fmin W ts t x y hx hy h1 h2, Below.refl _ _, fun _ _ => rfl⟩
theorem vI_nn {a b : Nat} (h : vI a b = true) : isNaN a = false ∧ isNaN b = false := by
  unfold vI le at h
  simp only [Bool.and_eq_true, Bool.not_eq_true'] at h
  exact h.1.1.1.1.1
end Go.Proofs.YtnalhfcpcpondaaGreatDoor
