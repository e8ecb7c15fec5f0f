/- Own work: contracts of the program's functions, part 11: UA3 UA4 UA5 UA6 UA7 SB1 SB2 SB3 SC1 RY6 SC2 SP5 SQ2 RY7 SD1 SQ3 SQ1 RE1 RE3 RE4 SD2 UA8 UA9 UB1 UB2 UB3 SB4 SB5 SH5 SB6 SH6 SH7 SH8 SH9 SI1 SI2 SI3 SI4 UB4 HX W46 W47 W48 RE2 RE5 RE6 RD2 L12 L15 SE1 SE2 SB7 SE3 SF1 SF2 SF3 SF4 SP1. -/
import Derived.Test.YtcoclopllbfjcaaGreatDoorA10
import Derived.Shelf.Abstract
import Derived.Shelf.RegionOpen
import Derived.WalkKit
import Derived.OwnWalkIn
import Derived.TacticsInMore
import Derived.LoopNIn
import Derived.LoopIn
import Derived.Test.YtcoclopllbfjcaaGreatDoorA9
import Derived.Test.YtcoclopllbfjcaaGreatDoorA5
import Derived.Test.YtcoclopllbfjcaaGreatDoorA7
import Derived.Test.YtcoclopllbfjcaaGreatDoorA8
import Derived.Test.YtcoclopllbfjcaaGreatDoorA14
import Derived.Test.YtcoclopllbfjcaaGreatDoorA3
import Derived.Test.YtcoclopllbfjcaaGreatDoorA6
import Derived.Lib.ItoaNum
import Derived.Test.YtcoclopllbfjcaaGreatDoorA2

/- The iterator over a list's floats, as exact numbers. -/
namespace Go.Proofs.YtcoclopllbfjcaaGreatDoor
set_option linter.unusedVariables false
set_option linter.unusedSimpArgs false
open Go Go.RowKit Go.Fl64 Go.Shelf
attribute [local go_sem] Oper.semAt_some

/-- a list of floats in memory -/
def FAt (w : World) (ao : Option Addr) (len : Nat) (xs : Nat → Nat) : Prop := ∃ b off, (0 < len → ao = some ⟨b, off, none⟩) ∧ ∀ j, j < len → w.cell? ⟨b, off + j, none⟩ = some (.float .f64 (xs j))
theorem FAt.later {w w' : World} {ao : Option Addr} {len : Nat} {xs : Nat → Nat} (h : FAt w ao len xs) (hb : Below w.heap.size w w') : FAt w' ao len xs := by
  obtain ⟨b, off, h1, h2⟩ := h
  refine ⟨b, off, h1, fun j hj => ?_⟩
  have := h2 j hj
  have hlt : b < w.heap.size := by
    unfold World.cell? at this
    rcases Nat.lt_or_ge b w.heap.size with h | h
    · exact h
    · rw [Array.getElem?_eq_none h] at this
      simp at this
  exact (hb.cell (p := ⟨b, off + j, none⟩) hlt).trans this

end Go.Proofs.YtcoclopllbfjcaaGreatDoor
/- The exact sum of a list's floats. -/
namespace Go.Proofs.YtcoclopllbfjcaaGreatDoor
set_option linter.unusedVariables false
set_option linter.unusedSimpArgs false
open Go Go.RowKit Go.Fl64 Go.Shelf
attribute [local go_sem] Oper.semAt_some

/-- the sum of the first floats of a list, in its one form -/
def tSum (xs : Nat → Nat) : Nat → Bool × Nat × Int
  | 0 => (false, 0, 0)
  | k + 1 => tS (tSum xs k) (tF (xs k))

theorem cell_put {W : World} {l : Nat} {o o' : Obj} {p : Addr} {v : Value} (h : W.cell? p = some v) (hl : W.heap[l]? = some o) (ho : o.isCells = false) : (W.putObj l o').cell? p = some v := by
  unfold World.cell? at *
  by_cases e : p.block = l
  · rw [e, hl] at h
    cases o <;> simp_all [Obj.isCells]
  · rw [World.putObj_heap_other e]; exact h
theorem pn_put {W : World} {l : Nat} {o o' : Obj} {A : Value} {t : Bool × Nat × Int} (h : PN W A t) (hl : W.heap[l]? = some o) (ho : o.isCells = false) : PN (W.putObj l o') A t := by
  obtain ⟨ao, cap, h1, ao', cap', h2, h3, h4, b, off, h5, h6⟩ := h
  exact ⟨ao, cap, h1, ao', cap', h2, h3, h4, b, off, h5, fun i hi => cell_put (h6 i hi) hl ho⟩
theorem box_put {W : World} {l g : Nat} {o o' : Obj} {c : Array Value} {ty : TypeId} {z : Nat × Nat} (h : W.heap[g]? = some (.cells c ty z)) (hl : W.heap[l]? = some o) (ho : o.isCells = false) : (W.putObj l o').heap[g]? = some (.cells c ty z) := by
  have e : g ≠ l := by
    intro e
    rw [e, hl] at h
    cases h
    cases ho
  rw [World.putObj_heap_other e]; exact h
/-- what holds between two rounds: the result's box is empty, the sum's box holds the sum so far -/
def TotI (w : World) (B g3 : Nat) (xs : Nat → Nat) (k : Nat) (W : World) : Prop :=
  Below w.heap.size w W ∧ B ≤ W.heap.size ∧ W.heap[w.heap.size]? = some (.cells #[.bool false, .slice none 0 0, .int .i64 0] 96 (0, 0)) ∧ ∃ s ao n cap e, W.heap[g3]? = some (.cells #[.bool s, .slice ao n cap, .int .i64 e] 96 (0, 0)) ∧ PN W (.agg #[.bool s, .slice ao n cap, .int .i64 e]) (tSum xs k)
theorem TotI.later {w : World} {B g3 : Nat} {xs : Nat → Nat} {k : Nat} {A C : World} (h : TotI w B g3 xs k A) (hb : Below A.heap.size A C) : TotI w B g3 xs k C := by
  obtain ⟨h1, h2, h3, s, ao, n, cap, e, h4, h5⟩ := h
  exact ⟨h1.trans (hb.mono h1.size), Nat.le_trans h2 hb.size, box_later h3 hb (lt_of_box h3), s, ao, n, cap, e, box_later h4 hb (lt_of_box h4), h5.later hb⟩
theorem TotI.put {w : World} {B g3 : Nat} {xs : Nat → Nat} {k l : Nat} {A : World} {o o' : Obj} (h : TotI w B g3 xs k A) (hB : w.heap.size ≤ B) (hl : B ≤ l) (ho : A.heap[l]? = some o) (hc : o.isCells = false) : TotI w B g3 xs k (A.putObj l o') := by
  obtain ⟨h1, h2, h3, s, ao, n, cap, e, h4, h5⟩ := h
  have hb : Below w.heap.size A (A.putObj l o') := (Below.refl w.heap.size A).grown (grownBy_putObj' A l o') (by have := (Array.getElem?_eq_some_iff.1 ho).1; omega) (fun k e => by cases e; omega)
  exact ⟨h1.trans hb, Nat.le_trans h2 hb.size, box_put h3 ho hc, s, ao, n, cap, e, box_put h4 ho hc, pn_put h5 ho hc⟩
theorem KeepsFrom.below {B : Nat} {W W' : World} (h : Below W.heap.size W W') : KeepsFrom B W W' := ⟨h.size, fun k o _ hk _ => box_later hk h (Array.getElem?_eq_some_iff.1 hk).1⟩

end Go.Proofs.YtcoclopllbfjcaaGreatDoor
/- sums.taken, sums.finite, sums.near. -/
namespace Go.Proofs.YtcoclopllbfjcaaGreatDoor
set_option linter.unusedVariables false
set_option linter.unusedSimpArgs false
open Go.RowKit Go.Fl64

/-- a number of the program in its box, made since a world -/
def UxP (w3 wc : World) (g : Nat) (s : Bool) (ao : Option Addr) (n cap : Nat) (ex : Int) (t : Bool × Nat × Int) : Prop := wc.heap[g]? = some (.cells #[.bool s, .slice ao n cap, .int .i64 ex] 96 (0, 0)) ∧ w3.heap.size ≤ g ∧ Below w3.heap.size w3 wc ∧ PN wc (.agg #[.bool s, .slice ao n cap, .int .i64 ex]) t
theorem UxP.new {w3 w7 : World} {s : Bool} {ao : Option Addr} {n cap : Nat} {ex : Int} {t : Bool × Nat × Int} (hn : PN w7 (.agg #[.bool s, .slice ao n cap, .int .i64 ex]) t) (hb : Below w3.heap.size w3 w7) : UxP w3 (w7.alloc (.cells #[.bool s, .slice ao n cap, .int .i64 ex] 96)) w7.heap.size s ao n cap ex t :=
  ⟨heap_alloc_new _ _, hb.size, hb.alloc hb.size _, hn.later ((Below.refl _ _).alloc (Nat.le_refl _) _)⟩
theorem UxP.put {w3 w7 : World} {g : Nat} {s : Bool} {ao : Option Addr} {n cap : Nat} {ex : Int} {t : Bool × Nat × Int} (hn : PN w7 (.agg #[.bool s, .slice ao n cap, .int .i64 ex]) t) (hb : Below w3.heap.size w3 w7) (hg : w3.heap.size ≤ g) (hbx : w7.heap[g]? = some (.cells #[.bool false, .slice none 0 0, .int .i64 0] 96 (0, 0))) :
    UxP w3 (((w7.setCell ⟨g, 0, none⟩ (.bool s)).setCell ⟨g, 1, none⟩ (.slice ao n cap)).setCell ⟨g, 2, none⟩ (.int .i64 ex)) g s ao n cap ex t :=
  ⟨store3 _ _ _ hbx, hg, below_store3 hb hg _ _ _, pn_store hn hbx _ _ _⟩

end Go.Proofs.YtcoclopllbfjcaaGreatDoor
/- sums.finite, sums.near, sums.floats, sums.Two. -/
namespace Go.Proofs.YtcoclopllbfjcaaGreatDoor
set_option linter.unusedVariables false
set_option linter.unusedSimpArgs false
open Go.RowKit Go.Fl64

end Go.Proofs.YtcoclopllbfjcaaGreatDoor
/- The sum of two floats to the nearest, as a function; sums.near and the document's add. -/
namespace Go.Proofs.YtcoclopllbfjcaaGreatDoor
set_option linter.unusedVariables false
set_option linter.unusedSimpArgs false
open Go.RowKit Go.Fl64

theorem lk_or {n X : Nat} (h : lk n X) : n = X ∨ (isNaN n = true ∧ isNaN X = true) := by
  cases hn : isNaN X
  · exact .inl (h.eq hn)
  · cases h2 : isNaN n
    · have := h.2
      unfold same at this
      rw [hn, h2] at this
      have e : n = X := by simp at this; omega
      rw [e, hn] at h2
      cases h2
    · exact .inr ⟨rfl, rfl⟩
end Go.Proofs.YtcoclopllbfjcaaGreatDoor
/- The program's Div of floats where something is to be rounded. -/
namespace Go.Proofs.YtcoclopllbfjcaaGreatDoor
set_option linter.unusedVariables false
set_option linter.unusedSimpArgs false
open Go.RowKit Go.Fl64

/-- how many digits are laid behind the dividend -/
def rtK (t1 t2 : Bool × Nat × Int) : Nat := (max 0 (64 + (bl t2.2.1 : Int) - (bl t1.2.1 : Int))).toNat
/-- the quotient, rounded -/
def rtF (t1 t2 : Bool × Nat × Int) (m : Int) : Nat := tfF (t1.1 != t2.1) (decide (t1.2.1 * 2 ^ rtK t1 t2 % t2.2.1 = 0)) (t1.2.1 * 2 ^ rtK t1 t2 / t2.2.1) (t1.2.2 - t2.2.2 - rtK t1 t2) m
theorem pratio {t1 t2 : Bool × Nat × Int} {X Y : Value} {m : Int} {w : World} (hT : Tab32 w) (o1 : Ok t1) (o2 : Ok t2) (h1 : PN w X t1) (h2 : PN w Y t2) (x0 : t1.2.1 ≠ 0) (y0 : t2.2.1 ≠ 0) (hm : 1 ≤ m ∧ m ≤ 3) :
    Calls Tryz.prog 89 #[X, Y, .int .i64 m] w fun r w' => r = .returned (.tuple #[.float .f64 (rtF t1 t2 m), .int .i64 0]) ∧ Below w.heap.size w w' := by
  obtain ⟨pa, pc, rfl, i1⟩ := h1
  obtain ⟨qa, qc, rfl, i2⟩ := h2
  have f1 := o1.facts
  have f2 := o2.facts
  have bx := bl_le_dlen t1.2.1
  have by' := bl_le_dlen t2.2.1
  have hn0 : ((dlen t1.2.1 : Int) == 0) = false := by
    have : dlen t1.2.1 ≠ 0 := fun e => x0 (dlen_eq_zero.1 e)
    simp; omega
  have hn1 : ((dlen t2.2.1 : Int) == 0) = false := by
    have : dlen t2.2.1 ≠ 0 := fun e => y0 (dlen_eq_zero.1 e)
    simp; omega
  have hk : max 0 (64 + (bl t2.2.1 : Int) - (bl t1.2.1 : Int)) = (rtK t1 t2 : Int) := by unfold rtK; omega
  refine pratio_1 t1.1 t2.1 pa qa _ pc _ qc _ _ (rtK t1 t2) (bl t1.2.1) (bl t2.2.1) t1.2.2 t2.2.2 m (t1.1 != t2.1) w (rfl : (!(t1.1 == t2.1)) = (t1.1 != t2.1)) hT i1 i2 (by omega) (by omega) y0 (by omega) (by omega) (by omega) (by omega) (by omega) rfl rfl (by omega) (by omega) hk (by omega) hn0 hn1 (fun W' g hW' hg => ?_)
  have := maybe2 hg (i1.later hW') (i2.later hW') (by omega) (by omega)
  rw [show okN t1.1 (dlen t1.2.1) t1.2.1 t1.2.2 = true from o1, show okN t2.1 (dlen t2.2.1) t2.2.1 t2.2.2 = true from o2] at this
  exact this

theorem ne_nought {a : Nat} (ha : a < 18446744073709551616) (hf : mag a < 9218868437227405312) : (FloatKind.f64.format.order a 0 != some Ordering.eq) = decide (mag a ≠ 0) := by
  rw [bne, ord_eq a 0 ha (by decide)]
  have na : isNaN a = false := by unfold isNaN; simp; omega
  have nb : isNaN 0 = false := by decide
  unfold Fl64.eq
  rw [na, nb]
  have e0 : stp 0 = 0 := by decide
  rw [e0]
  by_cases h : mag a = 0
  · have : stp a = 0 := by unfold stp sgn; rw [h]; simp
    simp [this, h]
  · have : stp a ≠ 0 := by unfold stp sgn; split <;> omega
    simp [this, h]
theorem pplain_y (a : Nat) (ha : a < 18446744073709551616) (hf : mag a < 9218868437227405312) (h0 : mag a ≠ 0) (w : World) : Calls Tryz.prog 82 #[.float .f64 a] w fun r w' => r = .returned (.bool true) ∧ w' = w := by
  have k := pfin_y a ha hf
  have he := ne_nought ha hf
  rw [decide_eq_true h0] at he
  clear ha hf h0
  go_enter Tryz.func82, Tryz.ntmps82
  go_wp2_with (go_at_call 118; refine (k _).mono ?_; rintro e w' ⟨rfl, rfl⟩)
  go_ret
  exact ⟨rfl, rfl⟩
theorem pplain_z (a : Nat) (ha : a < 18446744073709551616) (h0 : mag a = 0) (w : World) : Calls Tryz.prog 82 #[.float .f64 a] w fun r w' => r = .returned (.bool false) ∧ w' = w := by
  have k := pfin_y a ha (by omega)
  have he := ne_nought ha (by omega)
  rw [decide_eq_false (by omega)] at he
  clear ha h0
  go_enter Tryz.func82, Tryz.ntmps82
  go_wp2_with (go_at_call 118; refine (k _).mono ?_; rintro e w' ⟨rfl, rfl⟩)
  go_ret
  exact ⟨rfl, rfl⟩
theorem pplain_n (a : Nat) (ha : a < 18446744073709551616) (hf : ¬ mag a < 9218868437227405312) (w : World) : Calls Tryz.prog 82 #[.float .f64 a] w fun r w' => r = .returned (.bool false) ∧ w' = w.drew := by
  have k := pfin_n a ha hf w
  clear ha hf
  go_enter Tryz.func82, Tryz.ntmps82
  go_wp2_with fail
  refine k.mono ?_
  rintro e w' ⟨rfl, hw⟩
  rw [hw]
  clear hw k w'
  go_wp2
  go_ret
  exact ⟨rfl, rfl⟩

set_option maxHeartbeats 4000000 in
set_option maxRecDepth 200000 in
theorem pdiv_r (a b F : Nat) (m : Int) (ta tb : Bool × Nat × Int) (w : World) (hm : isM m = true)
    (hfa : ∀ W, Calls Tryz.prog 82 #[.float .f64 a] W fun r w' => r = .returned (.bool true) ∧ w' = W)
    (hfb : ∀ W, Calls Tryz.prog 82 #[.float .f64 b] W fun r w' => r = .returned (.bool true) ∧ w' = W)
    (kA : Calls Tryz.prog 85 #[.float .f64 a] w fun r w' => OutA w ta r w')
    (kB : ∀ W, Below w.heap.size w W → Calls Tryz.prog 85 #[.float .f64 b] W fun r w' => OutA W tb r w')
    (kC : ∀ W X Y, Below w.heap.size w W → PN W X ta → PN W Y tb → Calls Tryz.prog 89 #[X, Y, .int .i64 m] W fun r w' => r = .returned (.tuple #[.float .f64 F, .int .i64 0]) ∧ Below W.heap.size W w') :
    Calls Tryz.prog 43 #[.float .f64 a, .float .f64 b, .int .i64 m] w fun r w' => r = .returned (.float .f64 F) ∧ Below w.heap.size w w' := by
  have kV := pvalid m w
  rw [hm] at kV
  have HKB : Hid (∀ W, Below w.heap.size w W → Calls Tryz.prog 85 #[.float .f64 b] W fun r w' => OutA W tb r w') := kB
  have HKC : Hid (∀ W X Y, Below w.heap.size w W → PN W X ta → PN W Y tb → Calls Tryz.prog 89 #[X, Y, .int .i64 m] W fun r w' => r = .returned (.tuple #[.float .f64 F, .int .i64 0]) ∧ Below W.heap.size W w') := kC
  clear kB kC
  go_enter Tryz.func43, Tryz.ntmps43
  go_wp2_with fail
  refine kV.mono ?_
  rintro r w' ⟨rfl, hw⟩
  rw [hw]
  clear hw kV
  have kN := hfa w
  go_wp2_with fail
  refine kN.mono ?_
  rintro r w' ⟨rfl, hw⟩
  rw [hw]
  clear hw kN hfa
  have kN := hfb w
  go_wp2_with fail
  refine kN.mono ?_
  rintro r w' ⟨rfl, hw⟩
  rw [hw]
  clear hw kN hfb
  go_wp2_with fail
  refine kA.mono ?_
  rintro r w1 ⟨s1, ao1, n1, cap1, ex1, rfl, hP1, hb1⟩
  have k2 := HKB.out w1 hb1
  clear kA
  go_wp2_with fail
  refine k2.mono ?_
  rintro r w2 ⟨s2, ao2, n2, cap2, ex2, rfl, hP2, hb2⟩
  have HB2 : Hid (Below w.heap.size w w2) := hb1.trans (hb2.mono hb1.size)
  have k3 := HKC.out w2 _ _ HB2.out (hP1.later hb2) hP2
  clear k2 hP1 hP2 hb1 hb2
  go_wp2_with fail
  refine k3.mono ?_
  rintro r w3 ⟨rfl, hb3⟩
  have HB3 : Hid (Below w.heap.size w w3) := HB2.out.trans (hb3.mono HB2.out.size)
  clear k3 hb3
  go_wp2_with fail
  go_ret
  exact ⟨rfl, HB3.out⟩

/-- Div of two floats that are finite and not nought -/
theorem pdiv_ok (a b : Nat) (m : Int) (w : World) (hm : isM m = true) (hT : Tab32 w) (hI : Ie.Tab w) (ha : a < 18446744073709551616) (hb : b < 18446744073709551616) (hfa : mag a < 9218868437227405312) (hfb : mag b < 9218868437227405312) (ha0 : mag a ≠ 0) (hb0 : mag b ≠ 0) (xa : (tF a).2.1 ≠ 0) (xb : (tF b).2.1 ≠ 0) :
    Calls Tryz.prog 43 #[.float .f64 a, .float .f64 b, .int .i64 m] w fun r w' => r = .returned (.float .f64 (rtF (tF a) (tF b) m)) ∧ Below w.heap.size w w' :=
  pdiv_r a b _ m (tF a) (tF b) w hm (pplain_y a ha hfa ha0) (pplain_y b hb hfb hb0) (exact_ok a ha hfa w hT hI) (fun W h => exact_ok b hb hfb W (hT.later h) (Tab.later hI h)) (fun W X Y h h1 h2 => pratio (hT.later h) (tF_ok a) (tF_ok b) h1 h2 xa xb (isM_iff.1 hm))
theorem tF_ne {a : Nat} (h : mag a ≠ 0) : (tF a).2.1 ≠ 0 := by
  have h1 := Ie.mant_ne h
  unfold tF cn
  rw [if_neg h1]
  intro e
  have := (tz_spec _ _ (Nat.le_refl _) h1).2
  simp only at e
  rw [e] at this
  simp at this
end Go.Proofs.YtcoclopllbfjcaaGreatDoor
/- The program's Hypot of finite floats. -/
namespace Go.Proofs.YtcoclopllbfjcaaGreatDoor
set_option linter.unusedVariables false
set_option linter.unusedSimpArgs false
open Go.RowKit Go.Fl64

end Go.Proofs.YtcoclopllbfjcaaGreatDoor
/- Hypot of 3 and 4, and a float made whole: what the law's own test asks. -/
namespace Go.Proofs.YtcoclopllbfjcaaGreatDoor
set_option linter.unusedVariables false
set_option linter.unusedSimpArgs false
open Go.RowKit Go.Fl64

/-- the product of two numbers, in its one form -/
def tM (t1 t2 : Bool × Nat × Int) : Bool × Nat × Int := cn (!(t1.1 == t2.1)) (t1.2.1 * t2.2.1) (t1.2.2 + t2.2.2)
theorem tM_ok {t1 t2 : Bool × Nat × Int} (h : okR (!(t1.1 == t2.1)) (t1.2.1 * t2.2.1) (t1.2.2 + t2.2.2) = true) : Ok (tM t1 t2) := ok_cn h
end Go.Proofs.YtcoclopllbfjcaaGreatDoor
/- The program's Mul and Div of floats, in every case. -/
namespace Go.Proofs.YtcoclopllbfjcaaGreatDoor
set_option linter.unusedVariables false
set_option linter.unusedSimpArgs false
open Go.RowKit Go.Fl64

/-- how an operation of the machine answers: in every world the same float, or a NaN that is drawn -/
def Rn (op : BinOp) (a b F : Nat) : Prop := (∀ W, (binOp op 22 (.float .f64 a) (.float .f64 b)).run Tryz.prog W = .ok (.float .f64 F) W) ∨ ∀ W, ∃ n, lk n F ∧ (binOp op 22 (.float .f64 a) (.float .f64 b)).run Tryz.prog W = .ok (.float .f64 n) W.drew
theorem rn_of {op : BinOp} {a b F : Nat} (hop : op = .add ∨ op = .sub ∨ op = .mul ∨ op = .quo) (h : (floatBits op .f64 a b = none ∧ isNaN F = true) ∨ floatBits op .f64 a b = some F) : Rn op a b F := by
  rcases h with ⟨h1, h2⟩ | h1
  · refine .inr fun W => ?_
    obtain ⟨n, n1, n2, hs⟩ := run_nan (P := Tryz.prog) W op 22 a b hop h1
    exact ⟨n, lk.nan n1 n2 h2, hs⟩
  · exact .inl fun W => run_float_arith W op 22 .f64 a b _ h1
theorem pplain_f (a : Nat) (ha : a < 18446744073709551616) (h : pln a = false) (w : World) : Calls Tryz.prog 82 #[.float .f64 a] w fun r w' => r = .returned (.bool false) ∧ Below w.heap.size w w' := by
  rcases pln_false.1 h with h | h
  · exact (pplain_n a ha h w).mono fun r w' ⟨e, hw⟩ => ⟨e, hw ▸ (Below.refl _ _).drew⟩
  · exact (pplain_z a ha h w).mono fun r w' ⟨e, hw⟩ => ⟨e, hw ▸ Below.refl _ _⟩
theorem pplain_t (a : Nat) (ha : a < 18446744073709551616) (h : pln a = true) (w : World) : Calls Tryz.prog 82 #[.float .f64 a] w fun r w' => r = .returned (.bool true) ∧ w' = w := pplain_y a ha (pln_true.1 h).1 (pln_true.1 h).2 w

theorem pmul_no (a b : Nat) (m : Int) (w : World) (hm : isM m = false) : Calls Tryz.prog 36 #[.float .f64 a, .float .f64 b, .int .i64 m] w fun r w' => r = .returned (.float .f64 9221120237041090561) ∧ Below w.heap.size w w' := by
  have kV := pvalid m w
  rw [hm] at kV
  go_enter Tryz.func36, Tryz.ntmps36
  go_wp2_with fail
  refine kV.mono ?_
  rintro r w' ⟨rfl, hw⟩
  rw [hw]
  clear hw kV w'
  have kN := Ie.c52 w
  go_wp2_with fail
  refine kN.mono ?_
  rintro r w' ⟨rfl, hw⟩
  rw [hw]
  clear hw kN w'
  go_wp2_with fail
  go_ret
  exact ⟨rfl, Below.refl _ _⟩

set_option maxHeartbeats 4000000 in
set_option maxRecDepth 200000 in
theorem pmul_na (a b F : Nat) (m : Int) (w : World) (hm : isM m = true) (hfa : ∀ W, Calls Tryz.prog 82 #[.float .f64 a] W fun r w' => r = .returned (.bool false) ∧ Below W.heap.size W w') (h : Rn .mul a b F) (hF : F < 18446744073709551616) :
    Calls Tryz.prog 36 #[.float .f64 a, .float .f64 b, .int .i64 m] w fun r w' => OutF2 w F r w' := by
  have kV := pvalid m w
  rw [hm] at kV
  have HF : Hid (F < 18446744073709551616 ∧ Rn .mul a b F) := ⟨hF, h⟩
  clear hF h
  go_enter Tryz.func36, Tryz.ntmps36
  go_wp2_with fail
  refine kV.mono ?_
  rintro r w' ⟨rfl, hw⟩
  rw [hw]
  clear hw kV w'
  have kN := hfa w
  go_wp2_with fail
  refine kN.mono ?_
  rintro r w1 ⟨rfl, hb1⟩
  have HB : Hid (Below w.heap.size w w1 ∧ Below w.heap.size w w1.drew) := ⟨hb1, hb1.drew⟩
  clear hb1 kN hfa
  rcases HF.out.2 with h | h
  · have hr := h w1
    clear h
    go_wp2_with fail
    go_ret
    exact ⟨_, rfl, lk.refl HF.out.1, HB.out.1⟩
  · obtain ⟨n, hn, hr⟩ := h w1
    have HN : Hid (lk n F) := hn
    clear hn h
    go_wp2_with fail
    go_ret
    exact ⟨_, rfl, HN.out, HB.out.2⟩

set_option maxHeartbeats 4000000 in
set_option maxRecDepth 200000 in
theorem pmul_nb (a b F : Nat) (m : Int) (w : World) (hm : isM m = true) (hfa : ∀ W, Calls Tryz.prog 82 #[.float .f64 a] W fun r w' => r = .returned (.bool true) ∧ w' = W) (hfb : ∀ W, Calls Tryz.prog 82 #[.float .f64 b] W fun r w' => r = .returned (.bool false) ∧ Below W.heap.size W w') (h : Rn .mul a b F) (hF : F < 18446744073709551616) :
    Calls Tryz.prog 36 #[.float .f64 a, .float .f64 b, .int .i64 m] w fun r w' => OutF2 w F r w' := by
  have kV := pvalid m w
  rw [hm] at kV
  have HF : Hid (F < 18446744073709551616 ∧ Rn .mul a b F) := ⟨hF, h⟩
  clear hF h
  go_enter Tryz.func36, Tryz.ntmps36
  go_wp2_with fail
  refine kV.mono ?_
  rintro r w' ⟨rfl, hw⟩
  rw [hw]
  clear hw kV w'
  have kN := hfa w
  go_wp2_with fail
  refine kN.mono ?_
  rintro r w' ⟨rfl, hw⟩
  rw [hw]
  clear hw kN hfa w'
  have kN := hfb w
  go_wp2_with fail
  refine kN.mono ?_
  rintro r w1 ⟨rfl, hb1⟩
  have HB : Hid (Below w.heap.size w w1 ∧ Below w.heap.size w w1.drew) := ⟨hb1, hb1.drew⟩
  clear hb1 kN hfb
  rcases HF.out.2 with h | h
  · have hr := h w1
    clear h
    go_wp2_with fail
    go_ret
    exact ⟨_, rfl, lk.refl HF.out.1, HB.out.1⟩
  · obtain ⟨n, hn, hr⟩ := h w1
    have HN : Hid (lk n F) := hn
    clear hn h
    go_wp2_with fail
    go_ret
    exact ⟨_, rfl, HN.out, HB.out.2⟩

theorem pdiv_no (a b : Nat) (m : Int) (w : World) (hm : isM m = false) : Calls Tryz.prog 43 #[.float .f64 a, .float .f64 b, .int .i64 m] w fun r w' => r = .returned (.float .f64 9221120237041090561) ∧ Below w.heap.size w w' := by
  have kV := pvalid m w
  rw [hm] at kV
  go_enter Tryz.func43, Tryz.ntmps43
  go_wp2_with fail
  refine kV.mono ?_
  rintro r w' ⟨rfl, hw⟩
  rw [hw]
  clear hw kV w'
  have kN := Ie.c52 w
  go_wp2_with fail
  refine kN.mono ?_
  rintro r w' ⟨rfl, hw⟩
  rw [hw]
  clear hw kN w'
  go_wp2_with fail
  go_ret
  exact ⟨rfl, Below.refl _ _⟩

set_option maxHeartbeats 4000000 in
set_option maxRecDepth 200000 in
theorem pdiv_na (a b F : Nat) (m : Int) (w : World) (hm : isM m = true) (hfa : ∀ W, Calls Tryz.prog 82 #[.float .f64 a] W fun r w' => r = .returned (.bool false) ∧ Below W.heap.size W w') (h : Rn .quo a b F) (hF : F < 18446744073709551616) :
    Calls Tryz.prog 43 #[.float .f64 a, .float .f64 b, .int .i64 m] w fun r w' => OutF2 w F r w' := by
  have kV := pvalid m w
  rw [hm] at kV
  have HF : Hid (F < 18446744073709551616 ∧ Rn .quo a b F) := ⟨hF, h⟩
  clear hF h
  go_enter Tryz.func43, Tryz.ntmps43
  go_wp2_with fail
  refine kV.mono ?_
  rintro r w' ⟨rfl, hw⟩
  rw [hw]
  clear hw kV w'
  have kN := hfa w
  go_wp2_with fail
  refine kN.mono ?_
  rintro r w1 ⟨rfl, hb1⟩
  have HB : Hid (Below w.heap.size w w1 ∧ Below w.heap.size w w1.drew) := ⟨hb1, hb1.drew⟩
  clear hb1 kN hfa
  rcases HF.out.2 with h | h
  · have hr := h w1
    clear h
    go_wp2_with fail
    go_ret
    exact ⟨_, rfl, lk.refl HF.out.1, HB.out.1⟩
  · obtain ⟨n, hn, hr⟩ := h w1
    have HN : Hid (lk n F) := hn
    clear hn h
    go_wp2_with fail
    go_ret
    exact ⟨_, rfl, HN.out, HB.out.2⟩

set_option maxHeartbeats 4000000 in
set_option maxRecDepth 200000 in
theorem pdiv_nb (a b F : Nat) (m : Int) (w : World) (hm : isM m = true) (hfa : ∀ W, Calls Tryz.prog 82 #[.float .f64 a] W fun r w' => r = .returned (.bool true) ∧ w' = W) (hfb : ∀ W, Calls Tryz.prog 82 #[.float .f64 b] W fun r w' => r = .returned (.bool false) ∧ Below W.heap.size W w') (h : Rn .quo a b F) (hF : F < 18446744073709551616) :
    Calls Tryz.prog 43 #[.float .f64 a, .float .f64 b, .int .i64 m] w fun r w' => OutF2 w F r w' := by
  have kV := pvalid m w
  rw [hm] at kV
  have HF : Hid (F < 18446744073709551616 ∧ Rn .quo a b F) := ⟨hF, h⟩
  clear hF h
  go_enter Tryz.func43, Tryz.ntmps43
  go_wp2_with fail
  refine kV.mono ?_
  rintro r w' ⟨rfl, hw⟩
  rw [hw]
  clear hw kV w'
  have kN := hfa w
  go_wp2_with fail
  refine kN.mono ?_
  rintro r w' ⟨rfl, hw⟩
  rw [hw]
  clear hw kN hfa w'
  have kN := hfb w
  go_wp2_with fail
  refine kN.mono ?_
  rintro r w1 ⟨rfl, hb1⟩
  have HB : Hid (Below w.heap.size w w1 ∧ Below w.heap.size w w1.drew) := ⟨hb1, hb1.drew⟩
  clear hb1 kN hfb
  rcases HF.out.2 with h | h
  · have hr := h w1
    clear h
    go_wp2_with fail
    go_ret
    exact ⟨_, rfl, lk.refl HF.out.1, HB.out.1⟩
  · obtain ⟨n, hn, hr⟩ := h w1
    have HN : Hid (lk n F) := hn
    clear hn h
    go_wp2_with fail
    go_ret
    exact ⟨_, rfl, HN.out, HB.out.2⟩

set_option maxHeartbeats 4000000 in
set_option maxRecDepth 200000 in
theorem pmul_r (a b F : Nat) (m : Int) (ta tb t3 : Bool × Nat × Int) (w : World) (hm : isM m = true)
    (hfa : ∀ W, Calls Tryz.prog 82 #[.float .f64 a] W fun r w' => r = .returned (.bool true) ∧ w' = W)
    (hfb : ∀ W, Calls Tryz.prog 82 #[.float .f64 b] W fun r w' => r = .returned (.bool true) ∧ w' = W)
    (kA : Calls Tryz.prog 85 #[.float .f64 a] w fun r w' => OutA w ta r w')
    (kB : ∀ W, Below w.heap.size w W → Calls Tryz.prog 85 #[.float .f64 b] W fun r w' => OutA W tb r w')
    (kC : ∀ W X Y, Below w.heap.size w W → PN W X ta → PN W Y tb → Calls Tryz.prog 84 #[X, Y] W fun r w' => OutA W t3 r w')
    (kR : ∀ W X, Below w.heap.size w W → PN W X t3 → Calls Tryz.prog 83 #[X, .int .i64 m] W fun r w' => r = .returned (.float .f64 F) ∧ Below W.heap.size W w') :
    Calls Tryz.prog 36 #[.float .f64 a, .float .f64 b, .int .i64 m] w fun r w' => r = .returned (.float .f64 F) ∧ Below w.heap.size w w' := by
  have kV := pvalid m w
  rw [hm] at kV
  have HKB : Hid (∀ W, Below w.heap.size w W → Calls Tryz.prog 85 #[.float .f64 b] W fun r w' => OutA W tb r w') := kB
  have HKC : Hid (∀ W X Y, Below w.heap.size w W → PN W X ta → PN W Y tb → Calls Tryz.prog 84 #[X, Y] W fun r w' => OutA W t3 r w') := kC
  have HKR : Hid (∀ W X, Below w.heap.size w W → PN W X t3 → Calls Tryz.prog 83 #[X, .int .i64 m] W fun r w' => r = .returned (.float .f64 F) ∧ Below W.heap.size W w') := kR
  clear kB kC kR
  go_enter Tryz.func36, Tryz.ntmps36
  go_wp2_with fail
  refine kV.mono ?_
  rintro r w' ⟨rfl, hw⟩
  rw [hw]
  clear hw kV
  have kN := hfa w
  go_wp2_with fail
  refine kN.mono ?_
  rintro r w' ⟨rfl, hw⟩
  rw [hw]
  clear hw kN hfa
  have kN := hfb w
  go_wp2_with fail
  refine kN.mono ?_
  rintro r w' ⟨rfl, hw⟩
  rw [hw]
  clear hw kN hfb
  go_wp2_with fail
  refine kA.mono ?_
  rintro r w1 ⟨s1, ao1, n1, cap1, ex1, rfl, hP1, hb1⟩
  have k2 := HKB.out w1 hb1
  clear kA
  go_wp2_with fail
  refine k2.mono ?_
  rintro r w2 ⟨s2, ao2, n2, cap2, ex2, rfl, hP2, hb2⟩
  have HB2 : Hid (Below w.heap.size w w2) := hb1.trans (hb2.mono hb1.size)
  have k3 := HKC.out w2 _ _ HB2.out (hP1.later hb2) hP2
  clear k2 hP1 hP2 hb1 hb2
  go_wp2_with fail
  refine k3.mono ?_
  rintro r w3 ⟨s3, ao3, n3, cap3, ex3, rfl, hP3, hb3⟩
  have HB3 : Hid (Below w.heap.size w w3) := HB2.out.trans (hb3.mono HB2.out.size)
  have k4 := HKR.out w3 _ HB3.out hP3
  clear k3 hb3 hP3
  go_wp2_with fail
  refine k4.mono ?_
  rintro r w4 ⟨rfl, hb4⟩
  have HB4 : Hid (Below w.heap.size w w4) := HB3.out.trans (hb4.mono HB3.out.size)
  clear k4 hb4
  go_wp2_with fail
  go_ret
  exact ⟨rfl, HB4.out⟩


theorem tM_okR (a b : Nat) : okR (!((tF a).1 == (tF b).1)) ((tF a).2.1 * (tF b).2.1) ((tF a).2.2 + (tF b).2.2) = true := (Fits.mul (tF_fits a) (tF_fits b)).ok (by omega) (by omega) (by omega)
theorem mulX_lt {a b : Nat} : mulX a b < 18446744073709551616 := by
  unfold mulX
  repeat' split
  all_goals first | decide | exact (by unfold sig; split <;> decide)
theorem divX_lt {a b : Nat} : divX a b < 18446744073709551616 := by
  unfold divX
  repeat' split
  all_goals first | decide | exact (by unfold sig; split <;> decide)

/-- what Mul answers, and Div -/
def fMul (a b : Nat) (m : Int) : Nat := if isM m = false then 9221120237041090560 else if pln a = false ∨ pln b = false then mulX a b else tfF (tM (tF a) (tF b)).1 true (tM (tF a) (tF b)).2.1 (tM (tF a) (tF b)).2.2 m
def fDiv (a b : Nat) (m : Int) : Nat := if isM m = false then 9221120237041090560 else if pln a = false ∨ pln b = false then divX a b else rtF (tF a) (tF b) m
theorem tfM_lt (ex : Bool) (x : Nat) : tfM ex x < 18446744073709551616 := by
  have h1 : x < 2 ^ (tfD x + 64) := Nat.lt_of_lt_of_le (lt_bl x) (Nat.pow_le_pow_right (by decide) (by unfold tfD; omega))
  rw [Nat.pow_add] at h1
  have h2 : x / 2 ^ tfD x < 2 ^ 64 := Nat.div_lt_of_lt_mul h1
  have h3 : x / 2 ^ tfD x ||| 1 < 2 ^ 64 := Nat.or_lt_two_pow h2 (by decide)
  unfold tfM
  split
  · exact h2
  · exact h3
theorem tfF_lt' {s ex : Bool} {x : Nat} {e m : Int} (hm : 1 ≤ m ∧ m ≤ 3) : tfF s ex x e m < 18446744073709551616 := by
  unfold tfF Ie.mk
  rw [if_pos (by omega)]
  refine sig_lt ?_
  split
  · omega
  · rename_i h0
    have := Ie.bod_bounds (tfM ex x) (e + (tfD x : Int)) (Ie.wy s m) (tfM_lt ex x) h0
    omega
theorem rtF_lt {t1 t2 : Bool × Nat × Int} {m : Int} (hm : 1 ≤ m ∧ m ≤ 3) : rtF t1 t2 m < 18446744073709551616 := tfF_lt' hm
theorem fMul_lt {a b : Nat} {m : Int} : fMul a b m < 18446744073709551616 := by
  unfold fMul
  split
  · decide
  · rename_i h
    split
    · exact mulX_lt
    · exact tfF_lt (isM_iff.1 (by simpa using h))
theorem fDiv_lt {a b : Nat} {m : Int} : fDiv a b m < 18446744073709551616 := by
  unfold fDiv
  split
  · decide
  · rename_i h
    split
    · exact divX_lt
    · exact rtF_lt (isM_iff.1 (by simpa using h))

theorem pmul_all (a b : Nat) (m : Int) (ha : a < 18446744073709551616) (hb : b < 18446744073709551616) (w : World) (hT : Tab32 w) (hI : Ie.Tab w) :
    Calls Tryz.prog 36 #[.float .f64 a, .float .f64 b, .int .i64 m] w fun r w' => OutF2 w (fMul a b m) r w' := by
  unfold fMul
  cases hm : isM m
  · rw [if_pos rfl]
    refine (pmul_no a b m w hm).mono ?_
    rintro r w' ⟨rfl, hb⟩
    exact ⟨_, rfl, lk.nan (by decide) (by decide) (by decide), hb⟩
  · rw [if_neg (by decide)]
    have hm' := isM_iff.1 hm
    by_cases hp : pln a = false ∨ pln b = false
    · rw [if_pos hp]
      have hr : Rn .mul a b (mulX a b) := rn_of (by simp) (mul_non ha hb hp)
      cases h : pln a
      · exact pmul_na a b _ m w hm (pplain_f a ha h) hr mulX_lt
      · exact pmul_nb a b _ m w hm (pplain_t a ha h) (pplain_f b hb (by rcases hp with h' | h'; rw [h] at h'; cases h'; exact h')) hr mulX_lt
    · rw [if_neg hp]
      have pa : pln a = true := by cases h : pln a; exact absurd (.inl h) hp; rfl
      have pb : pln b = true := by cases h : pln b; exact absurd (.inr h) hp; rfl
      have hok : Ok (tM (tF a) (tF b)) := tM_ok (tM_okR a b)
      refine (pmul_r a b _ m (tF a) (tF b) (tM (tF a) (tF b)) w hm (pplain_t a ha pa) (pplain_t b hb pb) (exact_ok a ha (pln_true.1 pa).1 w hT hI) (fun W h => exact_ok b hb (pln_true.1 pb).1 W (hT.later h) (Tab.later hI h)) (fun W X Y h h1 h2 => multiplied_op (mul_op (tF_ok a) (tF_ok b) (tM_okR a b)) (hT.later h) h1 h2) (fun W X h h1 => prounded (hT.later h) hok h1 hm')).mono ?_
      rintro r w' ⟨rfl, hb'⟩
      exact ⟨_, rfl, lk.refl (tfF_lt hm'), hb'⟩
theorem pdiv_all (a b : Nat) (m : Int) (ha : a < 18446744073709551616) (hb : b < 18446744073709551616) (w : World) (hT : Tab32 w) (hI : Ie.Tab w) :
    Calls Tryz.prog 43 #[.float .f64 a, .float .f64 b, .int .i64 m] w fun r w' => OutF2 w (fDiv a b m) r w' := by
  unfold fDiv
  cases hm : isM m
  · rw [if_pos rfl]
    refine (pdiv_no a b m w hm).mono ?_
    rintro r w' ⟨rfl, hb⟩
    exact ⟨_, rfl, lk.nan (by decide) (by decide) (by decide), hb⟩
  · rw [if_neg (by decide)]
    have hm' := isM_iff.1 hm
    by_cases hp : pln a = false ∨ pln b = false
    · rw [if_pos hp]
      have hr : Rn .quo a b (divX a b) := rn_of (by simp) (div_non ha hb hp)
      cases h : pln a
      · exact pdiv_na a b _ m w hm (pplain_f a ha h) hr divX_lt
      · exact pdiv_nb a b _ m w hm (pplain_t a ha h) (pplain_f b hb (by rcases hp with h' | h'; rw [h] at h'; cases h'; exact h')) hr divX_lt
    · rw [if_neg hp]
      have pa : pln a = true := by cases h : pln a; exact absurd (.inl h) hp; rfl
      have pb : pln b = true := by cases h : pln b; exact absurd (.inr h) hp; rfl
      refine (pdiv_ok a b m w hm hT hI ha hb (pln_true.1 pa).1 (pln_true.1 pb).1 (pln_true.1 pa).2 (pln_true.1 pb).2 (tF_ne (pln_true.1 pa).2) (tF_ne (pln_true.1 pb).2)).mono ?_
      rintro r w' ⟨rfl, hb'⟩
      exact ⟨_, rfl, lk.refl (rtF_lt hm'), hb'⟩
end Go.Proofs.YtcoclopllbfjcaaGreatDoor
/- The document's quotient, rounded: the program's float. -/
namespace Go.Proofs.YtcoclopllbfjcaaGreatDoor
set_option linter.unusedVariables false
set_option linter.unusedSimpArgs false
open Go.RowKit Go.Fl64
open Ie

end Go.Proofs.YtcoclopllbfjcaaGreatDoor
/- The document's product of numbers, that can be handed on; its Mul and Div of floats. -/
namespace Go.Proofs.YtcoclopllbfjcaaGreatDoor
set_option linter.unusedVariables false
set_option linter.unusedSimpArgs false
open Go.RowKit Go.Fl64

set_option maxHeartbeats 4000000 in
set_option maxRecDepth 200000 in
theorem xtimes_1 (na nb sg : Bool) (ua va : Option Addr) (un uc vn vc x y : Nat) (ea eb : Int) (w : World) (h1 : Ir w (.slice ua un uc) x) (h2 : Ir w (.slice va vn vc) y) (hx : dlen x ≤ 400000) (hy : dlen y ≤ 400000) (he1 : -4000000 ≤ ea) (he2 : ea ≤ 4000000) (he3 : -4000000 ≤ eb) (he4 : eb ≤ 4000000) (hsg : (!(na == nb)) = sg) :
    Calls Tryz.prog 28 #[.agg #[.bool na, .slice ua un uc, .int .i64 ea], .agg #[.bool nb, .slice va vn vc, .int .i64 eb]] w fun r w' => ∃ a, r = .returned a ∧ NC w' w.heap.size a sg (x * y) (ea + eb) ∧ Below w.heap.size w w' := by
  obtain ⟨W, hW⟩ : ∃ W, W = ((w.alloc (.cells #[.bool na, .slice ua un uc, .int .i64 ea] 45)).alloc (.cells #[.bool nb, .slice va vn vc, .int .i64 eb] 45)).alloc (.cells #[.bool false, .slice none 0 0, .int .i64 0] 45) := ⟨_, rfl⟩
  obtain ⟨hA, hBb, hC, hsz, hBW⟩ := boxes3 _ _ _ hW
  have hxy : dlen (x * y) ≤ 1000000 := by
    have l1 := (dlen_le (dlen x) x).1 (Nat.le_refl _)
    have l2 := (dlen_le (dlen y) y).1 (Nat.le_refl _)
    have : dlen (x * y) ≤ dlen x + dlen y := (dlen_le _ _).2 (by
      rw [Nat.pow_add]
      rcases Nat.eq_zero_or_pos x with h | h
      · rw [h, Nat.zero_mul]; exact Nat.mul_pos (Bpow_pos _) (Bpow_pos _)
      · exact Nat.mul_lt_mul_of_lt_of_le l1 (Nat.le_of_lt l2) (Bpow_pos _))
    omega
  have HH : Hid (W.heap[w.heap.size + 1 + 1]? = some (.cells #[.bool false, .slice none 0 0, .int .i64 0] 45 (0, 0)) ∧ W.heap.size = w.heap.size + 1 + 1 + 1 ∧ Below w.heap.size w W) := ⟨hC, hsz, hBW⟩
  have k78 : ∀ w4, Below W.heap.size W w4 → Calls Tryz.prog 73 #[.slice ua un uc, .slice va vn vc] w4 fun r w' => ∃ v, r = .returned v ∧ Own w' W.heap.size v (x * y) ∧ Below W.heap.size W w' := fun w4 hb =>
    (rprod ((h1.later hBW).later hb) ((h2.later hBW).later hb) (by omega) (by omega)).mono fun r w' ⟨v, e1, o1, o2⟩ => ⟨v, e1, o1.mono hb.size, hb.trans (o2.mono hb.size)⟩
  have k31 : ∀ v5 w5, Own w5 W.heap.size v5 (x * y) → Below W.heap.size W w5 → Calls Tryz.prog 64 #[.bool sg, v5, .int .i64 (ea + eb)] w5 fun r w' => ∃ s ao n cap ex, r = .returned (.agg #[.bool s, .slice ao n cap, .int .i64 ex]) ∧
      Hid (NC w' w5.heap.size (.agg #[.bool s, .slice ao n cap, .int .i64 ex]) sg (x * y) (ea + eb) ∧ W.heap.size ≤ w5.heap.size) ∧ Below W.heap.size W w' ∧ Hid (w'.heap[w.heap.size + 1 + 1]? = some (.cells #[.bool false, .slice none 0 0, .int .i64 0] 45 (0, 0))) ∧
      (w'.cell? ⟨w.heap.size + 1 + 1, 0, none⟩ = some (.bool false) ∧ w'.cell? ⟨w.heap.size + 1 + 1, 1, none⟩ = some (.slice none 0 0) ∧ w'.cell? ⟨w.heap.size + 1 + 1, 2, none⟩ = some (.int .i64 0)) ∧ (w'.frozen? ⟨w.heap.size + 1 + 1, 0, none⟩ = false ∧ w'.frozen? ⟨w.heap.size + 1 + 1, 1, none⟩ = false ∧ w'.frozen? ⟨w.heap.size + 1 + 1, 2, none⟩ = false) := by
    intro v5 w5 ho hb
    obtain ⟨ao0, cap0, rfl, hl0, -, hat0⟩ := ho.is
    refine (rnormN hat0 (Nat.le_refl _) hl0 (by omega) (by omega)).mono ?_
    rintro r w6 ⟨a, rfl, hN, hb6⟩
    obtain ⟨s, ao, n, cap, ex, rfl⟩ := hN.shape
    have hb46 : Below W.heap.size W w6 := hb.trans (hb6.mono hb.size)
    have hblk := box_later HH.out.1 hb46 (by have := HH.out.2.1; omega)
    obtain ⟨f1, f2⟩ := box_cells29 hblk
    exact ⟨s, ao, n, cap, ex, rfl, ⟨hN, hb.size⟩, hb46, hblk, f1, f2⟩
  obtain ⟨⟨a0, a1, a2⟩, -⟩ := box_cells29 hA
  obtain ⟨⟨b0, b1, b2⟩, -⟩ := box_cells29 hBb
  have HK : Hid (∀ w', Below W.heap.size W w' → ((w'.cell? ⟨w.heap.size, 0, none⟩ = some (.bool na) ∧ w'.cell? ⟨w.heap.size, 1, none⟩ = some (.slice ua un uc) ∧ w'.cell? ⟨w.heap.size, 2, none⟩ = some (.int .i64 ea)) ∧ (w'.cell? ⟨w.heap.size + 1, 0, none⟩ = some (.bool nb) ∧ w'.cell? ⟨w.heap.size + 1, 1, none⟩ = some (.slice va vn vc) ∧ w'.cell? ⟨w.heap.size + 1, 2, none⟩ = some (.int .i64 eb)))) := fun w' hb => ⟨(box_cells29 (box_later hA hb (by omega))).1, (box_cells29 (box_later hBb hb (by omega))).1⟩
  have HK2 : Hid (∀ w', Below (w.heap.size + 1 + 1) W w' → ((w'.cell? ⟨w.heap.size, 0, none⟩ = some (.bool na) ∧ w'.cell? ⟨w.heap.size, 1, none⟩ = some (.slice ua un uc) ∧ w'.cell? ⟨w.heap.size, 2, none⟩ = some (.int .i64 ea)) ∧ (w'.cell? ⟨w.heap.size + 1, 0, none⟩ = some (.bool nb) ∧ w'.cell? ⟨w.heap.size + 1, 1, none⟩ = some (.slice va vn vc) ∧ w'.cell? ⟨w.heap.size + 1, 2, none⟩ = some (.int .i64 eb)))) := fun w' hb => ⟨(box_cells29 (box_later hA hb (by omega))).1, (box_cells29 (box_later hBb hb (by omega))).1⟩
  have HS2 : Hid (w.heap.size + 1 + 1 ≤ W.heap.size) := (by omega : w.heap.size + 1 + 1 ≤ W.heap.size)
  have hBR : Below W.heap.size W W.drew := (Below.refl _ _).drew
  have wz : IntKind.i64.wrap (ea + eb) = ea + eb := by rw [IntKind.wrap_i64]; omega
  clear hA hBb hC hsz hBW h1 h2 hx hy hxy
  go_enter Tryz.func28, Tryz.ntmps28
  go_upto_region 1 with fail
  rw [← hW]
  clear hW
  go_region_held3 (fun w' => ((w'.cell? ⟨w.heap.size, 0, none⟩ = some (.bool na) ∧ w'.cell? ⟨w.heap.size, 1, none⟩ = some (.slice ua un uc) ∧ w'.cell? ⟨w.heap.size, 2, none⟩ = some (.int .i64 ea)) ∧ (w'.cell? ⟨w.heap.size + 1, 0, none⟩ = some (.bool nb) ∧ w'.cell? ⟨w.heap.size + 1, 1, none⟩ = some (.slice va vn vc) ∧ w'.cell? ⟨w.heap.size + 1, 2, none⟩ = some (.int .i64 eb)))) (first | (with_reducible assumption) | exact ⟨⟨a0, a1, a2⟩, b0, b1, b2⟩ | (refine HK.out _ ?_; with_reducible assumption) | (refine HK2.out _ (below_store3 (Below.mono hb6 HS2.out) (Nat.le_refl _) _ _ _)) | go_keep)
    (first | (go_at_call 73; refine (k78 _ (by first | (with_reducible assumption) | exact hBR)).mono ?_; rintro r w5 ⟨v5, rfl, ho5, hb5⟩) | (go_at_call 64; (try simp only [hsg, wz]); refine (k31 _ _ ho5 hb5).mono ?_; rintro r w6 ⟨s6, ao6, n6, cap6, ex6, rfl, hN6, hb6, hblk6, ⟨x1, x2, x3⟩, x4, x5, x6⟩))
  have HF : Hid (Below W.heap.size W w6) := hb6
  clear ho5 hb5 hb6 k31 k78 x1 x2 x3 x4 x5 x6 a0 a1 a2 b0 b1 b2 HK HK2
  go_wp2
  refine bodyPost_ret (results_cell_row rfl _ _ (w.heap.size + 1 + 1) 45 #[.bool s6, .slice ao6 n6 cap6, .int .i64 ex6] (0, 0) _ rfl (store3_29 _ _ _ hblk6.out) Tryz.underlying45 rfl Tryz.info45) rfl ?_
  obtain ⟨-, hs, hBW⟩ := HH.out
  have hs5 := hN6.out.2
  exact ⟨_, rfl, (hN6.out.1.store (by omega) _ _ _).mono (by omega), below_store3 (hBW.trans (HF.out.mono hBW.size)) (by omega) _ _ _⟩


theorem times_dn {t1 t2 : Bool × Nat × Int} {X Y : Value} {w : World} (o1 : Ok t1) (o2 : Ok t2) (h1 : DN w X t1) (h2 : DN w Y t2) : Calls Tryz.prog 28 #[X, Y] w fun r w' => ∃ A, r = .returned A ∧ DN w' A (tM t1 t2) ∧ Below w.heap.size w w' := by
  obtain ⟨ao, cap, rfl, a1⟩ := h1
  obtain ⟨ao', cap', rfl, a2⟩ := h2
  obtain ⟨f1, f2, f3, -, -⟩ := o1.facts
  obtain ⟨g1, g2, g3, -, -⟩ := o2.facts
  exact (xtimes_1 t1.1 t2.1 _ ao ao' _ cap _ cap' t1.2.1 t2.2.1 t1.2.2 t2.2.2 w ⟨ao, cap, rfl, a1.le, a1.at_⟩ ⟨ao', cap', rfl, a2.le, a2.at_⟩ (by omega) (by omega) (by omega) (by omega) (by omega) (by omega) rfl).mono fun r w' ⟨A, e, h, hb⟩ => ⟨A, e, h.dn, hb⟩

end Go.Proofs.YtcoclopllbfjcaaGreatDoor
/- The program's powers and square roots of intervals, walked. -/
namespace Go.Proofs.YtcoclopllbfjcaaGreatDoor
set_option linter.unusedVariables false
set_option linter.unusedSimpArgs false
open Go.RowKit Go.Fl64
attribute [local go_sem] run_store_flt

theorem iv_other {W : World} {g k a b : Nat} (h : IvB W k a b) (c d : Nat) (hk : k ≠ g) : IvB ((W.setCell ⟨g, 0, none⟩ (.float .f64 c)).setCell ⟨g, 1, none⟩ (.float .f64 d)) k a b := by
  unfold IvB at *
  have h' : ¬ g = k := fun e => hk e.symm
  simp [World.setCell, Array.getElem?_modify, h', h]
set_option maxHeartbeats 4000000 in
set_option maxRecDepth 200000 in
theorem spow_no (a b : Nat) (n : Int) (v : Bool) (w : World) (hr : v = false ∨ n < 0 ∨ 1024 < n)
    (k0 : ∀ W, Calls Tryz.prog 52 #[.agg #[.float .f64 a, .float .f64 b]] W fun r w' => r = .returned (.bool v) ∧ Below W.heap.size W w') :
    Calls Tryz.prog 14 #[.agg #[.float .f64 a, .float .f64 b], .int .i64 n] w fun r w' => r = .returned (.tuple #[.agg #[.float .f64 0, .float .f64 0], .int .i64 1]) ∧ Below w.heap.size w w' := by
  obtain ⟨W, hW⟩ : ∃ W, W = ((w.alloc (.cells #[.float .f64 a, .float .f64 b] 24)).alloc (.cells #[.float .f64 0, .float .f64 0] 24)) := ⟨_, rfl⟩
  have HX : Hid (Below w.heap.size w W ∧ IvB W (w.heap.size) a b ∧ IvB W (w.heap.size + 1) 0 0) := by
    rw [hW]
    exact ⟨bxs2_0 w a b 0 0, bxs2_1 w a b 0 0, bxs2_2 w a b 0 0⟩
  have HK : Hid (∀ w', Below W.heap.size W w' → IvF w' (w.heap.size) a b ∧ IvF w' (w.heap.size + 1) 0 0) := fun w' hb => ⟨(HX.out.2.1).later hb, (HX.out.2.2).later hb⟩
  obtain ⟨⟨c0, c1, z0, z1⟩, ⟨c2, c3, z2, z3⟩⟩ := HK.out W (Below.refl _ _)
  have kk := k0 W
  clear k0
  go_enter Tryz.func14, Tryz.ntmps14
  go_upto_region 1 with fail
  rw [← hW]
  clear hW
  go_wp2_with fail
  refine kk.mono ?_
  rintro r w0 ⟨rfl, hb2⟩
  clear kk c0 z0 c1 z1 c2 z2 c3 z3
  obtain ⟨⟨c0, c1, z0, z1⟩, ⟨c2, c3, z2, z3⟩⟩ := HK.out w0 hb2
  have HB : Hid (Below w.heap.size w w0) := HX.out.1.trans (hb2.mono HX.out.1.size)
  have HR : Hid (IvB w0 (w.heap.size + 1) 0 0) := HX.out.2.2.box hb2
  clear hb2 HK HX
  by_cases hv : v = false
  · subst hv
    go_wp2
    refine bodyPost_ret (results_cell_tmp_row rfl _ _ (w.heap.size + 1) 24 #[.float .f64 0, .float .f64 0] (0, 0) _ rfl (HR.out.set _ _) Tryz.underlying24 rfl iv_info) rfl ?_
    exact ⟨rfl, below_store2 HB.out (by omega) _ _⟩
  · have hv' : v = true := by cases v <;> simp_all
    subst hv'
    by_cases hn : n < 0
    · clear hr
      go_wp2
      refine bodyPost_ret (results_cell_tmp_row rfl _ _ (w.heap.size + 1) 24 #[.float .f64 0, .float .f64 0] (0, 0) _ rfl (HR.out.set _ _) Tryz.underlying24 rfl iv_info) rfl ?_
      exact ⟨rfl, below_store2 HB.out (by omega) _ _⟩
    · have hn2 : 1024 < n := by rcases hr with h | h | h; (exact absurd h hv); omega; exact h
      clear hr
      go_wp2
      refine bodyPost_ret (results_cell_tmp_row rfl _ _ (w.heap.size + 1) 24 #[.float .f64 0, .float .f64 0] (0, 0) _ rfl (HR.out.set _ _) Tryz.underlying24 rfl iv_info) rfl ?_
      exact ⟨rfl, below_store2 HB.out (by omega) _ _⟩
set_option maxHeartbeats 4000000 in
set_option maxRecDepth 200000 in
theorem spow_1 (a b c d n p q x y : Nat) (w : World) (hn : n ≤ 1024)
    (k0 : ∀ W, Calls Tryz.prog 52 #[.agg #[.float .f64 a, .float .f64 b]] W fun r w' => r = .returned (.bool true) ∧ Below W.heap.size W w')
    (km : n % 2 = 0 → ∀ W, Below w.heap.size w W → Calls Tryz.prog 53 #[.agg #[.float .f64 a, .float .f64 b]] W fun r w' => r = .returned (.agg #[.float .f64 c, .float .f64 d]) ∧ Below W.heap.size W w')
    (ko : n % 2 = 1 → c = a ∧ d = b)
    (k1 : ∀ W, Below w.heap.size w W → Calls Tryz.prog 55 #[.float .f64 c, .int .i64 n, .int .i64 1] W fun r w' => r = .returned (.float .f64 p) ∧ Below W.heap.size W w')
    (k2 : ∀ W, Below w.heap.size w W → Calls Tryz.prog 55 #[.float .f64 d, .int .i64 n, .int .i64 3] W fun r w' => r = .returned (.float .f64 q) ∧ Below W.heap.size W w')
    (k3 : ∀ W, Below w.heap.size w W → Calls Tryz.prog 54 #[.float .f64 p, .float .f64 q] W fun r w' => r = .returned (.agg #[.float .f64 x, .float .f64 y]) ∧ Below W.heap.size W w') :
    Calls Tryz.prog 14 #[.agg #[.float .f64 a, .float .f64 b], .int .i64 n] w fun r w' => r = .returned (.tuple #[.agg #[.float .f64 x, .float .f64 y], .int .i64 0]) ∧ Below w.heap.size w w' := by
  have hn0 : ¬ (n : Int) < 0 := by omega
  have hn1 : ¬ 1024 < (n : Int) := by omega
  have htm : (n : Int).tmod 2 = ((n % 2 : Nat) : Int) := by rw [Int.tmod_eq_emod_of_nonneg (by omega)]; rfl
  obtain ⟨W, hW⟩ : ∃ W, W = ((w.alloc (.cells #[.float .f64 a, .float .f64 b] 24)).alloc (.cells #[.float .f64 0, .float .f64 0] 24)) := ⟨_, rfl⟩
  have HX : Hid (Below w.heap.size w W ∧ IvB W (w.heap.size) a b ∧ IvB W (w.heap.size + 1) 0 0) := by
    rw [hW]
    exact ⟨bxs2_0 w a b 0 0, bxs2_1 w a b 0 0, bxs2_2 w a b 0 0⟩
  have HK : Hid (∀ w', Below W.heap.size W w' → IvF w' (w.heap.size) a b ∧ IvF w' (w.heap.size + 1) 0 0) := fun w' hb => ⟨(HX.out.2.1).later hb, (HX.out.2.2).later hb⟩
  obtain ⟨⟨c0, c1, z0, z1⟩, ⟨c2, c3, z2, z3⟩⟩ := HK.out W (Below.refl _ _)
  have kk := k0 W
  clear k0
  go_enter Tryz.func14, Tryz.ntmps14
  go_upto_region 1 with fail
  rw [← hW]
  clear hW
  go_wp2_with fail
  refine kk.mono ?_
  rintro r w0 ⟨rfl, hb2⟩
  clear kk c0 z0 c1 z1 c2 z2 c3 z3
  obtain ⟨⟨c0, c1, z0, z1⟩, ⟨c2, c3, z2, z3⟩⟩ := HK.out w0 hb2
  rcases (show n % 2 = 0 ∨ n % 2 = 1 by omega) with hpar | hpar
  · rw [hpar] at htm
    have km' := km hpar w0 (HX.out.1.trans (hb2.mono HX.out.1.size))
    clear km ko
    go_wp2_with fail
    refine km'.mono ?_
    rintro r w1 ⟨rfl, hb3⟩
    have hb4 : Below W.heap.size W w1 := hb2.trans (hb3.mono hb2.size)
    clear c0 z0 c1 z1 c2 z2 c3 z3 km' hb2 hb3
    obtain ⟨⟨c0, c1, z0, z1⟩, ⟨c2, c3, z2, z3⟩⟩ := HK.out w1 hb4
    obtain ⟨V, hV⟩ : ∃ V, V = (w1.setCell ⟨w.heap.size, 0, none⟩ (.float .f64 c)).setCell ⟨w.heap.size, 1, none⟩ (.float .f64 d) := ⟨_, rfl⟩
    have HV : Hid (Below w.heap.size w V ∧ IvB V (w.heap.size) c d ∧ IvB V (w.heap.size + 1) 0 0) := by
      rw [hV]
      exact ⟨below_store2 (HX.out.1.trans (hb4.mono HX.out.1.size)) (Nat.le_refl _) _ _, (HX.out.2.1.box hb4).set _ _, iv_other (HX.out.2.2.box hb4) _ _ (by omega)⟩
    clear HX HK hb4
    go_upto_region 5 with fail
    rw [← hV]
    clear hV
    have HKK : Hid (∀ w', Below V.heap.size V w' → (w'.cell? ⟨w.heap.size, 0, none⟩ = some (.float .f64 c) ∧ w'.cell? ⟨w.heap.size, 1, none⟩ = some (.float .f64 d))) := fun w' hb => ⟨(HV.out.2.1.later hb).1, (HV.out.2.1.later hb).2.1⟩
    have hR : Below V.heap.size V V.drew := (Below.refl _ _).drew
    have q1 : ∀ W', Below V.heap.size V W' → Calls Tryz.prog 55 #[.float .f64 c, .int .i64 n, .int .i64 1] W' fun r w' => r = .returned (.float .f64 p) ∧ Below V.heap.size V w' := fun W' h => (k1 W' (HV.out.1.trans (h.mono HV.out.1.size))).mono fun r w' ⟨e1, e2⟩ => ⟨e1, h.trans (e2.mono h.size)⟩
    have q2 : ∀ W', Below V.heap.size V W' → Calls Tryz.prog 55 #[.float .f64 d, .int .i64 n, .int .i64 3] W' fun r w' => r = .returned (.float .f64 q) ∧ Below V.heap.size V w' := fun W' h => (k2 W' (HV.out.1.trans (h.mono HV.out.1.size))).mono fun r w' ⟨e1, e2⟩ => ⟨e1, h.trans (e2.mono h.size)⟩
    have q3 : ∀ W', Below V.heap.size V W' → Calls Tryz.prog 54 #[.float .f64 p, .float .f64 q] W' fun r w' => r = .returned (.agg #[.float .f64 x, .float .f64 y]) ∧ Below V.heap.size V w' ∧ (w'.cell? ⟨w.heap.size + 1, 0, none⟩ = some (.float .f64 0) ∧ w'.cell? ⟨w.heap.size + 1, 1, none⟩ = some (.float .f64 0) ∧ w'.frozen? ⟨w.heap.size + 1, 0, none⟩ = false ∧ w'.frozen? ⟨w.heap.size + 1, 1, none⟩ = false) := fun W' h => (k3 W' (HV.out.1.trans (h.mono HV.out.1.size))).mono fun r w' ⟨e1, e2⟩ => ⟨e1, h.trans (e2.mono h.size), HV.out.2.2.later (h.trans (e2.mono h.size))⟩
    clear k1 k2 k3 c0 c1 c2 c3 z0 z1 z2 z3
    obtain ⟨c0, c1⟩ := HKK.out V (Below.refl _ _)
    go_region_held3 (fun w' => (w'.cell? ⟨w.heap.size, 0, none⟩ = some (.float .f64 c) ∧ w'.cell? ⟨w.heap.size, 1, none⟩ = some (.float .f64 d))) (first | (with_reducible assumption) | exact HKK.out _ hR | (refine HKK.out _ ?_; with_reducible assumption) | (refine ⟨?_, ?_⟩ <;> (change World.cell? (World.setCell (World.setCell _ _ _) _ _) _ = _; rw [World.cell?_setCell_other _ _ _ _ (by first | (simp; done) | (simp; omega)), World.cell?_setCell_other _ _ _ _ (by first | (simp; done) | (simp; omega))]; first | exact (HKK.out _ hb7).1 | exact (HKK.out _ hb7).2)))
      (first | (go_at_call 55; with_reducible refine (q1 _ (by first | (with_reducible assumption) | exact hR)).mono ?_; rintro r w5 ⟨rfl, hb5⟩)
             | (go_at_call 55; with_reducible refine (q2 _ (by first | (with_reducible assumption) | exact hR)).mono ?_; rintro r w6 ⟨rfl, hb6⟩)
             | (go_at_call 54; with_reducible refine (q3 _ (by first | (with_reducible assumption) | exact hR)).mono ?_; rintro r w7 ⟨rfl, hb7, x0, x1, x2, x3⟩))
    have HB : Hid (Below w.heap.size w w7) := HV.out.1.trans (hb7.mono HV.out.1.size)
    have HR : Hid (IvB w7 (w.heap.size + 1) 0 0) := HV.out.2.2.box hb7
    clear q1 q2 q3 HKK HV hR hb7 x0 x1 x2 x3 c0 c1
    go_wp2_with fail
    refine bodyPost_ret (results_cell_tmp_row rfl _ _ (w.heap.size + 1) 24 #[.float .f64 x, .float .f64 y] (0, 0) _ rfl (HR.out.set _ _) Tryz.underlying24 rfl iv_info) rfl ?_
    first | exact ⟨rfl, below_store2 HB.out (by omega) _ _⟩ | exact ⟨rfl, (below_store2 HB.out (by omega) _ _).drew⟩
  · rw [hpar] at htm
    obtain ⟨rfl, rfl⟩ := ko hpar
    have HV : Hid (Below w.heap.size w w0 ∧ IvB w0 (w.heap.size) c d ∧ IvB w0 (w.heap.size + 1) 0 0) := ⟨HX.out.1.trans (hb2.mono HX.out.1.size), HX.out.2.1.box hb2, HX.out.2.2.box hb2⟩
    clear HX HK hb2 km ko
    have HKK : Hid (∀ w', Below w0.heap.size w0 w' → (w'.cell? ⟨w.heap.size, 0, none⟩ = some (.float .f64 c) ∧ w'.cell? ⟨w.heap.size, 1, none⟩ = some (.float .f64 d))) := fun w' hb => ⟨(HV.out.2.1.later hb).1, (HV.out.2.1.later hb).2.1⟩
    have hR : Below w0.heap.size w0 w0.drew := (Below.refl _ _).drew
    have q1 : ∀ W', Below w0.heap.size w0 W' → Calls Tryz.prog 55 #[.float .f64 c, .int .i64 n, .int .i64 1] W' fun r w' => r = .returned (.float .f64 p) ∧ Below w0.heap.size w0 w' := fun W' h => (k1 W' (HV.out.1.trans (h.mono HV.out.1.size))).mono fun r w' ⟨e1, e2⟩ => ⟨e1, h.trans (e2.mono h.size)⟩
    have q2 : ∀ W', Below w0.heap.size w0 W' → Calls Tryz.prog 55 #[.float .f64 d, .int .i64 n, .int .i64 3] W' fun r w' => r = .returned (.float .f64 q) ∧ Below w0.heap.size w0 w' := fun W' h => (k2 W' (HV.out.1.trans (h.mono HV.out.1.size))).mono fun r w' ⟨e1, e2⟩ => ⟨e1, h.trans (e2.mono h.size)⟩
    have q3 : ∀ W', Below w0.heap.size w0 W' → Calls Tryz.prog 54 #[.float .f64 p, .float .f64 q] W' fun r w' => r = .returned (.agg #[.float .f64 x, .float .f64 y]) ∧ Below w0.heap.size w0 w' ∧ (w'.cell? ⟨w.heap.size + 1, 0, none⟩ = some (.float .f64 0) ∧ w'.cell? ⟨w.heap.size + 1, 1, none⟩ = some (.float .f64 0) ∧ w'.frozen? ⟨w.heap.size + 1, 0, none⟩ = false ∧ w'.frozen? ⟨w.heap.size + 1, 1, none⟩ = false) := fun W' h => (k3 W' (HV.out.1.trans (h.mono HV.out.1.size))).mono fun r w' ⟨e1, e2⟩ => ⟨e1, h.trans (e2.mono h.size), HV.out.2.2.later (h.trans (e2.mono h.size))⟩
    clear k1 k2 k3 c0 c1 c2 c3 z0 z1 z2 z3
    obtain ⟨c0, c1⟩ := HKK.out w0 (Below.refl _ _)
    go_upto_region 5 with fail
    go_region_held3 (fun w' => (w'.cell? ⟨w.heap.size, 0, none⟩ = some (.float .f64 c) ∧ w'.cell? ⟨w.heap.size, 1, none⟩ = some (.float .f64 d))) (first | (with_reducible assumption) | exact HKK.out _ hR | (refine HKK.out _ ?_; with_reducible assumption) | (refine ⟨?_, ?_⟩ <;> (change World.cell? (World.setCell (World.setCell _ _ _) _ _) _ = _; rw [World.cell?_setCell_other _ _ _ _ (by first | (simp; done) | (simp; omega)), World.cell?_setCell_other _ _ _ _ (by first | (simp; done) | (simp; omega))]; first | exact (HKK.out _ hb7).1 | exact (HKK.out _ hb7).2)))
      (first | (go_at_call 55; with_reducible refine (q1 _ (by first | (with_reducible assumption) | exact hR)).mono ?_; rintro r w5 ⟨rfl, hb5⟩)
             | (go_at_call 55; with_reducible refine (q2 _ (by first | (with_reducible assumption) | exact hR)).mono ?_; rintro r w6 ⟨rfl, hb6⟩)
             | (go_at_call 54; with_reducible refine (q3 _ (by first | (with_reducible assumption) | exact hR)).mono ?_; rintro r w7 ⟨rfl, hb7, x0, x1, x2, x3⟩))
    have HB : Hid (Below w.heap.size w w7) := HV.out.1.trans (hb7.mono HV.out.1.size)
    have HR : Hid (IvB w7 (w.heap.size + 1) 0 0) := HV.out.2.2.box hb7
    clear q1 q2 q3 HKK HV hR hb7 x0 x1 x2 x3 c0 c1
    go_wp2_with fail
    refine bodyPost_ret (results_cell_tmp_row rfl _ _ (w.heap.size + 1) 24 #[.float .f64 x, .float .f64 y] (0, 0) _ rfl (HR.out.set _ _) Tryz.underlying24 rfl iv_info) rfl ?_
    first | exact ⟨rfl, below_store2 HB.out (by omega) _ _⟩ | exact ⟨rfl, (below_store2 HB.out (by omega) _ _).drew⟩
end Go.Proofs.YtcoclopllbfjcaaGreatDoor
/- The document's powers of intervals, walked. -/
namespace Go.Proofs.YtcoclopllbfjcaaGreatDoor
set_option linter.unusedVariables false
set_option linter.unusedSimpArgs false
open Go.RowKit Go.Fl64
attribute [local go_sem] run_store_flt

end Go.Proofs.YtcoclopllbfjcaaGreatDoor
/- The document's root, rounded: the program's float. -/
namespace Go.Proofs.YtcoclopllbfjcaaGreatDoor
set_option linter.unusedVariables false
set_option linter.unusedSimpArgs false
open Go.RowKit Go.Fl64

end Go.Proofs.YtcoclopllbfjcaaGreatDoor
/- Square roots of numbers: the program's and the document's are one float; Sqrt of floats. -/
namespace Go.Proofs.YtcoclopllbfjcaaGreatDoor
set_option linter.unusedVariables false
set_option linter.unusedSimpArgs false
open Go.RowKit Go.Fl64

end Go.Proofs.YtcoclopllbfjcaaGreatDoor
/- The document's square roots of intervals, walked. -/
namespace Go.Proofs.YtcoclopllbfjcaaGreatDoor
set_option linter.unusedVariables false
set_option linter.unusedSimpArgs false
open Go.RowKit Go.Fl64
attribute [local go_sem] run_store_flt

end Go.Proofs.YtcoclopllbfjcaaGreatDoor
/- The document's powers of ends, walked. -/
namespace Go.Proofs.YtcoclopllbfjcaaGreatDoor
set_option linter.unusedVariables false
set_option linter.unusedSimpArgs false
open Go.RowKit Go.Fl64

/-- an end's box -/
def EnI (W : World) (g : Nat) (i : Int) (s : Bool) (ao : Option Addr) (n cap : Nat) (e : Int) : Prop := EnB W g (.int .i64 i) (.bool s) (.slice ao n cap) (.int .i64 e)
theorem at_storeE {W : World} {ao' : Option Addr} {m z g : Nat} {i e : Int} {s : Bool} {ao : Option Addr} {n cap : Nat} (h : At W ao' m z) (hE : EnI W g i s ao n cap e) (a' b' c' d' : Value) : At ((((W.setCell ⟨g, 0, none⟩ a').setCell ⟨g, 1, none⟩ b').setCell ⟨g, 2, none⟩ c').setCell ⟨g, 3, none⟩ d') ao' m z := by
  obtain ⟨bb, o, h1, h2⟩ := h
  refine ⟨bb, o, h1, fun i hi => ?_⟩
  have hc := h2 i hi
  have hne : bb ≠ g := by
    rintro rfl
    unfold EnI EnB at hE
    simp only [World.cell?, hE] at hc
    rcases (show o + i = 0 ∨ o + i = 1 ∨ o + i = 2 ∨ o + i = 3 ∨ 4 ≤ o + i by omega) with e | e | e | e | e
    · rw [e] at hc; simp at hc
    · rw [e] at hc; simp at hc
    · rw [e] at hc; simp at hc
    · rw [e] at hc; simp at hc
    · rw [Array.getElem?_eq_none (by simpa using e)] at hc; cases hc
  rw [World.cell?_setCell_other _ _ _ _ (by first | (simp; done) | (simp; omega)), World.cell?_setCell_other _ _ _ _ (by first | (simp; done) | (simp; omega)), World.cell?_setCell_other _ _ _ _ (by first | (simp; done) | (simp; omega)), World.cell?_setCell_other _ _ _ _ (by first | (simp; done) | (simp; omega))]
  exact hc
theorem en_storeE {W : World} {A : Value} {j : Int} {t : Bool × Nat × Int} {g : Nat} {i e : Int} {s : Bool} {ao : Option Addr} {n cap : Nat} (h : EN W A j t) (hE : EnI W g i s ao n cap e) (a' b' c' d' : Value) : EN ((((W.setCell ⟨g, 0, none⟩ a').setCell ⟨g, 1, none⟩ b').setCell ⟨g, 2, none⟩ c').setCell ⟨g, 3, none⟩ d') A j t := by
  obtain ⟨s', ao', n', cap', e', h1, ao2, cap2, h2, h3⟩ := h
  exact ⟨s', ao', n', cap', e', h1, ao2, cap2, h2, h3.nil, at_storeE h3.at_ hE _ _ _ _, h3.le, h3.small⟩
theorem store4_other {w : World} {g k : Nat} (a b c d : Value) (h : k ≠ g) : ((((w.setCell ⟨g, 0, none⟩ a).setCell ⟨g, 1, none⟩ b).setCell ⟨g, 2, none⟩ c).setCell ⟨g, 3, none⟩ d).heap[k]? = w.heap[k]? := by
  have h' : ¬ g = k := fun e => h e.symm
  simp [World.setCell, Array.getElem?_modify, h']
/-- what holds between two rounds -/
def DRd (w : World) (g : Nat) (p q : Int × Bool × Nat × Int) (z : Prop) (wr : World) (i : Int) (s : Bool) (ao : Option Addr) (m cap : Nat) (e : Int) (i' : Int) (s' : Bool) (ao' : Option Addr) (m' cap' : Nat) (e' : Int) : Prop :=
  EnI wr g i s ao m cap e ∧ EnI wr w.heap.size i' s' ao' m' cap' e' ∧ EnI wr (w.heap.size + 1) 0 false none 0 0 0 ∧ EN wr (.agg #[.int .i64 i, .bool s, .slice ao m cap, .int .i64 e]) p.1 p.2 ∧ (z → EN wr (.agg #[.int .i64 i', .bool s', .slice ao' m' cap', .int .i64 e']) q.1 q.2) ∧ Below w.heap.size w wr ∧ w.heap.size + 1 < g ∧ g < wr.heap.size
theorem DRd.out {w : World} {g : Nat} {p q r : Int × Bool × Nat × Int} {z : Prop} {wr w' : World} {i : Int} {s : Bool} {ao : Option Addr} {m cap : Nat} {e : Int} {i' : Int} {s' : Bool} {ao' : Option Addr} {m' cap' : Nat} {e' : Int} {j : Int} {u : Bool} {bo : Option Addr} {k cp : Nat} {f : Int}
    (h : DRd w g p q z wr i s ao m cap e i' s' ao' m' cap' e') (hb : Below wr.heap.size wr w') (hp : EN w' (.agg #[.int .i64 j, .bool u, .slice bo k cp, .int .i64 f]) r.1 r.2) :
    DRd w g r q z ((((w'.setCell ⟨g, 0, none⟩ (.int .i64 j)).setCell ⟨g, 1, none⟩ (.bool u)).setCell ⟨g, 2, none⟩ (.slice bo k cp)).setCell ⟨g, 3, none⟩ (.int .i64 f)) j u bo k cp f i' s' ao' m' cap' e' := by
  obtain ⟨h1, h2, h3, h4, h5, h6, h7, h8⟩ := h
  have hs := hb.size
  have b1 : EnI w' g i s ao m cap e := h1.box hb
  refine ⟨EnB.set b1 _ _ _ _, ?_, ?_, en_storeE hp b1 _ _ _ _, fun hz => en_storeE ((h5 hz).later hb) b1 _ _ _ _, below_store4 (h6.trans (hb.mono h6.size)) (by omega) _ _ _ _, h7, by simp [World.setCell]; omega⟩
  · show _ = _
    rw [store4_other _ _ _ _ (by omega)]; exact h2.box hb
  · show _ = _
    rw [store4_other _ _ _ _ (by omega)]; exact h3.box hb
theorem DRd.last {w : World} {g : Nat} {p q r : Int × Bool × Nat × Int} {z : Prop} {N : Nat} {wr : World} {i : Int} {s : Bool} {ao : Option Addr} {m cap : Nat} {e : Int} {i' : Int} {s' : Bool} {ao' : Option Addr} {m' cap' : Nat} {e' : Int}
    (h : DRd w g p q z wr i s ao m cap e i' s' ao' m' cap' e') (hN : N = 0) : DRd w g p r (N ≠ 0) wr i s ao m cap e i' s' ao' m' cap' e' := by
  obtain ⟨h1, h2, h3, h4, h5, h6⟩ := h
  exact ⟨h1, h2, h3, h4, fun hz => absurd hN hz, h6⟩
end Go.Proofs.YtcoclopllbfjcaaGreatDoor
/- The document's magnitude, Order, Cmp. -/
namespace Go.Proofs.YtcoclopllbfjcaaGreatDoor
set_option linter.unusedVariables false
set_option linter.unusedSimpArgs false
open Go.RowKit

end Go.Proofs.YtcoclopllbfjcaaGreatDoor
/- The document's magnitude, Order, Cmp, joined. -/
namespace Go.Proofs.YtcoclopllbfjcaaGreatDoor
set_option linter.unusedVariables false
set_option linter.unusedSimpArgs false
open Go.RowKit

end Go.Proofs.YtcoclopllbfjcaaGreatDoor
/- The document's Order and Cmp, joined. -/
namespace Go.Proofs.YtcoclopllbfjcaaGreatDoor
set_option linter.unusedVariables false
set_option linter.unusedSimpArgs false
open Go.RowKit

end Go.Proofs.YtcoclopllbfjcaaGreatDoor
/- Hypot of floats, on both sides. -/
namespace Go.Proofs.YtcoclopllbfjcaaGreatDoor
set_option linter.unusedVariables false
set_option linter.unusedSimpArgs false
open Go.RowKit Go.Fl64

theorem dn_store {w : World} {A : Value} {t : Bool × Nat × Int} {g : Nat} (h : DN w A t) (hg : w.heap[g]? = some (.cells #[.bool false, .slice none 0 0, .int .i64 0] 45 (0, 0))) (a b c : Value) : DN (((w.setCell ⟨g, 0, none⟩ a).setCell ⟨g, 1, none⟩ b).setCell ⟨g, 2, none⟩ c) A t := by
  obtain ⟨ao, cap, h1, h2⟩ := h
  exact ⟨ao, cap, h1, h2.nil, at_box h2.at_ rfl hg (by simp) (by simp) (by simp) a b c, h2.le, h2.small⟩
/-- a number of the document in its box, made since a world -/
def BxD (w3 wc : World) (g : Nat) (s : Bool) (ao : Option Addr) (n cap : Nat) (ex : Int) (t : Bool × Nat × Int) : Prop := wc.heap[g]? = some (.cells #[.bool s, .slice ao n cap, .int .i64 ex] 45 (0, 0)) ∧ w3.heap.size ≤ g ∧ Below w3.heap.size w3 wc ∧ DN wc (.agg #[.bool s, .slice ao n cap, .int .i64 ex]) t
theorem BxD.new {w3 w7 : World} {s : Bool} {ao : Option Addr} {n cap : Nat} {ex : Int} {t : Bool × Nat × Int} (hn : DN w7 (.agg #[.bool s, .slice ao n cap, .int .i64 ex]) t) (hb : Below w3.heap.size w3 w7) : BxD w3 (w7.alloc (.cells #[.bool s, .slice ao n cap, .int .i64 ex] 45)) w7.heap.size s ao n cap ex t :=
  ⟨heap_alloc_new _ _, hb.size, hb.alloc hb.size _, hn.later ((Below.refl _ _).alloc (Nat.le_refl _) _)⟩
theorem BxD.put {w3 w7 : World} {g : Nat} {s : Bool} {ao : Option Addr} {n cap : Nat} {ex : Int} {t : Bool × Nat × Int} (hn : DN w7 (.agg #[.bool s, .slice ao n cap, .int .i64 ex]) t) (hb : Below w3.heap.size w3 w7) (hg : w3.heap.size ≤ g) (hbx : w7.heap[g]? = some (.cells #[.bool false, .slice none 0 0, .int .i64 0] 45 (0, 0))) :
    BxD w3 (((w7.setCell ⟨g, 0, none⟩ (.bool s)).setCell ⟨g, 1, none⟩ (.slice ao n cap)).setCell ⟨g, 2, none⟩ (.int .i64 ex)) g s ao n cap ex t :=
  ⟨store3_29 _ _ _ hbx, hg, below_store3 hb hg _ _ _, dn_store hn hbx _ _ _⟩

end Go.Proofs.YtcoclopllbfjcaaGreatDoor
/- sums.Row. -/
namespace Go.Proofs.YtcoclopllbfjcaaGreatDoor
set_option linter.unusedVariables false
set_option linter.unusedSimpArgs false
open Go.RowKit Go.Fl64

end Go.Proofs.YtcoclopllbfjcaaGreatDoor
/- sums.Kept. -/
namespace Go.Proofs.YtcoclopllbfjcaaGreatDoor
set_option linter.unusedVariables false
set_option linter.unusedSimpArgs false
open Go.RowKit Go.Fl64

end Go.Proofs.YtcoclopllbfjcaaGreatDoor
/- sums.Halves. -/
namespace Go.Proofs.YtcoclopllbfjcaaGreatDoor
set_option linter.unusedVariables false
set_option linter.unusedSimpArgs false
open Go.RowKit Go.Fl64

end Go.Proofs.YtcoclopllbfjcaaGreatDoor
/- sums.anyNaN, sums.allFinite, sums.allMinusNought. -/
namespace Go.Proofs.YtcoclopllbfjcaaGreatDoor
set_option linter.unusedVariables false
set_option linter.unusedSimpArgs false
open Go.RowKit Go.Fl64

end Go.Proofs.YtcoclopllbfjcaaGreatDoor
/- sums.checked of one list. -/
namespace Go.Proofs.YtcoclopllbfjcaaGreatDoor
set_option linter.unusedVariables false
set_option linter.unusedSimpArgs false
open Go.RowKit Go.Fl64

end Go.Proofs.YtcoclopllbfjcaaGreatDoor
/- A float made whole, with a sign: what the law's own test asks. -/
namespace Go.Proofs.YtcoclopllbfjcaaGreatDoor
set_option linter.unusedVariables false
set_option linter.unusedSimpArgs false
open Go.RowKit Go.Fl64

end Go.Proofs.YtcoclopllbfjcaaGreatDoor
/- The program's leastRest: the least that is left. -/
namespace Go.Proofs.YtcoclopllbfjcaaGreatDoor
set_option linter.unusedVariables false
set_option linter.unusedSimpArgs false
open Go.RowKit Go.Fl64

/-- a number in its box, made since a world -/
def BxP (w3 wc : World) (g : Nat) (s : Bool) (ao : Option Addr) (n cap : Nat) (ex : Int) (t : Bool × Nat × Int) : Prop := wc.heap[g]? = some (.cells #[.bool s, .slice ao n cap, .int .i64 ex] 96 (0, 0)) ∧ w3.heap.size ≤ g ∧ Below w3.heap.size w3 wc ∧ PN wc (.agg #[.bool s, .slice ao n cap, .int .i64 ex]) t
theorem BxP.new {w3 w7 : World} {s : Bool} {ao : Option Addr} {n cap : Nat} {ex : Int} {t : Bool × Nat × Int} (hn : PN w7 (.agg #[.bool s, .slice ao n cap, .int .i64 ex]) t) (hb : Below w3.heap.size w3 w7) : BxP w3 (w7.alloc (.cells #[.bool s, .slice ao n cap, .int .i64 ex] 96)) w7.heap.size s ao n cap ex t :=
  ⟨heap_alloc_new _ _, hb.size, hb.alloc hb.size _, hn.later ((Below.refl _ _).alloc (Nat.le_refl _) _)⟩
theorem BxP.put {w3 w7 : World} {g : Nat} {s : Bool} {ao : Option Addr} {n cap : Nat} {ex : Int} {t : Bool × Nat × Int} (hn : PN w7 (.agg #[.bool s, .slice ao n cap, .int .i64 ex]) t) (hb : Below w3.heap.size w3 w7) (hg : w3.heap.size ≤ g) (hbx : w7.heap[g]? = some (.cells #[.bool false, .slice none 0 0, .int .i64 0] 96 (0, 0))) :
    BxP w3 (((w7.setCell ⟨g, 0, none⟩ (.bool s)).setCell ⟨g, 1, none⟩ (.slice ao n cap)).setCell ⟨g, 2, none⟩ (.int .i64 ex)) g s ao n cap ex t :=
  ⟨store3 _ _ _ hbx, hg, below_store3 hb hg _ _ _, pn_store hn hbx _ _ _⟩

end Go.Proofs.YtcoclopllbfjcaaGreatDoor
/- The program's leastRest: its other ways out. -/
namespace Go.Proofs.YtcoclopllbfjcaaGreatDoor
set_option linter.unusedVariables false
set_option linter.unusedSimpArgs false
open Go.RowKit Go.Fl64

end Go.Proofs.YtcoclopllbfjcaaGreatDoor
/- The law's own test of layer 3: it answers true. -/
namespace Go.Proofs.YtcoclopllbfjcaaGreatDoor
set_option linter.unusedVariables false
set_option linter.unusedSimpArgs false
open Go.RowKit Go.Fl64

end Go.Proofs.YtcoclopllbfjcaaGreatDoor
/- The program's odd: whether a whole number is odd. -/
namespace Go.Proofs.YtcoclopllbfjcaaGreatDoor
set_option linter.unusedVariables false
set_option linter.unusedSimpArgs false
open Go.RowKit Go.Fl64

end Go.Proofs.YtcoclopllbfjcaaGreatDoor
/- What is left of a division to the nearest: in numbers. -/
namespace Go.Proofs.YtcoclopllbfjcaaGreatDoor
set_option linter.unusedVariables false
set_option linter.unusedSimpArgs false
open Go.RowKit Go.Fl64

end Go.Proofs.YtcoclopllbfjcaaGreatDoor
/- The program's leastRest: what it answers, in numbers. -/
namespace Go.Proofs.YtcoclopllbfjcaaGreatDoor
set_option linter.unusedVariables false
set_option linter.unusedSimpArgs false
open Go.RowKit Go.Fl64

end Go.Proofs.YtcoclopllbfjcaaGreatDoor
/- The program's leastRest: what is left of a division to the nearest. -/
namespace Go.Proofs.YtcoclopllbfjcaaGreatDoor
set_option linter.unusedVariables false
set_option linter.unusedSimpArgs false
open Go.RowKit Go.Fl64

end Go.Proofs.YtcoclopllbfjcaaGreatDoor
/- The program's leastRest and Rest. -/
namespace Go.Proofs.YtcoclopllbfjcaaGreatDoor
set_option linter.unusedVariables false
set_option linter.unusedSimpArgs false
open Go.RowKit Go.Fl64

end Go.Proofs.YtcoclopllbfjcaaGreatDoor
/- The program's Rest, all its ways out. -/
namespace Go.Proofs.YtcoclopllbfjcaaGreatDoor
set_option linter.unusedVariables false
set_option linter.unusedSimpArgs false
open Go.RowKit Go.Fl64

end Go.Proofs.YtcoclopllbfjcaaGreatDoor
/- The document's Rest, walked over what it calls. -/
namespace Go.Proofs.YtcoclopllbfjcaaGreatDoor
set_option linter.unusedVariables false
set_option linter.unusedSimpArgs false
open Go.RowKit Go.Fl64

end Go.Proofs.YtcoclopllbfjcaaGreatDoor
/- The document's Over, Scaled, Less of numbers in their shortest form. -/
namespace Go.Proofs.YtcoclopllbfjcaaGreatDoor
set_option linter.unusedVariables false
set_option linter.unusedSimpArgs false
open Go.RowKit Go.Fl64

end Go.Proofs.YtcoclopllbfjcaaGreatDoor
/- The exact sum of a list in numbers: how great it can be. -/
namespace Go.Proofs.YtcoclopllbfjcaaGreatDoor
set_option linter.unusedVariables false
set_option linter.unusedSimpArgs false
open Go.RowKit Go.Fl64

end Go.Proofs.YtcoclopllbfjcaaGreatDoor
/- Numbers written in base 16. -/
namespace Go.Proofs.YtcoclopllbfjcaaGreatDoor
set_option linter.unusedVariables false
set_option linter.unusedSimpArgs false
open Go.RowKit

end Go.Proofs.YtcoclopllbfjcaaGreatDoor
/- strings.Repeat of the sign for nought. -/
namespace Go.Proofs.YtcoclopllbfjcaaGreatDoor
set_option linter.unusedVariables false
set_option linter.unusedSimpArgs false
open Go.RowKit

end Go.Proofs.YtcoclopllbfjcaaGreatDoor
/- Show, of any number. -/
namespace Go.Proofs.YtcoclopllbfjcaaGreatDoor
set_option linter.unusedVariables false
set_option linter.unusedSimpArgs false
open Go.RowKit

end Go.Proofs.YtcoclopllbfjcaaGreatDoor
/- Sign, Bits, Top, Cmp, Show: refused; Bits, Top; Show of nought. -/
namespace Go.Proofs.YtcoclopllbfjcaaGreatDoor
set_option linter.unusedVariables false
set_option linter.unusedSimpArgs false
open Go.RowKit

end Go.Proofs.YtcoclopllbfjcaaGreatDoor
/- The document's decimal. -/
namespace Go.Proofs.YtcoclopllbfjcaaGreatDoor
set_option linter.unusedVariables false
set_option linter.unusedSimpArgs false
open Go.RowKit

end Go.Proofs.YtcoclopllbfjcaaGreatDoor
/- The document's hex. -/
namespace Go.Proofs.YtcoclopllbfjcaaGreatDoor
set_option linter.unusedVariables false
set_option linter.unusedSimpArgs false
open Go.RowKit

/-- a row of bytes that was made here -/
def OB (w wr : World) (v : Value) (L : List UInt8) : Prop := wr.ownsRow w.heap.size 5 1 v L.length (Lib.byteCells L) ∧ Below w.heap.size w wr
theorem OB.shape {w wr : World} {v : Value} {L : List UInt8} (h : OB w wr v L) : ∃ ao cap, v = .slice ao L.length cap := by
  obtain ⟨⟨-, h | ⟨g, cap, cur, h, -⟩⟩, -⟩ := h
  · exact ⟨none, 0, by rw [h.1, h.2]⟩
  · exact ⟨_, _, h⟩
end Go.Proofs.YtcoclopllbfjcaaGreatDoor
/- The document's Show. -/
namespace Go.Proofs.YtcoclopllbfjcaaGreatDoor
set_option linter.unusedVariables false
set_option linter.unusedSimpArgs false
open Go.RowKit

end Go.Proofs.YtcoclopllbfjcaaGreatDoor
/- The document's Neg, Abs. -/
namespace Go.Proofs.YtcoclopllbfjcaaGreatDoor
set_option linter.unusedVariables false
set_option linter.unusedSimpArgs false
open Go.RowKit

end Go.Proofs.YtcoclopllbfjcaaGreatDoor
/- DyadAsks: the calls of both sides joined. -/
namespace Go.Proofs.YtcoclopllbfjcaaGreatDoor
set_option linter.unusedVariables false
set_option linter.unusedSimpArgs false
open Go.RowKit

/-- what the program holds -/
theorem PI.open {na : Bool} {un x : Nat} {ea : Int} {W : World} {X : Value} (hX : PI na un x ea W X) : ∃ pa pc, X = .agg #[.bool na, .slice pa un pc, .int .i64 ea] ∧ At W pa un x := by
  obtain ⟨v, b, rfl, d1⟩ := hX
  obtain ⟨pa, pc, rfl, p1, p2⟩ := d1.at
  exact ⟨pa, pc, rfl, p2⟩
theorem PI.is {na : Bool} {x : Nat} {ea : Int} {W : World} {X : Value} (hX : PI na (dlen x) x ea W X) : ∃ pa pc, X = .agg #[.bool na, .slice pa (dlen x) pc, .int .i64 ea] ∧ Is W (.slice pa (dlen x) pc) x := by
  obtain ⟨v, b, rfl, d1⟩ := hX
  obtain ⟨pa, pc, e1, i1⟩ := dn_pn (s := na) (e := ea) d1
  exact ⟨pa, pc, e1, i1⟩

end Go.Proofs.YtcoclopllbfjcaaGreatDoor
/- DyadOrder. -/
namespace Go.Proofs.YtcoclopllbfjcaaGreatDoor
set_option linter.unusedVariables false
set_option linter.unusedSimpArgs false
open Go.RowKit Go.Fl64

end Go.Proofs.YtcoclopllbfjcaaGreatDoor
/- The program's Fma of floats. -/
namespace Go.Proofs.YtcoclopllbfjcaaGreatDoor
set_option linter.unusedVariables false
set_option linter.unusedSimpArgs false
open Go.RowKit Go.Fl64

end Go.Proofs.YtcoclopllbfjcaaGreatDoor
/- The document's Fma of floats. -/
namespace Go.Proofs.YtcoclopllbfjcaaGreatDoor
set_option linter.unusedVariables false
set_option linter.unusedSimpArgs false
open Go.RowKit Go.Fl64

end Go.Proofs.YtcoclopllbfjcaaGreatDoor
/- The law's own test answers true; RoundSums. -/
namespace Go.Proofs.YtcoclopllbfjcaaGreatDoor
set_option linter.unusedVariables false
set_option linter.unusedSimpArgs false
open Go.RowKit Go.Fl64

end Go.Proofs.YtcoclopllbfjcaaGreatDoor
/- Fma of floats: the program and the document answer alike. -/
namespace Go.Proofs.YtcoclopllbfjcaaGreatDoor
set_option linter.unusedVariables false
set_option linter.unusedSimpArgs false
open Go.RowKit Go.Fl64

end Go.Proofs.YtcoclopllbfjcaaGreatDoor
/- What is rounded down and up are the same or neighbours; the float above. -/
namespace Go.Proofs.YtcoclopllbfjcaaGreatDoor
set_option linter.unusedVariables false
set_option linter.unusedSimpArgs false
open Go.RowKit Go.Fl64

theorem Rounds.step {A u b0 b2 : Nat} (h0 : Rounds A u b0 0) (h2 : Rounds A u b2 2) : b0 ≤ b2 ∧ b2 ≤ b0 + 1 := by
  obtain ⟨c0, ⟨p1, p2⟩, q0, -, -⟩ := h0.fl
  obtain ⟨c2, ⟨r1, r2⟩, -, s2, -⟩ := h2.fl
  have e0 := q0 rfl
  have e2 := s2 rfl
  have h1 := floor_mono (Nat.le_refl A) p1 r2
  have h3 := floor_mono (Nat.le_refl A) r1 p2
  have : c0 = c2 := by omega
  subst this
  rw [e0, e2]
  split <;> omega
end Go.Proofs.YtcoclopllbfjcaaGreatDoor
/- The law's 'between': in order, the same or neighbours, on both sides of the exact value. -/
namespace Go.Proofs.YtcoclopllbfjcaaGreatDoor
set_option linter.unusedVariables false
set_option linter.unusedSimpArgs false
open Go.RowKit Go.Fl64

end Go.Proofs.YtcoclopllbfjcaaGreatDoor
/- RoundHolds: the law's walk. -/
namespace Go.Proofs.YtcoclopllbfjcaaGreatDoor
set_option linter.unusedVariables false
set_option linter.unusedSimpArgs false
open Go.RowKit Go.Fl64

end Go.Proofs.YtcoclopllbfjcaaGreatDoor
/- RoundHolds. -/
namespace Go.Proofs.YtcoclopllbfjcaaGreatDoor
set_option linter.unusedVariables false
set_option linter.unusedSimpArgs false
open Go.RowKit Go.Fl64

end Go.Proofs.YtcoclopllbfjcaaGreatDoor
/- The program's powers of numbers. -/
namespace Go.Proofs.YtcoclopllbfjcaaGreatDoor
set_option linter.unusedVariables false
set_option linter.unusedSimpArgs false
open Go.RowKit Go.Fl64

theorem pn_storeP {w : World} {A : Value} {t : Bool × Nat × Int} {g : Nat} {s : Bool} {ao : Option Addr} {n cap : Nat} {e : Int} (h : PN w A t) (hg : w.heap[g]? = some (.cells #[.bool s, .slice ao n cap, .int .i64 e] 96 (0, 0))) (a b c : Value) : PN (((w.setCell ⟨g, 0, none⟩ a).setCell ⟨g, 1, none⟩ b).setCell ⟨g, 2, none⟩ c) A t := by
  obtain ⟨oo, cc, h1, ao', cap', h2, h3, h4, h5⟩ := h
  exact ⟨oo, cc, h1, ao', cap', h2, h3, h4, at_boxP h5 hg (by simp) (by simp) (by simp) a b c⟩
theorem store3_other {w : World} {g k : Nat} (a b c : Value) (h : k ≠ g) : (((w.setCell ⟨g, 0, none⟩ a).setCell ⟨g, 1, none⟩ b).setCell ⟨g, 2, none⟩ c).heap[k]? = w.heap[k]? := by
  have h' : ¬ g = k := fun e => h e.symm
  simp [World.setCell, Array.getElem?_modify, h']
def NBx (W : World) (g : Nat) (s : Bool) (ao : Option Addr) (m cap : Nat) (e : Int) : Prop := W.heap[g]? = some (.cells #[.bool s, .slice ao m cap, .int .i64 e] 96 (0, 0))
/-- what holds between two rounds: the number's box, the answer's, the argument's -/
def RdP (w : World) (g : Nat) (t p : Bool × Nat × Int) (s0 : Bool) (ao0 : Option Addr) (m0 c0 : Nat) (e0 : Int) (wr : World) (s : Bool) (ao : Option Addr) (m cap : Nat) (e : Int) : Prop :=
  NBx wr g s ao m cap e ∧ NBx wr w.heap.size s0 ao0 m0 c0 e0 ∧ NBx wr (w.heap.size + 1) false none 0 0 0 ∧ PN wr (.agg #[.bool s, .slice ao m cap, .int .i64 e]) p ∧ Below w.heap.size w wr ∧ w.heap.size + 1 < g ∧ g < wr.heap.size
theorem RdP.next {w : World} {g : Nat} {t p q : Bool × Nat × Int} {s0 : Bool} {ao0 : Option Addr} {m0 c0 : Nat} {e0 : Int} {wr w' : World} {s s' : Bool} {ao ao' : Option Addr} {m cap m' cap' : Nat} {e e' : Int}
    (h : RdP w g t p s0 ao0 m0 c0 e0 wr s ao m cap e) (hb : Below wr.heap.size wr w') (hp : PN w' (.agg #[.bool s', .slice ao' m' cap', .int .i64 e']) q) :
    RdP w g t q s0 ao0 m0 c0 e0 (((w'.setCell ⟨g, 0, none⟩ (.bool s')).setCell ⟨g, 1, none⟩ (.slice ao' m' cap')).setCell ⟨g, 2, none⟩ (.int .i64 e')) s' ao' m' cap' e' := by
  obtain ⟨h1, h2, h3, h4, h5, h6, h7⟩ := h
  have hs := hb.size
  have b1 := box_later h1 hb h7
  refine ⟨store3 _ _ _ b1, ?_, ?_, pn_storeP hp b1 _ _ _, below_store3 (h5.trans (hb.mono h5.size)) (by omega) _ _ _, h6, by simp [World.setCell]; omega⟩
  · show _ = _
    rw [store3_other _ _ _ (by omega)]; exact box_later h2 hb (by omega)
  · show _ = _
    rw [store3_other _ _ _ (by omega)]; exact box_later h3 hb (by omega)

theorem bit_tab : ∀ k : Fin 1025, (bits BinOp.and IntKind.i64 ((k.val : Nat) : Int) 1 == 1) = (k.val % 2 == 1) := by decide +kernel
theorem bit_i64 {n q : Nat} (h : n ≤ 1024) : (bits BinOp.and IntKind.i64 ((n : Int) / 2 ^ q) 1 == 1) = (n / 2 ^ q % 2 == 1) := by
  have h1 := Nat.div_le_self n (2 ^ q)
  have h2 := bit_tab ⟨n / 2 ^ q, by omega⟩
  rw [show (n : Int) / 2 ^ q = ((n / 2 ^ q : Nat) : Int) by simp]
  exact h2
theorem two_half (n q : Nat) : n / 2 ^ (q + 1) + n / 2 ^ (q + 1) + n / 2 ^ q % 2 = n / 2 ^ q := by
  rw [Nat.pow_succ, ← Nat.div_div_eq_div_mul]; omega

set_option maxHeartbeats 4000000 in
set_option maxRecDepth 200000 in
theorem smult_1 (t : Bool × Nat × Int) (P : Nat → Bool × Nat × Int) (n L : Nat) (s0 : Bool) (ao0 : Option Addr) (m0 c0 : Nat) (e0 : Int) (w : World) (hn : n ≤ 1024) (hL : Hid (bl n = L)) (hL2 : L ≤ 11)
    (hA : PN w (.agg #[.bool s0, .slice ao0 m0 c0, .int .i64 e0]) (P 1))
    (kW : ∀ W, Below w.heap.size w W → Calls Tryz.prog 136 #[.int .i64 1] W fun r w' => OutA W (P 0) r w')
    (kM : ∀ W X Y a b, Below w.heap.size w W → PN W X (P a) → PN W Y (P b) → a + b ≤ n → Calls Tryz.prog 119 #[X, Y] W fun r w' => OutN8 W (P (a + b)) r w')
    (kL : ∀ W, Calls Tryz.prog 137 #[.int .u64 n] W fun r w' => r = .returned (.int .i64 L) ∧ w' = W) :
    Calls Tryz.prog 101 #[.agg #[.bool s0, .slice ao0 m0 c0, .int .i64 e0], .int .i64 n] w fun r w' => OutA w (P n) r w' := by
  obtain ⟨W, hW⟩ : ∃ W, W = (w.alloc (.cells #[.bool s0, .slice ao0 m0 c0, .int .i64 e0] 96)).alloc (.cells #[.bool false, .slice none 0 0, .int .i64 0] 96) := ⟨_, rfl⟩
  have hsz : W.heap.size = w.heap.size + 1 + 1 := by rw [hW]; simp
  have hBW : Below w.heap.size w W := by rw [hW]; exact ((Below.refl _ _).alloc (Nat.le_refl _) _).alloc (by simp) _
  have hA1 : NBx W w.heap.size s0 ao0 m0 c0 e0 := by
    show W.heap[w.heap.size]? = _
    rw [hW, Below.heap_alloc _ _ _ (by simp)]; exact heap_alloc_new _ _
  have hA2 : NBx W (w.heap.size + 1) false none 0 0 0 := by
    show W.heap[w.heap.size + 1]? = _
    have h := heap_alloc_new (w.alloc (.cells #[.bool s0, .slice ao0 m0 c0, .int .i64 e0] 96)) (.cells #[.bool false, .slice none 0 0, .int .i64 0] 96)
    rw [hW]; simpa using h
  have k1 := kW W hBW
  have HH : Hid (NBx W w.heap.size s0 ao0 m0 c0 e0 ∧ NBx W (w.heap.size + 1) false none 0 0 0 ∧ Below w.heap.size w W ∧ W.heap.size = w.heap.size + 1 + 1) := ⟨hA1, hA2, hBW, hsz⟩
  clear hA1 hA2 hBW hsz kW
  go_enter Tryz.func101, Tryz.ntmps101
  go_wp2_with fail
  rw [← hW]
  clear hW
  refine k1.mono ?_
  rintro r w1 ⟨s, ao, m, cap, e, rfl, hp, hb⟩
  clear k1
  obtain ⟨V, hV⟩ : ∃ V, V = w1.alloc (.cells #[.bool s, .slice ao m cap, .int .i64 e] 96) := ⟨_, rfl⟩
  obtain ⟨g, hg⟩ : ∃ g, g = w1.heap.size := ⟨_, rfl⟩
  have HR : Hid (RdP w g (P 1) (P 0) s0 ao0 m0 c0 e0 V s ao m cap e) := by
    obtain ⟨h1, h2, h3, h4⟩ := HH.out
    have hs := hb.size
    have hc : Below w1.heap.size w1 V := by rw [hV]; exact (Below.refl _ _).alloc (Nat.le_refl _) _
    refine ⟨by rw [hg, hV]; exact heap_alloc_new _ _, ?_, ?_, hp.later hc, (h3.trans (hb.mono h3.size)).trans (hc.mono (by omega)), by omega, by rw [hV, hg]; simp⟩
    · exact box_later (box_later h1 hb (by omega)) hc (by omega)
    · exact box_later (box_later h2 hb (by omega)) hc (by omega)
  go_wp2_with fail
  rw [← hV, ← hg]
  clear hV hg HH hp hb
  refine (kL _).mono ?_
  rintro r w2 ⟨rfl, rfl⟩
  go_wp2
  go_loopw [6] (fun v wr => ∃ (p : Nat) (s : Bool) (ao : Option Addr) (m cap : Nat) (e : Int), p ≤ L ∧ v = .int .i64 ((p : Int) - 1) ∧ Hid (RdP w g (P 1) (P (n / 2 ^ p)) s0 ao0 m0 c0 e0 wr s ao m cap e)) (fun v _ => (intOf v + 1).toNat)
  case atStart => exact ⟨L, s, ao, m, cap, e, Nat.le_refl _, rfl, by rw [← hL.out, Nat.div_eq_of_lt (lt_bl n)]; exact HR⟩
  case round =>
    obtain ⟨p, s, ao, m, cap, e, hp, rfl, HI⟩ := hrel
    clear HR
    by_cases h0 : 0 < p
    · obtain ⟨q, rfl⟩ : ∃ q, p = q + 1 := ⟨p - 1, by omega⟩
      have e1 : ((q + 1 : Nat) : Int) - 1 = (q : Int) := by omega
      have hq0 : (0 : Int) ≤ (q : Int) := by omega
      have hq1 : (q : Int) < 64 := by omega
      rw [e1]
      obtain ⟨⟨a0, a1, a2⟩, -⟩ := box_cells HI.out.1
      have k1 := kM wr _ _ (n / 2 ^ (q + 1)) (n / 2 ^ (q + 1)) HI.out.2.2.2.2.1 HI.out.2.2.2.1 HI.out.2.2.2.1 (by have := two_half n q; have := Nat.div_le_self n (2 ^ q); omega)
      go_wp2_with fail
      refine k1.mono ?_
      rintro r w3 ⟨s1, ao1, m1, cap1, e2, rfl, hp1, hb1⟩
      have HB3 : Hid (Below wr.heap.size wr w3) := hb1
      have HI3 : Hid (RdP w g (P 1) (P (n / 2 ^ (q + 1) + n / 2 ^ (q + 1))) s0 ao0 m0 c0 e0 (((w3.setCell ⟨g, 0, none⟩ (.bool s1)).setCell ⟨g, 1, none⟩ (.slice ao1 m1 cap1)).setCell ⟨g, 2, none⟩ (.int .i64 e2)) s1 ao1 m1 cap1 e2) := HI.out.next hb1 hp1
      clear k1 a0 a1 a2
      obtain ⟨⟨a0, a1, a2⟩, f0, f1, f2⟩ := box_cells (box_later HI.out.1 hb1 HI.out.2.2.2.2.2.2)
      clear hp1 hb1 HI HB3
      go_upto_region 6 with fail
      obtain ⟨U, hU⟩ : ∃ U, U = (((w3.setCell ⟨g, 0, none⟩ (.bool s1)).setCell ⟨g, 1, none⟩ (.slice ao1 m1 cap1)).setCell ⟨g, 2, none⟩ (.int .i64 e2)) := ⟨_, rfl⟩
      rw [← hU] at HI3 ⊢
      clear hU a0 a1 a2 f0 f1 f2
      have hbit := bit_i64 (q := q) hn
      have h2 := two_half n q
      by_cases hodd : n / 2 ^ q % 2 = 1
      · rw [show (n / 2 ^ q % 2 == 1) = true by simp [hodd]] at hbit
        obtain ⟨⟨a0, a1, a2⟩, -⟩ := box_cells HI3.out.1
        obtain ⟨⟨b0, b1, b2⟩, -⟩ := box_cells HI3.out.2.1
        have k2 := kM U _ _ (n / 2 ^ (q + 1) + n / 2 ^ (q + 1)) 1 HI3.out.2.2.2.2.1 HI3.out.2.2.2.1 (hA.later HI3.out.2.2.2.2.1) (by have := Nat.div_le_self n (2 ^ q); omega)
        rw [show n / 2 ^ (q + 1) + n / 2 ^ (q + 1) + 1 = n / 2 ^ q by omega] at k2
        clear h2
        go_wp2_with fail
        refine k2.mono ?_
        rintro r w4 ⟨s3, ao3, m3, cap3, e3, rfl, hp4, hb4⟩
        have HI4 : Hid (RdP w g (P 1) (P (n / 2 ^ q)) s0 ao0 m0 c0 e0 (((w4.setCell ⟨g, 0, none⟩ (.bool s3)).setCell ⟨g, 1, none⟩ (.slice ao3 m3 cap3)).setCell ⟨g, 2, none⟩ (.int .i64 e3)) s3 ao3 m3 cap3 e3) := HI3.out.next hb4 hp4
        clear k2 a0 a1 a2 b0 b1 b2
        obtain ⟨⟨a0, a1, a2⟩, f0, f1, f2⟩ := box_cells (box_later HI3.out.1 hb4 HI3.out.2.2.2.2.2.2)
        clear hp4 hb4 HI3 hbit hodd
        go_wp2_with fail
        exact ⟨⟨q, s3, ao3, m3, cap3, e3, by omega, rfl, HI4⟩, by simp [intOf]⟩
      · rw [show (n / 2 ^ q % 2 == 1) = false by simp [hodd]] at hbit
        rw [show n / 2 ^ (q + 1) + n / 2 ^ (q + 1) = n / 2 ^ q by omega] at HI3
        clear h2 hodd
        go_wp2_with fail
        exact ⟨⟨q, s1, ao1, m1, cap1, e2, by omega, rfl, HI3⟩, by simp [intOf]⟩
    · obtain rfl : p = 0 := by omega
      rw [Nat.pow_zero, Nat.div_one] at HI
      obtain ⟨⟨a0, a1, a2⟩, -⟩ := box_cells HI.out.1
      obtain ⟨⟨b0, b1, b2⟩, f0, f1, f2⟩ := box_cells HI.out.2.2.1
      go_wp2_with fail
      refine bodyPost_ret (results_cell_row rfl _ _ (w.heap.size + 1) 96 #[.bool s, .slice ao m cap, .int .i64 e] (0, 0) _ rfl (store3 _ _ _ HI.out.2.2.1) Tryz.underlying96 rfl Tryz.info96) rfl ?_
      exact ⟨s, ao, m, cap, e, rfl, pn_storeP HI.out.2.2.2.1 HI.out.2.2.1 _ _ _, below_store3 HI.out.2.2.2.2.1 (by omega) _ _ _⟩
end Go.Proofs.YtcoclopllbfjcaaGreatDoor
