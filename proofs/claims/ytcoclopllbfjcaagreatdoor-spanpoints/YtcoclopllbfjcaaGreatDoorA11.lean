/- Own work: contracts of the program's functions, part 11: UA3 UA4 UA5 UA6 UA7 SB1 SB2 SB3 SC1 RY6 SC2 RY7 SD1 RE1 RE3 RE4 SD2 UA8 UA9 UB1 UB2 UB3 SB4 SB5 SH5 SB6 SH6 SH7 SH8 SH9 SI1 SI2 SI3 SI4 UB4 HX W46 W47 W48 RE2 RE5 RE6 RD2 L12 L15 SE1 SE2 SB7 SE3 SF1 SF2 SF3 SF4 SN1 SN2 SN3 SN4 SN5 SN6. -/
import Derived.Test.YtcoclopllbfjcaaGreatDoorA10
import Derived.Shelf.Abstract
import Derived.Shelf.RegionOpen
import Derived.WalkKit
import Derived.OwnWalkIn
import Derived.TacticsInMore
import Derived.LoopNIn
import Derived.LoopIn
import Derived.Test.YtcoclopllbfjcaaGreatDoorA9
import Derived.Test.YtcoclopllbfjcaaGreatDoorA5
import Derived.Test.YtcoclopllbfjcaaGreatDoorA7
import Derived.Test.YtcoclopllbfjcaaGreatDoorA8
import Derived.Test.YtcoclopllbfjcaaGreatDoorA3
import Derived.Test.YtcoclopllbfjcaaGreatDoorA6
import Derived.Lib.ItoaNum

/- The iterator over a list's floats, as exact numbers. -/
namespace Go.Proofs.YtcoclopllbfjcaaGreatDoor
set_option linter.unusedVariables false
set_option linter.unusedSimpArgs false
open Go Go.RowKit Go.Fl64 Go.Shelf
attribute [local go_sem] Oper.semAt_some

/-- a list of floats in memory -/
def FAt (w : World) (ao : Option Addr) (len : Nat) (xs : Nat → Nat) : Prop := ∃ b off, (0 < len → ao = some ⟨b, off, none⟩) ∧ ∀ j, j < len → w.cell? ⟨b, off + j, none⟩ = some (.float .f64 (xs j))
theorem FAt.later {w w' : World} {ao : Option Addr} {len : Nat} {xs : Nat → Nat} (h : FAt w ao len xs) (hb : Below w.heap.size w w') : FAt w' ao len xs := by
  obtain ⟨b, off, h1, h2⟩ := h
  refine ⟨b, off, h1, fun j hj => ?_⟩
  have := h2 j hj
  have hlt : b < w.heap.size := by
    unfold World.cell? at this
    rcases Nat.lt_or_ge b w.heap.size with h | h
    · exact h
    · rw [Array.getElem?_eq_none h] at this
      simp at this
  exact (hb.cell (p := ⟨b, off + j, none⟩) hlt).trans this

end Go.Proofs.YtcoclopllbfjcaaGreatDoor
/- The exact sum of a list's floats. -/
namespace Go.Proofs.YtcoclopllbfjcaaGreatDoor
set_option linter.unusedVariables false
set_option linter.unusedSimpArgs false
open Go Go.RowKit Go.Fl64 Go.Shelf
attribute [local go_sem] Oper.semAt_some

/-- the sum of the first floats of a list, in its one form -/
def tSum (xs : Nat → Nat) : Nat → Bool × Nat × Int
  | 0 => (false, 0, 0)
  | k + 1 => tS (tSum xs k) (tF (xs k))

theorem cell_put {W : World} {l : Nat} {o o' : Obj} {p : Addr} {v : Value} (h : W.cell? p = some v) (hl : W.heap[l]? = some o) (ho : o.isCells = false) : (W.putObj l o').cell? p = some v := by
  unfold World.cell? at *
  by_cases e : p.block = l
  · rw [e, hl] at h
    cases o <;> simp_all [Obj.isCells]
  · rw [World.putObj_heap_other e]; exact h
theorem pn_put {W : World} {l : Nat} {o o' : Obj} {A : Value} {t : Bool × Nat × Int} (h : PN W A t) (hl : W.heap[l]? = some o) (ho : o.isCells = false) : PN (W.putObj l o') A t := by
  obtain ⟨ao, cap, h1, ao', cap', h2, h3, h4, b, off, h5, h6⟩ := h
  exact ⟨ao, cap, h1, ao', cap', h2, h3, h4, b, off, h5, fun i hi => cell_put (h6 i hi) hl ho⟩
theorem box_put {W : World} {l g : Nat} {o o' : Obj} {c : Array Value} {ty : TypeId} {z : Nat × Nat} (h : W.heap[g]? = some (.cells c ty z)) (hl : W.heap[l]? = some o) (ho : o.isCells = false) : (W.putObj l o').heap[g]? = some (.cells c ty z) := by
  have e : g ≠ l := by
    intro e
    rw [e, hl] at h
    cases h
    cases ho
  rw [World.putObj_heap_other e]; exact h
/-- what holds between two rounds: the result's box is empty, the sum's box holds the sum so far -/
def TotI (w : World) (B g3 : Nat) (xs : Nat → Nat) (k : Nat) (W : World) : Prop :=
  Below w.heap.size w W ∧ B ≤ W.heap.size ∧ W.heap[w.heap.size]? = some (.cells #[.bool false, .slice none 0 0, .int .i64 0] 96 (0, 0)) ∧ ∃ s ao n cap e, W.heap[g3]? = some (.cells #[.bool s, .slice ao n cap, .int .i64 e] 96 (0, 0)) ∧ PN W (.agg #[.bool s, .slice ao n cap, .int .i64 e]) (tSum xs k)
theorem TotI.later {w : World} {B g3 : Nat} {xs : Nat → Nat} {k : Nat} {A C : World} (h : TotI w B g3 xs k A) (hb : Below A.heap.size A C) : TotI w B g3 xs k C := by
  obtain ⟨h1, h2, h3, s, ao, n, cap, e, h4, h5⟩ := h
  exact ⟨h1.trans (hb.mono h1.size), Nat.le_trans h2 hb.size, box_later h3 hb (lt_of_box h3), s, ao, n, cap, e, box_later h4 hb (lt_of_box h4), h5.later hb⟩
theorem TotI.put {w : World} {B g3 : Nat} {xs : Nat → Nat} {k l : Nat} {A : World} {o o' : Obj} (h : TotI w B g3 xs k A) (hB : w.heap.size ≤ B) (hl : B ≤ l) (ho : A.heap[l]? = some o) (hc : o.isCells = false) : TotI w B g3 xs k (A.putObj l o') := by
  obtain ⟨h1, h2, h3, s, ao, n, cap, e, h4, h5⟩ := h
  have hb : Below w.heap.size A (A.putObj l o') := (Below.refl w.heap.size A).grown (grownBy_putObj' A l o') (by have := (Array.getElem?_eq_some_iff.1 ho).1; omega) (fun k e => by cases e; omega)
  exact ⟨h1.trans hb, Nat.le_trans h2 hb.size, box_put h3 ho hc, s, ao, n, cap, e, box_put h4 ho hc, pn_put h5 ho hc⟩
theorem KeepsFrom.below {B : Nat} {W W' : World} (h : Below W.heap.size W W') : KeepsFrom B W W' := ⟨h.size, fun k o _ hk _ => box_later hk h (Array.getElem?_eq_some_iff.1 hk).1⟩

end Go.Proofs.YtcoclopllbfjcaaGreatDoor
/- sums.taken, sums.finite, sums.near. -/
namespace Go.Proofs.YtcoclopllbfjcaaGreatDoor
set_option linter.unusedVariables false
set_option linter.unusedSimpArgs false
open Go.RowKit Go.Fl64

/-- a number of the program in its box, made since a world -/
def UxP (w3 wc : World) (g : Nat) (s : Bool) (ao : Option Addr) (n cap : Nat) (ex : Int) (t : Bool × Nat × Int) : Prop := wc.heap[g]? = some (.cells #[.bool s, .slice ao n cap, .int .i64 ex] 96 (0, 0)) ∧ w3.heap.size ≤ g ∧ Below w3.heap.size w3 wc ∧ PN wc (.agg #[.bool s, .slice ao n cap, .int .i64 ex]) t
theorem UxP.new {w3 w7 : World} {s : Bool} {ao : Option Addr} {n cap : Nat} {ex : Int} {t : Bool × Nat × Int} (hn : PN w7 (.agg #[.bool s, .slice ao n cap, .int .i64 ex]) t) (hb : Below w3.heap.size w3 w7) : UxP w3 (w7.alloc (.cells #[.bool s, .slice ao n cap, .int .i64 ex] 96)) w7.heap.size s ao n cap ex t :=
  ⟨heap_alloc_new _ _, hb.size, hb.alloc hb.size _, hn.later ((Below.refl _ _).alloc (Nat.le_refl _) _)⟩
theorem UxP.put {w3 w7 : World} {g : Nat} {s : Bool} {ao : Option Addr} {n cap : Nat} {ex : Int} {t : Bool × Nat × Int} (hn : PN w7 (.agg #[.bool s, .slice ao n cap, .int .i64 ex]) t) (hb : Below w3.heap.size w3 w7) (hg : w3.heap.size ≤ g) (hbx : w7.heap[g]? = some (.cells #[.bool false, .slice none 0 0, .int .i64 0] 96 (0, 0))) :
    UxP w3 (((w7.setCell ⟨g, 0, none⟩ (.bool s)).setCell ⟨g, 1, none⟩ (.slice ao n cap)).setCell ⟨g, 2, none⟩ (.int .i64 ex)) g s ao n cap ex t :=
  ⟨store3 _ _ _ hbx, hg, below_store3 hb hg _ _ _, pn_store hn hbx _ _ _⟩

end Go.Proofs.YtcoclopllbfjcaaGreatDoor
/- sums.finite, sums.near, sums.floats, sums.Two. -/
namespace Go.Proofs.YtcoclopllbfjcaaGreatDoor
set_option linter.unusedVariables false
set_option linter.unusedSimpArgs false
open Go.RowKit Go.Fl64

end Go.Proofs.YtcoclopllbfjcaaGreatDoor
/- The sum of two floats to the nearest, as a function; sums.near and the document's add. -/
namespace Go.Proofs.YtcoclopllbfjcaaGreatDoor
set_option linter.unusedVariables false
set_option linter.unusedSimpArgs false
open Go.RowKit Go.Fl64

theorem lk_or {n X : Nat} (h : lk n X) : n = X ∨ (isNaN n = true ∧ isNaN X = true) := by
  cases hn : isNaN X
  · exact .inl (h.eq hn)
  · cases h2 : isNaN n
    · have := h.2
      unfold same at this
      rw [hn, h2] at this
      have e : n = X := by simp at this; omega
      rw [e, hn] at h2
      cases h2
    · exact .inr ⟨rfl, rfl⟩
end Go.Proofs.YtcoclopllbfjcaaGreatDoor
/- The program's Div of floats where something is to be rounded. -/
namespace Go.Proofs.YtcoclopllbfjcaaGreatDoor
set_option linter.unusedVariables false
set_option linter.unusedSimpArgs false
open Go.RowKit Go.Fl64

/-- how many digits are laid behind the dividend -/
def rtK (t1 t2 : Bool × Nat × Int) : Nat := (max 0 (64 + (bl t2.2.1 : Int) - (bl t1.2.1 : Int))).toNat
/-- the quotient, rounded -/
def rtF (t1 t2 : Bool × Nat × Int) (m : Int) : Nat := tfF (t1.1 != t2.1) (decide (t1.2.1 * 2 ^ rtK t1 t2 % t2.2.1 = 0)) (t1.2.1 * 2 ^ rtK t1 t2 / t2.2.1) (t1.2.2 - t2.2.2 - rtK t1 t2) m
theorem pratio {t1 t2 : Bool × Nat × Int} {X Y : Value} {m : Int} {w : World} (hT : Tab32 w) (o1 : Ok t1) (o2 : Ok t2) (h1 : PN w X t1) (h2 : PN w Y t2) (x0 : t1.2.1 ≠ 0) (y0 : t2.2.1 ≠ 0) (hm : 1 ≤ m ∧ m ≤ 3) :
    Calls Tryz.prog 89 #[X, Y, .int .i64 m] w fun r w' => r = .returned (.tuple #[.float .f64 (rtF t1 t2 m), .int .i64 0]) ∧ Below w.heap.size w w' := by
  obtain ⟨pa, pc, rfl, i1⟩ := h1
  obtain ⟨qa, qc, rfl, i2⟩ := h2
  have f1 := o1.facts
  have f2 := o2.facts
  have bx := bl_le_dlen t1.2.1
  have by' := bl_le_dlen t2.2.1
  have hn0 : ((dlen t1.2.1 : Int) == 0) = false := by
    have : dlen t1.2.1 ≠ 0 := fun e => x0 (dlen_eq_zero.1 e)
    simp; omega
  have hn1 : ((dlen t2.2.1 : Int) == 0) = false := by
    have : dlen t2.2.1 ≠ 0 := fun e => y0 (dlen_eq_zero.1 e)
    simp; omega
  have hk : max 0 (64 + (bl t2.2.1 : Int) - (bl t1.2.1 : Int)) = (rtK t1 t2 : Int) := by unfold rtK; omega
  refine pratio_1 t1.1 t2.1 pa qa _ pc _ qc _ _ (rtK t1 t2) (bl t1.2.1) (bl t2.2.1) t1.2.2 t2.2.2 m (t1.1 != t2.1) w (rfl : (!(t1.1 == t2.1)) = (t1.1 != t2.1)) hT i1 i2 (by omega) (by omega) y0 (by omega) (by omega) (by omega) (by omega) (by omega) rfl rfl (by omega) (by omega) hk (by omega) hn0 hn1 (fun W' g hW' hg => ?_)
  have := maybe2 hg (i1.later hW') (i2.later hW') (by omega) (by omega)
  rw [show okN t1.1 (dlen t1.2.1) t1.2.1 t1.2.2 = true from o1, show okN t2.1 (dlen t2.2.1) t2.2.1 t2.2.2 = true from o2] at this
  exact this

theorem ne_nought {a : Nat} (ha : a < 18446744073709551616) (hf : mag a < 9218868437227405312) : (FloatKind.f64.format.order a 0 != some Ordering.eq) = decide (mag a ≠ 0) := by
  rw [bne, ord_eq a 0 ha (by decide)]
  have na : isNaN a = false := by unfold isNaN; simp; omega
  have nb : isNaN 0 = false := by decide
  unfold Fl64.eq
  rw [na, nb]
  have e0 : stp 0 = 0 := by decide
  rw [e0]
  by_cases h : mag a = 0
  · have : stp a = 0 := by unfold stp sgn; rw [h]; simp
    simp [this, h]
  · have : stp a ≠ 0 := by unfold stp sgn; split <;> omega
    simp [this, h]
theorem pplain_y (a : Nat) (ha : a < 18446744073709551616) (hf : mag a < 9218868437227405312) (h0 : mag a ≠ 0) (w : World) : Calls Tryz.prog 82 #[.float .f64 a] w fun r w' => r = .returned (.bool true) ∧ w' = w := by
  have k := pfin_y a ha hf
  have he := ne_nought ha hf
  rw [decide_eq_true h0] at he
  clear ha hf h0
  go_enter Tryz.func82, Tryz.ntmps82
  go_wp2_with (go_at_call 118; refine (k _).mono ?_; rintro e w' ⟨rfl, rfl⟩)
  go_ret
  exact ⟨rfl, rfl⟩
theorem pplain_z (a : Nat) (ha : a < 18446744073709551616) (h0 : mag a = 0) (w : World) : Calls Tryz.prog 82 #[.float .f64 a] w fun r w' => r = .returned (.bool false) ∧ w' = w := by
  have k := pfin_y a ha (by omega)
  have he := ne_nought ha (by omega)
  rw [decide_eq_false (by omega)] at he
  clear ha h0
  go_enter Tryz.func82, Tryz.ntmps82
  go_wp2_with (go_at_call 118; refine (k _).mono ?_; rintro e w' ⟨rfl, rfl⟩)
  go_ret
  exact ⟨rfl, rfl⟩
theorem pplain_n (a : Nat) (ha : a < 18446744073709551616) (hf : ¬ mag a < 9218868437227405312) (w : World) : Calls Tryz.prog 82 #[.float .f64 a] w fun r w' => r = .returned (.bool false) ∧ w' = w.drew := by
  have k := pfin_n a ha hf w
  clear ha hf
  go_enter Tryz.func82, Tryz.ntmps82
  go_wp2_with fail
  refine k.mono ?_
  rintro e w' ⟨rfl, hw⟩
  rw [hw]
  clear hw k w'
  go_wp2
  go_ret
  exact ⟨rfl, rfl⟩

set_option maxHeartbeats 4000000 in
set_option maxRecDepth 200000 in
theorem pdiv_r (a b F : Nat) (m : Int) (ta tb : Bool × Nat × Int) (w : World) (hm : isM m = true)
    (hfa : ∀ W, Calls Tryz.prog 82 #[.float .f64 a] W fun r w' => r = .returned (.bool true) ∧ w' = W)
    (hfb : ∀ W, Calls Tryz.prog 82 #[.float .f64 b] W fun r w' => r = .returned (.bool true) ∧ w' = W)
    (kA : Calls Tryz.prog 85 #[.float .f64 a] w fun r w' => OutA w ta r w')
    (kB : ∀ W, Below w.heap.size w W → Calls Tryz.prog 85 #[.float .f64 b] W fun r w' => OutA W tb r w')
    (kC : ∀ W X Y, Below w.heap.size w W → PN W X ta → PN W Y tb → Calls Tryz.prog 89 #[X, Y, .int .i64 m] W fun r w' => r = .returned (.tuple #[.float .f64 F, .int .i64 0]) ∧ Below W.heap.size W w') :
    Calls Tryz.prog 43 #[.float .f64 a, .float .f64 b, .int .i64 m] w fun r w' => r = .returned (.float .f64 F) ∧ Below w.heap.size w w' := by
  have kV := pvalid m w
  rw [hm] at kV
  have HKB : Hid (∀ W, Below w.heap.size w W → Calls Tryz.prog 85 #[.float .f64 b] W fun r w' => OutA W tb r w') := kB
  have HKC : Hid (∀ W X Y, Below w.heap.size w W → PN W X ta → PN W Y tb → Calls Tryz.prog 89 #[X, Y, .int .i64 m] W fun r w' => r = .returned (.tuple #[.float .f64 F, .int .i64 0]) ∧ Below W.heap.size W w') := kC
  clear kB kC
  go_enter Tryz.func43, Tryz.ntmps43
  go_wp2_with fail
  refine kV.mono ?_
  rintro r w' ⟨rfl, hw⟩
  rw [hw]
  clear hw kV
  have kN := hfa w
  go_wp2_with fail
  refine kN.mono ?_
  rintro r w' ⟨rfl, hw⟩
  rw [hw]
  clear hw kN hfa
  have kN := hfb w
  go_wp2_with fail
  refine kN.mono ?_
  rintro r w' ⟨rfl, hw⟩
  rw [hw]
  clear hw kN hfb
  go_wp2_with fail
  refine kA.mono ?_
  rintro r w1 ⟨s1, ao1, n1, cap1, ex1, rfl, hP1, hb1⟩
  have k2 := HKB.out w1 hb1
  clear kA
  go_wp2_with fail
  refine k2.mono ?_
  rintro r w2 ⟨s2, ao2, n2, cap2, ex2, rfl, hP2, hb2⟩
  have HB2 : Hid (Below w.heap.size w w2) := hb1.trans (hb2.mono hb1.size)
  have k3 := HKC.out w2 _ _ HB2.out (hP1.later hb2) hP2
  clear k2 hP1 hP2 hb1 hb2
  go_wp2_with fail
  refine k3.mono ?_
  rintro r w3 ⟨rfl, hb3⟩
  have HB3 : Hid (Below w.heap.size w w3) := HB2.out.trans (hb3.mono HB2.out.size)
  clear k3 hb3
  go_wp2_with fail
  go_ret
  exact ⟨rfl, HB3.out⟩

/-- Div of two floats that are finite and not nought -/
theorem pdiv_ok (a b : Nat) (m : Int) (w : World) (hm : isM m = true) (hT : Tab32 w) (hI : Ie.Tab w) (ha : a < 18446744073709551616) (hb : b < 18446744073709551616) (hfa : mag a < 9218868437227405312) (hfb : mag b < 9218868437227405312) (ha0 : mag a ≠ 0) (hb0 : mag b ≠ 0) (xa : (tF a).2.1 ≠ 0) (xb : (tF b).2.1 ≠ 0) :
    Calls Tryz.prog 43 #[.float .f64 a, .float .f64 b, .int .i64 m] w fun r w' => r = .returned (.float .f64 (rtF (tF a) (tF b) m)) ∧ Below w.heap.size w w' :=
  pdiv_r a b _ m (tF a) (tF b) w hm (pplain_y a ha hfa ha0) (pplain_y b hb hfb hb0) (exact_ok a ha hfa w hT hI) (fun W h => exact_ok b hb hfb W (hT.later h) (Tab.later hI h)) (fun W X Y h h1 h2 => pratio (hT.later h) (tF_ok a) (tF_ok b) h1 h2 xa xb (isM_iff.1 hm))
theorem tF_ne {a : Nat} (h : mag a ≠ 0) : (tF a).2.1 ≠ 0 := by
  have h1 := Ie.mant_ne h
  unfold tF cn
  rw [if_neg h1]
  intro e
  have := (tz_spec _ _ (Nat.le_refl _) h1).2
  simp only at e
  rw [e] at this
  simp at this
end Go.Proofs.YtcoclopllbfjcaaGreatDoor
/- The program's Hypot of finite floats. -/
namespace Go.Proofs.YtcoclopllbfjcaaGreatDoor
set_option linter.unusedVariables false
set_option linter.unusedSimpArgs false
open Go.RowKit Go.Fl64

end Go.Proofs.YtcoclopllbfjcaaGreatDoor
/- Hypot of 3 and 4, and a float made whole: what the law's own test asks. -/
namespace Go.Proofs.YtcoclopllbfjcaaGreatDoor
set_option linter.unusedVariables false
set_option linter.unusedSimpArgs false
open Go.RowKit Go.Fl64

/-- the product of two numbers, in its one form -/
def tM (t1 t2 : Bool × Nat × Int) : Bool × Nat × Int := cn (!(t1.1 == t2.1)) (t1.2.1 * t2.2.1) (t1.2.2 + t2.2.2)
theorem tM_ok {t1 t2 : Bool × Nat × Int} (h : okR (!(t1.1 == t2.1)) (t1.2.1 * t2.2.1) (t1.2.2 + t2.2.2) = true) : Ok (tM t1 t2) := ok_cn h
end Go.Proofs.YtcoclopllbfjcaaGreatDoor
/- The program's Mul and Div of floats, in every case. -/
namespace Go.Proofs.YtcoclopllbfjcaaGreatDoor
set_option linter.unusedVariables false
set_option linter.unusedSimpArgs false
open Go.RowKit Go.Fl64

/-- how an operation of the machine answers: in every world the same float, or a NaN that is drawn -/
def Rn (op : BinOp) (a b F : Nat) : Prop := (∀ W, (binOp op 22 (.float .f64 a) (.float .f64 b)).run Tryz.prog W = .ok (.float .f64 F) W) ∨ ∀ W, ∃ n, lk n F ∧ (binOp op 22 (.float .f64 a) (.float .f64 b)).run Tryz.prog W = .ok (.float .f64 n) W.drew
theorem rn_of {op : BinOp} {a b F : Nat} (hop : op = .add ∨ op = .sub ∨ op = .mul ∨ op = .quo) (h : (floatBits op .f64 a b = none ∧ isNaN F = true) ∨ floatBits op .f64 a b = some F) : Rn op a b F := by
  rcases h with ⟨h1, h2⟩ | h1
  · refine .inr fun W => ?_
    obtain ⟨n, n1, n2, hs⟩ := run_nan (P := Tryz.prog) W op 22 a b hop h1
    exact ⟨n, lk.nan n1 n2 h2, hs⟩
  · exact .inl fun W => run_float_arith W op 22 .f64 a b _ h1
theorem pplain_f (a : Nat) (ha : a < 18446744073709551616) (h : pln a = false) (w : World) : Calls Tryz.prog 82 #[.float .f64 a] w fun r w' => r = .returned (.bool false) ∧ Below w.heap.size w w' := by
  rcases pln_false.1 h with h | h
  · exact (pplain_n a ha h w).mono fun r w' ⟨e, hw⟩ => ⟨e, hw ▸ (Below.refl _ _).drew⟩
  · exact (pplain_z a ha h w).mono fun r w' ⟨e, hw⟩ => ⟨e, hw ▸ Below.refl _ _⟩
theorem pplain_t (a : Nat) (ha : a < 18446744073709551616) (h : pln a = true) (w : World) : Calls Tryz.prog 82 #[.float .f64 a] w fun r w' => r = .returned (.bool true) ∧ w' = w := pplain_y a ha (pln_true.1 h).1 (pln_true.1 h).2 w

theorem pmul_no (a b : Nat) (m : Int) (w : World) (hm : isM m = false) : Calls Tryz.prog 36 #[.float .f64 a, .float .f64 b, .int .i64 m] w fun r w' => r = .returned (.float .f64 9221120237041090561) ∧ Below w.heap.size w w' := by
  have kV := pvalid m w
  rw [hm] at kV
  go_enter Tryz.func36, Tryz.ntmps36
  go_wp2_with fail
  refine kV.mono ?_
  rintro r w' ⟨rfl, hw⟩
  rw [hw]
  clear hw kV w'
  have kN := Ie.c52 w
  go_wp2_with fail
  refine kN.mono ?_
  rintro r w' ⟨rfl, hw⟩
  rw [hw]
  clear hw kN w'
  go_wp2_with fail
  go_ret
  exact ⟨rfl, Below.refl _ _⟩

set_option maxHeartbeats 4000000 in
set_option maxRecDepth 200000 in
theorem pmul_na (a b F : Nat) (m : Int) (w : World) (hm : isM m = true) (hfa : ∀ W, Calls Tryz.prog 82 #[.float .f64 a] W fun r w' => r = .returned (.bool false) ∧ Below W.heap.size W w') (h : Rn .mul a b F) (hF : F < 18446744073709551616) :
    Calls Tryz.prog 36 #[.float .f64 a, .float .f64 b, .int .i64 m] w fun r w' => OutF2 w F r w' := by
  have kV := pvalid m w
  rw [hm] at kV
  have HF : Hid (F < 18446744073709551616 ∧ Rn .mul a b F) := ⟨hF, h⟩
  clear hF h
  go_enter Tryz.func36, Tryz.ntmps36
  go_wp2_with fail
  refine kV.mono ?_
  rintro r w' ⟨rfl, hw⟩
  rw [hw]
  clear hw kV w'
  have kN := hfa w
  go_wp2_with fail
  refine kN.mono ?_
  rintro r w1 ⟨rfl, hb1⟩
  have HB : Hid (Below w.heap.size w w1 ∧ Below w.heap.size w w1.drew) := ⟨hb1, hb1.drew⟩
  clear hb1 kN hfa
  rcases HF.out.2 with h | h
  · have hr := h w1
    clear h
    go_wp2_with fail
    go_ret
    exact ⟨_, rfl, lk.refl HF.out.1, HB.out.1⟩
  · obtain ⟨n, hn, hr⟩ := h w1
    have HN : Hid (lk n F) := hn
    clear hn h
    go_wp2_with fail
    go_ret
    exact ⟨_, rfl, HN.out, HB.out.2⟩

set_option maxHeartbeats 4000000 in
set_option maxRecDepth 200000 in
theorem pmul_nb (a b F : Nat) (m : Int) (w : World) (hm : isM m = true) (hfa : ∀ W, Calls Tryz.prog 82 #[.float .f64 a] W fun r w' => r = .returned (.bool true) ∧ w' = W) (hfb : ∀ W, Calls Tryz.prog 82 #[.float .f64 b] W fun r w' => r = .returned (.bool false) ∧ Below W.heap.size W w') (h : Rn .mul a b F) (hF : F < 18446744073709551616) :
    Calls Tryz.prog 36 #[.float .f64 a, .float .f64 b, .int .i64 m] w fun r w' => OutF2 w F r w' := by
  have kV := pvalid m w
  rw [hm] at kV
  have HF : Hid (F < 18446744073709551616 ∧ Rn .mul a b F) := ⟨hF, h⟩
  clear hF h
  go_enter Tryz.func36, Tryz.ntmps36
  go_wp2_with fail
  refine kV.mono ?_
  rintro r w' ⟨rfl, hw⟩
  rw [hw]
  clear hw kV w'
  have kN := hfa w
  go_wp2_with fail
  refine kN.mono ?_
  rintro r w' ⟨rfl, hw⟩
  rw [hw]
  clear hw kN hfa w'
  have kN := hfb w
  go_wp2_with fail
  refine kN.mono ?_
  rintro r w1 ⟨rfl, hb1⟩
  have HB : Hid (Below w.heap.size w w1 ∧ Below w.heap.size w w1.drew) := ⟨hb1, hb1.drew⟩
  clear hb1 kN hfb
  rcases HF.out.2 with h | h
  · have hr := h w1
    clear h
    go_wp2_with fail
    go_ret
    exact ⟨_, rfl, lk.refl HF.out.1, HB.out.1⟩
  · obtain ⟨n, hn, hr⟩ := h w1
    have HN : Hid (lk n F) := hn
    clear hn h
    go_wp2_with fail
    go_ret
    exact ⟨_, rfl, HN.out, HB.out.2⟩

theorem pdiv_no (a b : Nat) (m : Int) (w : World) (hm : isM m = false) : Calls Tryz.prog 43 #[.float .f64 a, .float .f64 b, .int .i64 m] w fun r w' => r = .returned (.float .f64 9221120237041090561) ∧ Below w.heap.size w w' := by
  have kV := pvalid m w
  rw [hm] at kV
  go_enter Tryz.func43, Tryz.ntmps43
  go_wp2_with fail
  refine kV.mono ?_
  rintro r w' ⟨rfl, hw⟩
  rw [hw]
  clear hw kV w'
  have kN := Ie.c52 w
  go_wp2_with fail
  refine kN.mono ?_
  rintro r w' ⟨rfl, hw⟩
  rw [hw]
  clear hw kN w'
  go_wp2_with fail
  go_ret
  exact ⟨rfl, Below.refl _ _⟩

set_option maxHeartbeats 4000000 in
set_option maxRecDepth 200000 in
theorem pdiv_na (a b F : Nat) (m : Int) (w : World) (hm : isM m = true) (hfa : ∀ W, Calls Tryz.prog 82 #[.float .f64 a] W fun r w' => r = .returned (.bool false) ∧ Below W.heap.size W w') (h : Rn .quo a b F) (hF : F < 18446744073709551616) :
    Calls Tryz.prog 43 #[.float .f64 a, .float .f64 b, .int .i64 m] w fun r w' => OutF2 w F r w' := by
  have kV := pvalid m w
  rw [hm] at kV
  have HF : Hid (F < 18446744073709551616 ∧ Rn .quo a b F) := ⟨hF, h⟩
  clear hF h
  go_enter Tryz.func43, Tryz.ntmps43
  go_wp2_with fail
  refine kV.mono ?_
  rintro r w' ⟨rfl, hw⟩
  rw [hw]
  clear hw kV w'
  have kN := hfa w
  go_wp2_with fail
  refine kN.mono ?_
  rintro r w1 ⟨rfl, hb1⟩
  have HB : Hid (Below w.heap.size w w1 ∧ Below w.heap.size w w1.drew) := ⟨hb1, hb1.drew⟩
  clear hb1 kN hfa
  rcases HF.out.2 with h | h
  · have hr := h w1
    clear h
    go_wp2_with fail
    go_ret
    exact ⟨_, rfl, lk.refl HF.out.1, HB.out.1⟩
  · obtain ⟨n, hn, hr⟩ := h w1
    have HN : Hid (lk n F) := hn
    clear hn h
    go_wp2_with fail
    go_ret
    exact ⟨_, rfl, HN.out, HB.out.2⟩

set_option maxHeartbeats 4000000 in
set_option maxRecDepth 200000 in
theorem pdiv_nb (a b F : Nat) (m : Int) (w : World) (hm : isM m = true) (hfa : ∀ W, Calls Tryz.prog 82 #[.float .f64 a] W fun r w' => r = .returned (.bool true) ∧ w' = W) (hfb : ∀ W, Calls Tryz.prog 82 #[.float .f64 b] W fun r w' => r = .returned (.bool false) ∧ Below W.heap.size W w') (h : Rn .quo a b F) (hF : F < 18446744073709551616) :
    Calls Tryz.prog 43 #[.float .f64 a, .float .f64 b, .int .i64 m] w fun r w' => OutF2 w F r w' := by
  have kV := pvalid m w
  rw [hm] at kV
  have HF : Hid (F < 18446744073709551616 ∧ Rn .quo a b F) := ⟨hF, h⟩
  clear hF h
  go_enter Tryz.func43, Tryz.ntmps43
  go_wp2_with fail
  refine kV.mono ?_
  rintro r w' ⟨rfl, hw⟩
  rw [hw]
  clear hw kV w'
  have kN := hfa w
  go_wp2_with fail
  refine kN.mono ?_
  rintro r w' ⟨rfl, hw⟩
  rw [hw]
  clear hw kN hfa w'
  have kN := hfb w
  go_wp2_with fail
  refine kN.mono ?_
  rintro r w1 ⟨rfl, hb1⟩
  have HB : Hid (Below w.heap.size w w1 ∧ Below w.heap.size w w1.drew) := ⟨hb1, hb1.drew⟩
  clear hb1 kN hfb
  rcases HF.out.2 with h | h
  · have hr := h w1
    clear h
    go_wp2_with fail
    go_ret
    exact ⟨_, rfl, lk.refl HF.out.1, HB.out.1⟩
  · obtain ⟨n, hn, hr⟩ := h w1
    have HN : Hid (lk n F) := hn
    clear hn h
    go_wp2_with fail
    go_ret
    exact ⟨_, rfl, HN.out, HB.out.2⟩

set_option maxHeartbeats 4000000 in
set_option maxRecDepth 200000 in
theorem pmul_r (a b F : Nat) (m : Int) (ta tb t3 : Bool × Nat × Int) (w : World) (hm : isM m = true)
    (hfa : ∀ W, Calls Tryz.prog 82 #[.float .f64 a] W fun r w' => r = .returned (.bool true) ∧ w' = W)
    (hfb : ∀ W, Calls Tryz.prog 82 #[.float .f64 b] W fun r w' => r = .returned (.bool true) ∧ w' = W)
    (kA : Calls Tryz.prog 85 #[.float .f64 a] w fun r w' => OutA w ta r w')
    (kB : ∀ W, Below w.heap.size w W → Calls Tryz.prog 85 #[.float .f64 b] W fun r w' => OutA W tb r w')
    (kC : ∀ W X Y, Below w.heap.size w W → PN W X ta → PN W Y tb → Calls Tryz.prog 84 #[X, Y] W fun r w' => OutA W t3 r w')
    (kR : ∀ W X, Below w.heap.size w W → PN W X t3 → Calls Tryz.prog 83 #[X, .int .i64 m] W fun r w' => r = .returned (.float .f64 F) ∧ Below W.heap.size W w') :
    Calls Tryz.prog 36 #[.float .f64 a, .float .f64 b, .int .i64 m] w fun r w' => r = .returned (.float .f64 F) ∧ Below w.heap.size w w' := by
  have kV := pvalid m w
  rw [hm] at kV
  have HKB : Hid (∀ W, Below w.heap.size w W → Calls Tryz.prog 85 #[.float .f64 b] W fun r w' => OutA W tb r w') := kB
  have HKC : Hid (∀ W X Y, Below w.heap.size w W → PN W X ta → PN W Y tb → Calls Tryz.prog 84 #[X, Y] W fun r w' => OutA W t3 r w') := kC
  have HKR : Hid (∀ W X, Below w.heap.size w W → PN W X t3 → Calls Tryz.prog 83 #[X, .int .i64 m] W fun r w' => r = .returned (.float .f64 F) ∧ Below W.heap.size W w') := kR
  clear kB kC kR
  go_enter Tryz.func36, Tryz.ntmps36
  go_wp2_with fail
  refine kV.mono ?_
  rintro r w' ⟨rfl, hw⟩
  rw [hw]
  clear hw kV
  have kN := hfa w
  go_wp2_with fail
  refine kN.mono ?_
  rintro r w' ⟨rfl, hw⟩
  rw [hw]
  clear hw kN hfa
  have kN := hfb w
  go_wp2_with fail
  refine kN.mono ?_
  rintro r w' ⟨rfl, hw⟩
  rw [hw]
  clear hw kN hfb
  go_wp2_with fail
  refine kA.mono ?_
  rintro r w1 ⟨s1, ao1, n1, cap1, ex1, rfl, hP1, hb1⟩
  have k2 := HKB.out w1 hb1
  clear kA
  go_wp2_with fail
  refine k2.mono ?_
  rintro r w2 ⟨s2, ao2, n2, cap2, ex2, rfl, hP2, hb2⟩
  have HB2 : Hid (Below w.heap.size w w2) := hb1.trans (hb2.mono hb1.size)
  have k3 := HKC.out w2 _ _ HB2.out (hP1.later hb2) hP2
  clear k2 hP1 hP2 hb1 hb2
  go_wp2_with fail
  refine k3.mono ?_
  rintro r w3 ⟨s3, ao3, n3, cap3, ex3, rfl, hP3, hb3⟩
  have HB3 : Hid (Below w.heap.size w w3) := HB2.out.trans (hb3.mono HB2.out.size)
  have k4 := HKR.out w3 _ HB3.out hP3
  clear k3 hb3 hP3
  go_wp2_with fail
  refine k4.mono ?_
  rintro r w4 ⟨rfl, hb4⟩
  have HB4 : Hid (Below w.heap.size w w4) := HB3.out.trans (hb4.mono HB3.out.size)
  clear k4 hb4
  go_wp2_with fail
  go_ret
  exact ⟨rfl, HB4.out⟩


theorem tM_okR (a b : Nat) : okR (!((tF a).1 == (tF b).1)) ((tF a).2.1 * (tF b).2.1) ((tF a).2.2 + (tF b).2.2) = true := (Fits.mul (tF_fits a) (tF_fits b)).ok (by omega) (by omega) (by omega)
theorem mulX_lt {a b : Nat} : mulX a b < 18446744073709551616 := by
  unfold mulX
  repeat' split
  all_goals first | decide | exact (by unfold sig; split <;> decide)
theorem divX_lt {a b : Nat} : divX a b < 18446744073709551616 := by
  unfold divX
  repeat' split
  all_goals first | decide | exact (by unfold sig; split <;> decide)

/-- what Mul answers, and Div -/
def fMul (a b : Nat) (m : Int) : Nat := if isM m = false then 9221120237041090560 else if pln a = false ∨ pln b = false then mulX a b else tfF (tM (tF a) (tF b)).1 true (tM (tF a) (tF b)).2.1 (tM (tF a) (tF b)).2.2 m
def fDiv (a b : Nat) (m : Int) : Nat := if isM m = false then 9221120237041090560 else if pln a = false ∨ pln b = false then divX a b else rtF (tF a) (tF b) m
theorem tfM_lt (ex : Bool) (x : Nat) : tfM ex x < 18446744073709551616 := by
  have h1 : x < 2 ^ (tfD x + 64) := Nat.lt_of_lt_of_le (lt_bl x) (Nat.pow_le_pow_right (by decide) (by unfold tfD; omega))
  rw [Nat.pow_add] at h1
  have h2 : x / 2 ^ tfD x < 2 ^ 64 := Nat.div_lt_of_lt_mul h1
  have h3 : x / 2 ^ tfD x ||| 1 < 2 ^ 64 := Nat.or_lt_two_pow h2 (by decide)
  unfold tfM
  split
  · exact h2
  · exact h3
theorem tfF_lt' {s ex : Bool} {x : Nat} {e m : Int} (hm : 1 ≤ m ∧ m ≤ 3) : tfF s ex x e m < 18446744073709551616 := by
  unfold tfF Ie.mk
  rw [if_pos (by omega)]
  refine sig_lt ?_
  split
  · omega
  · rename_i h0
    have := Ie.bod_bounds (tfM ex x) (e + (tfD x : Int)) (Ie.wy s m) (tfM_lt ex x) h0
    omega
theorem rtF_lt {t1 t2 : Bool × Nat × Int} {m : Int} (hm : 1 ≤ m ∧ m ≤ 3) : rtF t1 t2 m < 18446744073709551616 := tfF_lt' hm
theorem fMul_lt {a b : Nat} {m : Int} : fMul a b m < 18446744073709551616 := by
  unfold fMul
  split
  · decide
  · rename_i h
    split
    · exact mulX_lt
    · exact tfF_lt (isM_iff.1 (by simpa using h))
theorem fDiv_lt {a b : Nat} {m : Int} : fDiv a b m < 18446744073709551616 := by
  unfold fDiv
  split
  · decide
  · rename_i h
    split
    · exact divX_lt
    · exact rtF_lt (isM_iff.1 (by simpa using h))

theorem pmul_all (a b : Nat) (m : Int) (ha : a < 18446744073709551616) (hb : b < 18446744073709551616) (w : World) (hT : Tab32 w) (hI : Ie.Tab w) :
    Calls Tryz.prog 36 #[.float .f64 a, .float .f64 b, .int .i64 m] w fun r w' => OutF2 w (fMul a b m) r w' := by
  unfold fMul
  cases hm : isM m
  · rw [if_pos rfl]
    refine (pmul_no a b m w hm).mono ?_
    rintro r w' ⟨rfl, hb⟩
    exact ⟨_, rfl, lk.nan (by decide) (by decide) (by decide), hb⟩
  · rw [if_neg (by decide)]
    have hm' := isM_iff.1 hm
    by_cases hp : pln a = false ∨ pln b = false
    · rw [if_pos hp]
      have hr : Rn .mul a b (mulX a b) := rn_of (by simp) (mul_non ha hb hp)
      cases h : pln a
      · exact pmul_na a b _ m w hm (pplain_f a ha h) hr mulX_lt
      · exact pmul_nb a b _ m w hm (pplain_t a ha h) (pplain_f b hb (by rcases hp with h' | h'; rw [h] at h'; cases h'; exact h')) hr mulX_lt
    · rw [if_neg hp]
      have pa : pln a = true := by cases h : pln a; exact absurd (.inl h) hp; rfl
      have pb : pln b = true := by cases h : pln b; exact absurd (.inr h) hp; rfl
      have hok : Ok (tM (tF a) (tF b)) := tM_ok (tM_okR a b)
      refine (pmul_r a b _ m (tF a) (tF b) (tM (tF a) (tF b)) w hm (pplain_t a ha pa) (pplain_t b hb pb) (exact_ok a ha (pln_true.1 pa).1 w hT hI) (fun W h => exact_ok b hb (pln_true.1 pb).1 W (hT.later h) (Tab.later hI h)) (fun W X Y h h1 h2 => multiplied_op (mul_op (tF_ok a) (tF_ok b) (tM_okR a b)) (hT.later h) h1 h2) (fun W X h h1 => prounded (hT.later h) hok h1 hm')).mono ?_
      rintro r w' ⟨rfl, hb'⟩
      exact ⟨_, rfl, lk.refl (tfF_lt hm'), hb'⟩
theorem pdiv_all (a b : Nat) (m : Int) (ha : a < 18446744073709551616) (hb : b < 18446744073709551616) (w : World) (hT : Tab32 w) (hI : Ie.Tab w) :
    Calls Tryz.prog 43 #[.float .f64 a, .float .f64 b, .int .i64 m] w fun r w' => OutF2 w (fDiv a b m) r w' := by
  unfold fDiv
  cases hm : isM m
  · rw [if_pos rfl]
    refine (pdiv_no a b m w hm).mono ?_
    rintro r w' ⟨rfl, hb⟩
    exact ⟨_, rfl, lk.nan (by decide) (by decide) (by decide), hb⟩
  · rw [if_neg (by decide)]
    have hm' := isM_iff.1 hm
    by_cases hp : pln a = false ∨ pln b = false
    · rw [if_pos hp]
      have hr : Rn .quo a b (divX a b) := rn_of (by simp) (div_non ha hb hp)
      cases h : pln a
      · exact pdiv_na a b _ m w hm (pplain_f a ha h) hr divX_lt
      · exact pdiv_nb a b _ m w hm (pplain_t a ha h) (pplain_f b hb (by rcases hp with h' | h'; rw [h] at h'; cases h'; exact h')) hr divX_lt
    · rw [if_neg hp]
      have pa : pln a = true := by cases h : pln a; exact absurd (.inl h) hp; rfl
      have pb : pln b = true := by cases h : pln b; exact absurd (.inr h) hp; rfl
      refine (pdiv_ok a b m w hm hT hI ha hb (pln_true.1 pa).1 (pln_true.1 pb).1 (pln_true.1 pa).2 (pln_true.1 pb).2 (tF_ne (pln_true.1 pa).2) (tF_ne (pln_true.1 pb).2)).mono ?_
      rintro r w' ⟨rfl, hb'⟩
      exact ⟨_, rfl, lk.refl (rtF_lt hm'), hb'⟩
end Go.Proofs.YtcoclopllbfjcaaGreatDoor
/- The document's quotient, rounded: the program's float. -/
namespace Go.Proofs.YtcoclopllbfjcaaGreatDoor
set_option linter.unusedVariables false
set_option linter.unusedSimpArgs false
open Go.RowKit Go.Fl64
open Ie

end Go.Proofs.YtcoclopllbfjcaaGreatDoor
/- The document's product of numbers, that can be handed on; its Mul and Div of floats. -/
namespace Go.Proofs.YtcoclopllbfjcaaGreatDoor
set_option linter.unusedVariables false
set_option linter.unusedSimpArgs false
open Go.RowKit Go.Fl64

set_option maxHeartbeats 4000000 in
set_option maxRecDepth 200000 in
theorem xtimes_1 (na nb sg : Bool) (ua va : Option Addr) (un uc vn vc x y : Nat) (ea eb : Int) (w : World) (h1 : Ir w (.slice ua un uc) x) (h2 : Ir w (.slice va vn vc) y) (hx : dlen x ≤ 400000) (hy : dlen y ≤ 400000) (he1 : -4000000 ≤ ea) (he2 : ea ≤ 4000000) (he3 : -4000000 ≤ eb) (he4 : eb ≤ 4000000) (hsg : (!(na == nb)) = sg) :
    Calls Tryz.prog 28 #[.agg #[.bool na, .slice ua un uc, .int .i64 ea], .agg #[.bool nb, .slice va vn vc, .int .i64 eb]] w fun r w' => ∃ a, r = .returned a ∧ NC w' w.heap.size a sg (x * y) (ea + eb) ∧ Below w.heap.size w w' := by
  obtain ⟨W, hW⟩ : ∃ W, W = ((w.alloc (.cells #[.bool na, .slice ua un uc, .int .i64 ea] 45)).alloc (.cells #[.bool nb, .slice va vn vc, .int .i64 eb] 45)).alloc (.cells #[.bool false, .slice none 0 0, .int .i64 0] 45) := ⟨_, rfl⟩
  obtain ⟨hA, hBb, hC, hsz, hBW⟩ := boxes3 _ _ _ hW
  have hxy : dlen (x * y) ≤ 1000000 := by
    have l1 := (dlen_le (dlen x) x).1 (Nat.le_refl _)
    have l2 := (dlen_le (dlen y) y).1 (Nat.le_refl _)
    have : dlen (x * y) ≤ dlen x + dlen y := (dlen_le _ _).2 (by
      rw [Nat.pow_add]
      rcases Nat.eq_zero_or_pos x with h | h
      · rw [h, Nat.zero_mul]; exact Nat.mul_pos (Bpow_pos _) (Bpow_pos _)
      · exact Nat.mul_lt_mul_of_lt_of_le l1 (Nat.le_of_lt l2) (Bpow_pos _))
    omega
  have HH : Hid (W.heap[w.heap.size + 1 + 1]? = some (.cells #[.bool false, .slice none 0 0, .int .i64 0] 45 (0, 0)) ∧ W.heap.size = w.heap.size + 1 + 1 + 1 ∧ Below w.heap.size w W) := ⟨hC, hsz, hBW⟩
  have k78 : ∀ w4, Below W.heap.size W w4 → Calls Tryz.prog 73 #[.slice ua un uc, .slice va vn vc] w4 fun r w' => ∃ v, r = .returned v ∧ Own w' W.heap.size v (x * y) ∧ Below W.heap.size W w' := fun w4 hb =>
    (rprod ((h1.later hBW).later hb) ((h2.later hBW).later hb) (by omega) (by omega)).mono fun r w' ⟨v, e1, o1, o2⟩ => ⟨v, e1, o1.mono hb.size, hb.trans (o2.mono hb.size)⟩
  have k31 : ∀ v5 w5, Own w5 W.heap.size v5 (x * y) → Below W.heap.size W w5 → Calls Tryz.prog 64 #[.bool sg, v5, .int .i64 (ea + eb)] w5 fun r w' => ∃ s ao n cap ex, r = .returned (.agg #[.bool s, .slice ao n cap, .int .i64 ex]) ∧
      Hid (NC w' w5.heap.size (.agg #[.bool s, .slice ao n cap, .int .i64 ex]) sg (x * y) (ea + eb) ∧ W.heap.size ≤ w5.heap.size) ∧ Below W.heap.size W w' ∧ Hid (w'.heap[w.heap.size + 1 + 1]? = some (.cells #[.bool false, .slice none 0 0, .int .i64 0] 45 (0, 0))) ∧
      (w'.cell? ⟨w.heap.size + 1 + 1, 0, none⟩ = some (.bool false) ∧ w'.cell? ⟨w.heap.size + 1 + 1, 1, none⟩ = some (.slice none 0 0) ∧ w'.cell? ⟨w.heap.size + 1 + 1, 2, none⟩ = some (.int .i64 0)) ∧ (w'.frozen? ⟨w.heap.size + 1 + 1, 0, none⟩ = false ∧ w'.frozen? ⟨w.heap.size + 1 + 1, 1, none⟩ = false ∧ w'.frozen? ⟨w.heap.size + 1 + 1, 2, none⟩ = false) := by
    intro v5 w5 ho hb
    obtain ⟨ao0, cap0, rfl, hl0, -, hat0⟩ := ho.is
    refine (rnormN hat0 (Nat.le_refl _) hl0 (by omega) (by omega)).mono ?_
    rintro r w6 ⟨a, rfl, hN, hb6⟩
    obtain ⟨s, ao, n, cap, ex, rfl⟩ := hN.shape
    have hb46 : Below W.heap.size W w6 := hb.trans (hb6.mono hb.size)
    have hblk := box_later HH.out.1 hb46 (by have := HH.out.2.1; omega)
    obtain ⟨f1, f2⟩ := box_cells29 hblk
    exact ⟨s, ao, n, cap, ex, rfl, ⟨hN, hb.size⟩, hb46, hblk, f1, f2⟩
  obtain ⟨⟨a0, a1, a2⟩, -⟩ := box_cells29 hA
  obtain ⟨⟨b0, b1, b2⟩, -⟩ := box_cells29 hBb
  have HK : Hid (∀ w', Below W.heap.size W w' → ((w'.cell? ⟨w.heap.size, 0, none⟩ = some (.bool na) ∧ w'.cell? ⟨w.heap.size, 1, none⟩ = some (.slice ua un uc) ∧ w'.cell? ⟨w.heap.size, 2, none⟩ = some (.int .i64 ea)) ∧ (w'.cell? ⟨w.heap.size + 1, 0, none⟩ = some (.bool nb) ∧ w'.cell? ⟨w.heap.size + 1, 1, none⟩ = some (.slice va vn vc) ∧ w'.cell? ⟨w.heap.size + 1, 2, none⟩ = some (.int .i64 eb)))) := fun w' hb => ⟨(box_cells29 (box_later hA hb (by omega))).1, (box_cells29 (box_later hBb hb (by omega))).1⟩
  have HK2 : Hid (∀ w', Below (w.heap.size + 1 + 1) W w' → ((w'.cell? ⟨w.heap.size, 0, none⟩ = some (.bool na) ∧ w'.cell? ⟨w.heap.size, 1, none⟩ = some (.slice ua un uc) ∧ w'.cell? ⟨w.heap.size, 2, none⟩ = some (.int .i64 ea)) ∧ (w'.cell? ⟨w.heap.size + 1, 0, none⟩ = some (.bool nb) ∧ w'.cell? ⟨w.heap.size + 1, 1, none⟩ = some (.slice va vn vc) ∧ w'.cell? ⟨w.heap.size + 1, 2, none⟩ = some (.int .i64 eb)))) := fun w' hb => ⟨(box_cells29 (box_later hA hb (by omega))).1, (box_cells29 (box_later hBb hb (by omega))).1⟩
  have HS2 : Hid (w.heap.size + 1 + 1 ≤ W.heap.size) := (by omega : w.heap.size + 1 + 1 ≤ W.heap.size)
  have hBR : Below W.heap.size W W.drew := (Below.refl _ _).drew
  have wz : IntKind.i64.wrap (ea + eb) = ea + eb := by rw [IntKind.wrap_i64]; omega
  clear hA hBb hC hsz hBW h1 h2 hx hy hxy
  go_enter Tryz.func28, Tryz.ntmps28
  go_upto_region 1 with fail
  rw [← hW]
  clear hW
  go_region_held3 (fun w' => ((w'.cell? ⟨w.heap.size, 0, none⟩ = some (.bool na) ∧ w'.cell? ⟨w.heap.size, 1, none⟩ = some (.slice ua un uc) ∧ w'.cell? ⟨w.heap.size, 2, none⟩ = some (.int .i64 ea)) ∧ (w'.cell? ⟨w.heap.size + 1, 0, none⟩ = some (.bool nb) ∧ w'.cell? ⟨w.heap.size + 1, 1, none⟩ = some (.slice va vn vc) ∧ w'.cell? ⟨w.heap.size + 1, 2, none⟩ = some (.int .i64 eb)))) (first | (with_reducible assumption) | exact ⟨⟨a0, a1, a2⟩, b0, b1, b2⟩ | (refine HK.out _ ?_; with_reducible assumption) | (refine HK2.out _ (below_store3 (Below.mono hb6 HS2.out) (Nat.le_refl _) _ _ _)) | go_keep)
    (first | (go_at_call 73; refine (k78 _ (by first | (with_reducible assumption) | exact hBR)).mono ?_; rintro r w5 ⟨v5, rfl, ho5, hb5⟩) | (go_at_call 64; (try simp only [hsg, wz]); refine (k31 _ _ ho5 hb5).mono ?_; rintro r w6 ⟨s6, ao6, n6, cap6, ex6, rfl, hN6, hb6, hblk6, ⟨x1, x2, x3⟩, x4, x5, x6⟩))
  have HF : Hid (Below W.heap.size W w6) := hb6
  clear ho5 hb5 hb6 k31 k78 x1 x2 x3 x4 x5 x6 a0 a1 a2 b0 b1 b2 HK HK2
  go_wp2
  refine bodyPost_ret (results_cell_row rfl _ _ (w.heap.size + 1 + 1) 45 #[.bool s6, .slice ao6 n6 cap6, .int .i64 ex6] (0, 0) _ rfl (store3_29 _ _ _ hblk6.out) Tryz.underlying45 rfl Tryz.info45) rfl ?_
  obtain ⟨-, hs, hBW⟩ := HH.out
  have hs5 := hN6.out.2
  exact ⟨_, rfl, (hN6.out.1.store (by omega) _ _ _).mono (by omega), below_store3 (hBW.trans (HF.out.mono hBW.size)) (by omega) _ _ _⟩


theorem times_dn {t1 t2 : Bool × Nat × Int} {X Y : Value} {w : World} (o1 : Ok t1) (o2 : Ok t2) (h1 : DN w X t1) (h2 : DN w Y t2) : Calls Tryz.prog 28 #[X, Y] w fun r w' => ∃ A, r = .returned A ∧ DN w' A (tM t1 t2) ∧ Below w.heap.size w w' := by
  obtain ⟨ao, cap, rfl, a1⟩ := h1
  obtain ⟨ao', cap', rfl, a2⟩ := h2
  obtain ⟨f1, f2, f3, -, -⟩ := o1.facts
  obtain ⟨g1, g2, g3, -, -⟩ := o2.facts
  exact (xtimes_1 t1.1 t2.1 _ ao ao' _ cap _ cap' t1.2.1 t2.2.1 t1.2.2 t2.2.2 w ⟨ao, cap, rfl, a1.le, a1.at_⟩ ⟨ao', cap', rfl, a2.le, a2.at_⟩ (by omega) (by omega) (by omega) (by omega) (by omega) (by omega) rfl).mono fun r w' ⟨A, e, h, hb⟩ => ⟨A, e, h.dn, hb⟩

end Go.Proofs.YtcoclopllbfjcaaGreatDoor
/- The document's root, rounded: the program's float. -/
namespace Go.Proofs.YtcoclopllbfjcaaGreatDoor
set_option linter.unusedVariables false
set_option linter.unusedSimpArgs false
open Go.RowKit Go.Fl64

end Go.Proofs.YtcoclopllbfjcaaGreatDoor
/- Square roots of numbers: the program's and the document's are one float; Sqrt of floats. -/
namespace Go.Proofs.YtcoclopllbfjcaaGreatDoor
set_option linter.unusedVariables false
set_option linter.unusedSimpArgs false
open Go.RowKit Go.Fl64

end Go.Proofs.YtcoclopllbfjcaaGreatDoor
/- The document's magnitude, Order, Cmp. -/
namespace Go.Proofs.YtcoclopllbfjcaaGreatDoor
set_option linter.unusedVariables false
set_option linter.unusedSimpArgs false
open Go.RowKit

end Go.Proofs.YtcoclopllbfjcaaGreatDoor
/- The document's magnitude, Order, Cmp, joined. -/
namespace Go.Proofs.YtcoclopllbfjcaaGreatDoor
set_option linter.unusedVariables false
set_option linter.unusedSimpArgs false
open Go.RowKit

end Go.Proofs.YtcoclopllbfjcaaGreatDoor
/- The document's Order and Cmp, joined. -/
namespace Go.Proofs.YtcoclopllbfjcaaGreatDoor
set_option linter.unusedVariables false
set_option linter.unusedSimpArgs false
open Go.RowKit

end Go.Proofs.YtcoclopllbfjcaaGreatDoor
/- Hypot of floats, on both sides. -/
namespace Go.Proofs.YtcoclopllbfjcaaGreatDoor
set_option linter.unusedVariables false
set_option linter.unusedSimpArgs false
open Go.RowKit Go.Fl64

theorem dn_store {w : World} {A : Value} {t : Bool × Nat × Int} {g : Nat} (h : DN w A t) (hg : w.heap[g]? = some (.cells #[.bool false, .slice none 0 0, .int .i64 0] 45 (0, 0))) (a b c : Value) : DN (((w.setCell ⟨g, 0, none⟩ a).setCell ⟨g, 1, none⟩ b).setCell ⟨g, 2, none⟩ c) A t := by
  obtain ⟨ao, cap, h1, h2⟩ := h
  exact ⟨ao, cap, h1, h2.nil, at_box h2.at_ rfl hg (by simp) (by simp) (by simp) a b c, h2.le, h2.small⟩
/-- a number of the document in its box, made since a world -/
def BxD (w3 wc : World) (g : Nat) (s : Bool) (ao : Option Addr) (n cap : Nat) (ex : Int) (t : Bool × Nat × Int) : Prop := wc.heap[g]? = some (.cells #[.bool s, .slice ao n cap, .int .i64 ex] 45 (0, 0)) ∧ w3.heap.size ≤ g ∧ Below w3.heap.size w3 wc ∧ DN wc (.agg #[.bool s, .slice ao n cap, .int .i64 ex]) t
theorem BxD.new {w3 w7 : World} {s : Bool} {ao : Option Addr} {n cap : Nat} {ex : Int} {t : Bool × Nat × Int} (hn : DN w7 (.agg #[.bool s, .slice ao n cap, .int .i64 ex]) t) (hb : Below w3.heap.size w3 w7) : BxD w3 (w7.alloc (.cells #[.bool s, .slice ao n cap, .int .i64 ex] 45)) w7.heap.size s ao n cap ex t :=
  ⟨heap_alloc_new _ _, hb.size, hb.alloc hb.size _, hn.later ((Below.refl _ _).alloc (Nat.le_refl _) _)⟩
theorem BxD.put {w3 w7 : World} {g : Nat} {s : Bool} {ao : Option Addr} {n cap : Nat} {ex : Int} {t : Bool × Nat × Int} (hn : DN w7 (.agg #[.bool s, .slice ao n cap, .int .i64 ex]) t) (hb : Below w3.heap.size w3 w7) (hg : w3.heap.size ≤ g) (hbx : w7.heap[g]? = some (.cells #[.bool false, .slice none 0 0, .int .i64 0] 45 (0, 0))) :
    BxD w3 (((w7.setCell ⟨g, 0, none⟩ (.bool s)).setCell ⟨g, 1, none⟩ (.slice ao n cap)).setCell ⟨g, 2, none⟩ (.int .i64 ex)) g s ao n cap ex t :=
  ⟨store3_29 _ _ _ hbx, hg, below_store3 hb hg _ _ _, dn_store hn hbx _ _ _⟩

end Go.Proofs.YtcoclopllbfjcaaGreatDoor
/- sums.Row. -/
namespace Go.Proofs.YtcoclopllbfjcaaGreatDoor
set_option linter.unusedVariables false
set_option linter.unusedSimpArgs false
open Go.RowKit Go.Fl64

end Go.Proofs.YtcoclopllbfjcaaGreatDoor
/- sums.Kept. -/
namespace Go.Proofs.YtcoclopllbfjcaaGreatDoor
set_option linter.unusedVariables false
set_option linter.unusedSimpArgs false
open Go.RowKit Go.Fl64

end Go.Proofs.YtcoclopllbfjcaaGreatDoor
/- sums.Halves. -/
namespace Go.Proofs.YtcoclopllbfjcaaGreatDoor
set_option linter.unusedVariables false
set_option linter.unusedSimpArgs false
open Go.RowKit Go.Fl64

end Go.Proofs.YtcoclopllbfjcaaGreatDoor
/- sums.anyNaN, sums.allFinite, sums.allMinusNought. -/
namespace Go.Proofs.YtcoclopllbfjcaaGreatDoor
set_option linter.unusedVariables false
set_option linter.unusedSimpArgs false
open Go.RowKit Go.Fl64

end Go.Proofs.YtcoclopllbfjcaaGreatDoor
/- sums.checked of one list. -/
namespace Go.Proofs.YtcoclopllbfjcaaGreatDoor
set_option linter.unusedVariables false
set_option linter.unusedSimpArgs false
open Go.RowKit Go.Fl64

end Go.Proofs.YtcoclopllbfjcaaGreatDoor
/- A float made whole, with a sign: what the law's own test asks. -/
namespace Go.Proofs.YtcoclopllbfjcaaGreatDoor
set_option linter.unusedVariables false
set_option linter.unusedSimpArgs false
open Go.RowKit Go.Fl64

end Go.Proofs.YtcoclopllbfjcaaGreatDoor
/- The program's leastRest: the least that is left. -/
namespace Go.Proofs.YtcoclopllbfjcaaGreatDoor
set_option linter.unusedVariables false
set_option linter.unusedSimpArgs false
open Go.RowKit Go.Fl64

/-- a number in its box, made since a world -/
def BxP (w3 wc : World) (g : Nat) (s : Bool) (ao : Option Addr) (n cap : Nat) (ex : Int) (t : Bool × Nat × Int) : Prop := wc.heap[g]? = some (.cells #[.bool s, .slice ao n cap, .int .i64 ex] 96 (0, 0)) ∧ w3.heap.size ≤ g ∧ Below w3.heap.size w3 wc ∧ PN wc (.agg #[.bool s, .slice ao n cap, .int .i64 ex]) t
theorem BxP.new {w3 w7 : World} {s : Bool} {ao : Option Addr} {n cap : Nat} {ex : Int} {t : Bool × Nat × Int} (hn : PN w7 (.agg #[.bool s, .slice ao n cap, .int .i64 ex]) t) (hb : Below w3.heap.size w3 w7) : BxP w3 (w7.alloc (.cells #[.bool s, .slice ao n cap, .int .i64 ex] 96)) w7.heap.size s ao n cap ex t :=
  ⟨heap_alloc_new _ _, hb.size, hb.alloc hb.size _, hn.later ((Below.refl _ _).alloc (Nat.le_refl _) _)⟩
theorem BxP.put {w3 w7 : World} {g : Nat} {s : Bool} {ao : Option Addr} {n cap : Nat} {ex : Int} {t : Bool × Nat × Int} (hn : PN w7 (.agg #[.bool s, .slice ao n cap, .int .i64 ex]) t) (hb : Below w3.heap.size w3 w7) (hg : w3.heap.size ≤ g) (hbx : w7.heap[g]? = some (.cells #[.bool false, .slice none 0 0, .int .i64 0] 96 (0, 0))) :
    BxP w3 (((w7.setCell ⟨g, 0, none⟩ (.bool s)).setCell ⟨g, 1, none⟩ (.slice ao n cap)).setCell ⟨g, 2, none⟩ (.int .i64 ex)) g s ao n cap ex t :=
  ⟨store3 _ _ _ hbx, hg, below_store3 hb hg _ _ _, pn_store hn hbx _ _ _⟩

end Go.Proofs.YtcoclopllbfjcaaGreatDoor
/- The program's leastRest: its other ways out. -/
namespace Go.Proofs.YtcoclopllbfjcaaGreatDoor
set_option linter.unusedVariables false
set_option linter.unusedSimpArgs false
open Go.RowKit Go.Fl64

end Go.Proofs.YtcoclopllbfjcaaGreatDoor
/- The law's own test of layer 3: it answers true. -/
namespace Go.Proofs.YtcoclopllbfjcaaGreatDoor
set_option linter.unusedVariables false
set_option linter.unusedSimpArgs false
open Go.RowKit Go.Fl64

end Go.Proofs.YtcoclopllbfjcaaGreatDoor
/- The program's odd: whether a whole number is odd. -/
namespace Go.Proofs.YtcoclopllbfjcaaGreatDoor
set_option linter.unusedVariables false
set_option linter.unusedSimpArgs false
open Go.RowKit Go.Fl64

end Go.Proofs.YtcoclopllbfjcaaGreatDoor
/- What is left of a division to the nearest: in numbers. -/
namespace Go.Proofs.YtcoclopllbfjcaaGreatDoor
set_option linter.unusedVariables false
set_option linter.unusedSimpArgs false
open Go.RowKit Go.Fl64

end Go.Proofs.YtcoclopllbfjcaaGreatDoor
/- The program's leastRest: what it answers, in numbers. -/
namespace Go.Proofs.YtcoclopllbfjcaaGreatDoor
set_option linter.unusedVariables false
set_option linter.unusedSimpArgs false
open Go.RowKit Go.Fl64

end Go.Proofs.YtcoclopllbfjcaaGreatDoor
/- The program's leastRest: what is left of a division to the nearest. -/
namespace Go.Proofs.YtcoclopllbfjcaaGreatDoor
set_option linter.unusedVariables false
set_option linter.unusedSimpArgs false
open Go.RowKit Go.Fl64

end Go.Proofs.YtcoclopllbfjcaaGreatDoor
/- The program's leastRest and Rest. -/
namespace Go.Proofs.YtcoclopllbfjcaaGreatDoor
set_option linter.unusedVariables false
set_option linter.unusedSimpArgs false
open Go.RowKit Go.Fl64

end Go.Proofs.YtcoclopllbfjcaaGreatDoor
/- The program's Rest, all its ways out. -/
namespace Go.Proofs.YtcoclopllbfjcaaGreatDoor
set_option linter.unusedVariables false
set_option linter.unusedSimpArgs false
open Go.RowKit Go.Fl64

end Go.Proofs.YtcoclopllbfjcaaGreatDoor
/- The document's Rest, walked over what it calls. -/
namespace Go.Proofs.YtcoclopllbfjcaaGreatDoor
set_option linter.unusedVariables false
set_option linter.unusedSimpArgs false
open Go.RowKit Go.Fl64

end Go.Proofs.YtcoclopllbfjcaaGreatDoor
/- The document's Over, Scaled, Less of numbers in their shortest form. -/
namespace Go.Proofs.YtcoclopllbfjcaaGreatDoor
set_option linter.unusedVariables false
set_option linter.unusedSimpArgs false
open Go.RowKit Go.Fl64

end Go.Proofs.YtcoclopllbfjcaaGreatDoor
/- The exact sum of a list in numbers: how great it can be. -/
namespace Go.Proofs.YtcoclopllbfjcaaGreatDoor
set_option linter.unusedVariables false
set_option linter.unusedSimpArgs false
open Go.RowKit Go.Fl64

end Go.Proofs.YtcoclopllbfjcaaGreatDoor
/- Numbers written in base 16. -/
namespace Go.Proofs.YtcoclopllbfjcaaGreatDoor
set_option linter.unusedVariables false
set_option linter.unusedSimpArgs false
open Go.RowKit

end Go.Proofs.YtcoclopllbfjcaaGreatDoor
/- strings.Repeat of the sign for nought. -/
namespace Go.Proofs.YtcoclopllbfjcaaGreatDoor
set_option linter.unusedVariables false
set_option linter.unusedSimpArgs false
open Go.RowKit

end Go.Proofs.YtcoclopllbfjcaaGreatDoor
/- Show, of any number. -/
namespace Go.Proofs.YtcoclopllbfjcaaGreatDoor
set_option linter.unusedVariables false
set_option linter.unusedSimpArgs false
open Go.RowKit

end Go.Proofs.YtcoclopllbfjcaaGreatDoor
/- Sign, Bits, Top, Cmp, Show: refused; Bits, Top; Show of nought. -/
namespace Go.Proofs.YtcoclopllbfjcaaGreatDoor
set_option linter.unusedVariables false
set_option linter.unusedSimpArgs false
open Go.RowKit

end Go.Proofs.YtcoclopllbfjcaaGreatDoor
/- The document's decimal. -/
namespace Go.Proofs.YtcoclopllbfjcaaGreatDoor
set_option linter.unusedVariables false
set_option linter.unusedSimpArgs false
open Go.RowKit

end Go.Proofs.YtcoclopllbfjcaaGreatDoor
/- The document's hex. -/
namespace Go.Proofs.YtcoclopllbfjcaaGreatDoor
set_option linter.unusedVariables false
set_option linter.unusedSimpArgs false
open Go.RowKit

/-- a row of bytes that was made here -/
def OB (w wr : World) (v : Value) (L : List UInt8) : Prop := wr.ownsRow w.heap.size 5 1 v L.length (Lib.byteCells L) ∧ Below w.heap.size w wr
theorem OB.shape {w wr : World} {v : Value} {L : List UInt8} (h : OB w wr v L) : ∃ ao cap, v = .slice ao L.length cap := by
  obtain ⟨⟨-, h | ⟨g, cap, cur, h, -⟩⟩, -⟩ := h
  · exact ⟨none, 0, by rw [h.1, h.2]⟩
  · exact ⟨_, _, h⟩
end Go.Proofs.YtcoclopllbfjcaaGreatDoor
/- The document's Show. -/
namespace Go.Proofs.YtcoclopllbfjcaaGreatDoor
set_option linter.unusedVariables false
set_option linter.unusedSimpArgs false
open Go.RowKit

end Go.Proofs.YtcoclopllbfjcaaGreatDoor
/- The document's Neg, Abs. -/
namespace Go.Proofs.YtcoclopllbfjcaaGreatDoor
set_option linter.unusedVariables false
set_option linter.unusedSimpArgs false
open Go.RowKit

end Go.Proofs.YtcoclopllbfjcaaGreatDoor
/- DyadAsks: the calls of both sides joined. -/
namespace Go.Proofs.YtcoclopllbfjcaaGreatDoor
set_option linter.unusedVariables false
set_option linter.unusedSimpArgs false
open Go.RowKit

/-- what the program holds -/
theorem PI.open {na : Bool} {un x : Nat} {ea : Int} {W : World} {X : Value} (hX : PI na un x ea W X) : ∃ pa pc, X = .agg #[.bool na, .slice pa un pc, .int .i64 ea] ∧ At W pa un x := by
  obtain ⟨v, b, rfl, d1⟩ := hX
  obtain ⟨pa, pc, rfl, p1, p2⟩ := d1.at
  exact ⟨pa, pc, rfl, p2⟩
theorem PI.is {na : Bool} {x : Nat} {ea : Int} {W : World} {X : Value} (hX : PI na (dlen x) x ea W X) : ∃ pa pc, X = .agg #[.bool na, .slice pa (dlen x) pc, .int .i64 ea] ∧ Is W (.slice pa (dlen x) pc) x := by
  obtain ⟨v, b, rfl, d1⟩ := hX
  obtain ⟨pa, pc, e1, i1⟩ := dn_pn (s := na) (e := ea) d1
  exact ⟨pa, pc, e1, i1⟩

end Go.Proofs.YtcoclopllbfjcaaGreatDoor
/- DyadOrder. -/
namespace Go.Proofs.YtcoclopllbfjcaaGreatDoor
set_option linter.unusedVariables false
set_option linter.unusedSimpArgs false
open Go.RowKit Go.Fl64

end Go.Proofs.YtcoclopllbfjcaaGreatDoor
/- The program's Fma of floats. -/
namespace Go.Proofs.YtcoclopllbfjcaaGreatDoor
set_option linter.unusedVariables false
set_option linter.unusedSimpArgs false
open Go.RowKit Go.Fl64

end Go.Proofs.YtcoclopllbfjcaaGreatDoor
/- The document's Fma of floats. -/
namespace Go.Proofs.YtcoclopllbfjcaaGreatDoor
set_option linter.unusedVariables false
set_option linter.unusedSimpArgs false
open Go.RowKit Go.Fl64

end Go.Proofs.YtcoclopllbfjcaaGreatDoor
/- The law's own test answers true; RoundSums. -/
namespace Go.Proofs.YtcoclopllbfjcaaGreatDoor
set_option linter.unusedVariables false
set_option linter.unusedSimpArgs false
open Go.RowKit Go.Fl64

end Go.Proofs.YtcoclopllbfjcaaGreatDoor
/- Fma of floats: the program and the document answer alike. -/
namespace Go.Proofs.YtcoclopllbfjcaaGreatDoor
set_option linter.unusedVariables false
set_option linter.unusedSimpArgs false
open Go.RowKit Go.Fl64

end Go.Proofs.YtcoclopllbfjcaaGreatDoor
/- What is rounded down and up are the same or neighbours; the float above. -/
namespace Go.Proofs.YtcoclopllbfjcaaGreatDoor
set_option linter.unusedVariables false
set_option linter.unusedSimpArgs false
open Go.RowKit Go.Fl64

theorem Rounds.step {A u b0 b2 : Nat} (h0 : Rounds A u b0 0) (h2 : Rounds A u b2 2) : b0 ≤ b2 ∧ b2 ≤ b0 + 1 := by
  obtain ⟨c0, ⟨p1, p2⟩, q0, -, -⟩ := h0.fl
  obtain ⟨c2, ⟨r1, r2⟩, -, s2, -⟩ := h2.fl
  have e0 := q0 rfl
  have e2 := s2 rfl
  have h1 := floor_mono (Nat.le_refl A) p1 r2
  have h3 := floor_mono (Nat.le_refl A) r1 p2
  have : c0 = c2 := by omega
  subst this
  rw [e0, e2]
  split <;> omega
end Go.Proofs.YtcoclopllbfjcaaGreatDoor
/- The law's 'between': in order, the same or neighbours, on both sides of the exact value. -/
namespace Go.Proofs.YtcoclopllbfjcaaGreatDoor
set_option linter.unusedVariables false
set_option linter.unusedSimpArgs false
open Go.RowKit Go.Fl64

end Go.Proofs.YtcoclopllbfjcaaGreatDoor
/- RoundHolds: the law's walk. -/
namespace Go.Proofs.YtcoclopllbfjcaaGreatDoor
set_option linter.unusedVariables false
set_option linter.unusedSimpArgs false
open Go.RowKit Go.Fl64

end Go.Proofs.YtcoclopllbfjcaaGreatDoor
/- RoundHolds. -/
namespace Go.Proofs.YtcoclopllbfjcaaGreatDoor
set_option linter.unusedVariables false
set_option linter.unusedSimpArgs false
open Go.RowKit Go.Fl64

end Go.Proofs.YtcoclopllbfjcaaGreatDoor
/- Floats in order: not above, the lesser and the greater of two; intervals that may be. -/
namespace Go.Fl64
set_option linter.unusedVariables false
set_option linter.unusedSimpArgs false

/-- a ≤ b of floats -/
def le (a b : Nat) : Bool := !isNaN a && !isNaN b && decide (stp a ≤ stp b)

theorem ord_le (a b : Nat) (ha : a < 18446744073709551616) (hb : b < 18446744073709551616) : (FloatKind.f64.format.order a b == some Ordering.lt || FloatKind.f64.format.order a b == some Ordering.eq) = le a b := by
  rw [ord_lt a b ha hb, ord_eq a b ha hb]
  unfold lt eq le
  cases isNaN a <;> cases isNaN b <;> simp
  rw [← Bool.decide_or]
  exact decide_eq_decide.2 (by omega)
theorem ord_ge (a b : Nat) (ha : a < 18446744073709551616) (hb : b < 18446744073709551616) : (FloatKind.f64.format.order a b == some Ordering.gt || FloatKind.f64.format.order a b == some Ordering.eq) = le b a := by
  rw [ord_gt a b ha hb, ord_eq a b ha hb]
  unfold lt eq le
  cases isNaN a <;> cases isNaN b <;> simp
  rw [← Bool.decide_or]
  exact decide_eq_decide.2 (by omega)
/-- the lesser, the greater of two floats that are no NaN -/
def fMin (x y : Nat) : Nat := if stp x < stp y then x else if stp y < stp x then y else if neg x then x else y
def fMax (x y : Nat) : Nat := if stp x < stp y then y else if stp y < stp x then x else if neg x then y else x

theorem dec_neg (a : Nat) (h : a < 18446744073709551616) (n : isNaN a = false) : (FloatKind.f64.decode a).neg = neg a := by
  unfold FloatKind.decode
  rw [f64]
  have n' : ¬ 9218868437227405312 < mag a := of_decide_eq_false n
  by_cases f : mag a < 9218868437227405312
  · obtain ⟨m, k, e, _⟩ := read_number a h f
    rw [e]; rfl
  · rw [read_infinity a h (by omega)]; rfl

theorem run_fmin {P : Program} (w : World) (ts : Array TypeId) (t : TypeId) (x y : Nat) (hx : x < 18446744073709551616) (hy : y < 18446744073709551616) (nx : isNaN x = false) (ny : isNaN y = false) :
    (Builtin.min_ ts t #[.float .f64 x, .float .f64 y]).run P w = .ok (.float .f64 (fMin x y)) w := by
  have ho := order_num x y hx hy nx ny
  have hd := dec_neg x hx nx
  rw [← f64] at ho
  unfold fMin
  rcases Int.lt_trichotomy (stp x) (stp y) with h | h | h
  · rw [cmp_lt h] at ho
    rw [if_pos h]
    simp [Builtin.min_, Builtin.min2, ho]
  · rw [cmp_eq h] at ho
    rw [if_neg (by omega), if_neg (by omega)]
    simp [Builtin.min_, Builtin.min2, ho, hd]
  · rw [cmp_gt h] at ho
    rw [if_neg (by omega), if_pos h]
    simp [Builtin.min_, Builtin.min2, ho]
theorem run_fmax {P : Program} (w : World) (ts : Array TypeId) (t : TypeId) (x y : Nat) (hx : x < 18446744073709551616) (hy : y < 18446744073709551616) (nx : isNaN x = false) (ny : isNaN y = false) :
    (Builtin.max_ ts t #[.float .f64 x, .float .f64 y]).run P w = .ok (.float .f64 (fMax x y)) w := by
  have ho := order_num x y hx hy nx ny
  have hd := dec_neg x hx nx
  rw [← f64] at ho
  unfold fMax
  rcases Int.lt_trichotomy (stp x) (stp y) with h | h | h
  · rw [cmp_lt h] at ho
    rw [if_pos h]
    simp [Builtin.max_, Builtin.max2, ho]
  · rw [cmp_eq h] at ho
    rw [if_neg (by omega), if_neg (by omega)]
    simp [Builtin.max_, Builtin.max2, ho, hd]
  · rw [cmp_gt h] at ho
    rw [if_neg (by omega), if_pos h]
    simp [Builtin.max_, Builtin.max2, ho]
theorem fMin_or (x y : Nat) : fMin x y = x ∨ fMin x y = y := by
  unfold fMin
  split
  · exact .inl rfl
  · split
    · exact .inr rfl
    · split
      · exact .inl rfl
      · exact .inr rfl
theorem fMax_or (x y : Nat) : fMax x y = x ∨ fMax x y = y := by
  unfold fMax
  split
  · exact .inr rfl
  · split
    · exact .inl rfl
    · split
      · exact .inr rfl
      · exact .inl rfl
theorem fMin_lt {x y : Nat} (hx : x < 18446744073709551616) (hy : y < 18446744073709551616) : fMin x y < 18446744073709551616 := by
  rcases fMin_or x y with h | h <;> rw [h] <;> assumption
theorem fMax_lt {x y : Nat} (hx : x < 18446744073709551616) (hy : y < 18446744073709551616) : fMax x y < 18446744073709551616 := by
  rcases fMax_or x y with h | h <;> rw [h] <;> assumption
theorem fMin_nn {x y : Nat} (hx : isNaN x = false) (hy : isNaN y = false) : isNaN (fMin x y) = false := by
  rcases fMin_or x y with h | h <;> rw [h] <;> assumption
theorem fMax_nn {x y : Nat} (hx : isNaN x = false) (hy : isNaN y = false) : isNaN (fMax x y) = false := by
  rcases fMax_or x y with h | h <;> rw [h] <;> assumption
theorem fMin_stp (x y : Nat) : stp (fMin x y) = min (stp x) (stp y) := by
  unfold fMin
  split
  · omega
  · split
    · omega
    · split <;> omega
theorem fMax_stp (x y : Nat) : stp (fMax x y) = max (stp x) (stp y) := by
  unfold fMax
  split
  · omega
  · split
    · omega
    · split <;> omega

/-- a nought as +0 -/
def pl (a : Nat) : Nat := if a = 9223372036854775808 then 0 else a
theorem pl_lt {a : Nat} (h : a < 18446744073709551616) : pl a < 18446744073709551616 := by unfold pl; split <;> omega
theorem pl_stp (a : Nat) : stp (pl a) = stp a := by
  unfold pl
  split
  · rename_i h; rw [h]; decide
  · rfl
theorem pl_nan (a : Nat) : isNaN (pl a) = isNaN a := by
  unfold pl
  split
  · rename_i h; rw [h]; decide
  · rfl
theorem stp_zero {a : Nat} (ha : a < 18446744073709551616) : stp a = 0 ↔ (a = 0 ∨ a = 9223372036854775808) := by
  unfold stp sgn neg mag
  constructor
  · intro h
    split at h <;> rename_i h1 <;> simp only [decide_eq_true_eq] at h1 <;> omega
  · rintro (rfl | rfl) <;> decide
/-- whether an interval may be -/
def vI (lo hi : Nat) : Bool := le lo hi && lt lo 9218868437227405312 && lt 18442240474082181120 hi && decide (lo ≠ 9223372036854775808) && decide (hi ≠ 9223372036854775808)

/-- floats are told apart by their place in the order and by the sign of noughts -/
theorem stp_inj {a b : Nat} (ha : a < 18446744073709551616) (hb : b < 18446744073709551616) (h : stp a = stp b) (h1 : a ≠ 9223372036854775808) (h2 : b ≠ 9223372036854775808) : a = b := by
  unfold stp sgn neg mag at h
  split at h <;> split at h <;> rename_i h3 h4 <;> simp only [decide_eq_true_eq] at h3 h4 <;> omega
end Go.Fl64
/- The small functions of span: noughts, infinities, what may be. -/
namespace Go.Proofs.YtcoclopllbfjcaaGreatDoor
set_option linter.unusedVariables false
set_option linter.unusedSimpArgs false
open Go.RowKit Go.Fl64

theorem eq_zero (a : Nat) (ha : a < 18446744073709551616) : eq a 0 = (decide (a = 0) || decide (a = 9223372036854775808)) := by
  rw [← Bool.decide_or]
  unfold eq
  rw [show isNaN 0 = false from rfl]
  have h := stp_zero ha
  rw [show stp 0 = 0 from rfl]
  by_cases h0 : stp a = 0
  · have h1 := h.1 h0
    rw [decide_eq_true h0, decide_eq_true h1]
    rcases h1 with rfl | rfl <;> rfl
  · rw [decide_eq_false h0, decide_eq_false fun h2 => h0 (h.2 h2), Bool.and_false]

theorem pmn (a : Nat) (ha : a < 18446744073709551616) (w : World) :
    Calls Tryz.prog 96 #[.float .f64 a] w fun r w' => r = .returned (.bool (decide (a = 9223372036854775808))) ∧ w' = w := by
  have k := Ie.c33 a ha
  have e := ord_eq a 0 ha (by omega)
  rw [eq_zero a ha] at e
  by_cases h : a = 0 ∨ a = 9223372036854775808
  · have e1 : (FloatKind.f64.format.order a 0 == some Ordering.eq) = true := by
      rw [e, ← Bool.decide_or]; exact decide_eq_true h
    have e2 : decide (a = 9223372036854775808) = neg a := by
      rcases h with rfl | rfl <;> rfl
    rw [e2]
    clear e e2 h
    go_enter Tryz.func96, Tryz.ntmps96
    go_wp2_with (first | (go_at_call 109; refine (k _).mono ?_; rintro r w' ⟨rfl, rfl⟩))
    go_ret
    exact ⟨rfl, rfl⟩
  · have e1 : (FloatKind.f64.format.order a 0 == some Ordering.eq) = false := by
      rw [e, ← Bool.decide_or]; exact decide_eq_false h
    rw [decide_eq_false fun h1 => h (.inr h1)]
    clear e h
    go_enter Tryz.func96, Tryz.ntmps96
    go_wp2
    go_ret
    exact ⟨rfl, rfl⟩
theorem ppl (a : Nat) (ha : a < 18446744073709551616) (w : World) :
    Calls Tryz.prog 97 #[.float .f64 a] w fun r w' => r = .returned (.float .f64 (pl a)) ∧ w' = w := by
  have e := ord_eq a 0 ha (by omega)
  rw [eq_zero a ha] at e
  by_cases h : a = 0 ∨ a = 9223372036854775808
  · have e1 : (FloatKind.f64.format.order a 0 == some Ordering.eq) = true := by
      rw [e, ← Bool.decide_or]; exact decide_eq_true h
    have e2 : pl a = 0 := by
      rcases h with rfl | rfl <;> rfl
    rw [e2]
    clear e e2 h
    go_enter Tryz.func97, Tryz.ntmps97
    go_wp2
    go_ret
    exact ⟨rfl, rfl⟩
  · have e1 : (FloatKind.f64.format.order a 0 == some Ordering.eq) = false := by
      rw [e, ← Bool.decide_or]; exact decide_eq_false h
    have e2 : pl a = a := if_neg fun h1 => h (.inr h1)
    rw [e2]
    clear e e2 h
    go_enter Tryz.func97, Tryz.ntmps97
    go_wp2
    go_ret
    exact ⟨rfl, rfl⟩
end Go.Proofs.YtcoclopllbfjcaaGreatDoor
/- Valid on both sides. -/
namespace Go.Proofs.YtcoclopllbfjcaaGreatDoor
set_option linter.unusedVariables false
set_option linter.unusedSimpArgs false
open Go.RowKit Go.Fl64

theorem box_cells2 {w : World} {g : Nat} {a b : Value} {T : TypeId} (h : w.heap[g]? = some (.cells #[a, b] T (0, 0))) : w.cell? ⟨g, 0, none⟩ = some a ∧ w.cell? ⟨g, 1, none⟩ = some b := by
  simp [World.cell?, h]
theorem cinf_p (w : World) : Calls Tryz.prog 44 #[.int .i64 1] w fun r w' => r = .returned (.float .f64 9218868437227405312) ∧ w' = w := by
  have hb := Ie.run_frombits
  go_enter Tryz.func44, Tryz.ntmps44
  go_wp2
  go_ret
  exact ⟨rfl, rfl⟩
theorem isinf_p (a : Nat) (ha : a < 18446744073709551616) (w : World) :
    Calls Tryz.prog 74 #[.float .f64 a, .int .i64 1] w fun e w' => e = .returned (.bool (lt 9218868437227405311 a)) ∧ w' = w := by
  have h := ord_gt a 9218868437227405311 ha (by omega)
  have H : Hid ((FloatKind.f64.format.order a 9218868437227405311 == some Ordering.gt) = lt 9218868437227405311 a) := h
  clear h
  go_enter Tryz.func74, Tryz.ntmps74
  go_wp2
  go_ret
  exact ⟨congrArg Ending.returned (congrArg Value.bool H.out), rfl⟩
theorem run_negf8 (a : Nat) (w : World) : (Op.unary .neg (.float .f64 a)).run Tryz.prog w = .ok (.float .f64 (Op.negFloat .f64 a)) w := rfl
theorem isinf_m (a : Nat) (ha : a < 18446744073709551616) (w : World) :
    Calls Tryz.prog 74 #[.float .f64 a, .int .i64 (-1)] w fun e w' => e = .returned (.bool (lt 9218868437227405311 (ngt a))) ∧ w' = w := by
  have kn := run_negf8
  have h := ord_gt (ngt a) 9218868437227405311 (ngt_lt ha) (by omega)
  have hn := negF a ha
  generalize ngt a = b at *
  have H : Hid ((FloatKind.f64.format.order b 9218868437227405311 == some Ordering.gt) = lt 9218868437227405311 b) := h
  clear h
  go_enter Tryz.func74, Tryz.ntmps74
  go_wp2
  go_ret
  refine ⟨?_, rfl⟩
  rw [hn] at *
  exact congrArg Ending.returned (congrArg Value.bool H.out)

theorem ngt_stp {a : Nat} (ha : a < 18446744073709551616) : stp (ngt a) = - stp a := by
  unfold stp
  rw [ngt_mag ha, ngt_neg ha]
  cases neg a <;> simp [sgn]
theorem ngt_nan8 {a : Nat} (ha : a < 18446744073709551616) : isNaN (ngt a) = isNaN a := by
  unfold isNaN; rw [ngt_mag ha]
theorem nan_stp {a : Nat} (h : isNaN a = false) : -9218868437227405312 ≤ stp a ∧ stp a ≤ 9218868437227405312 := by
  have h' : ¬ 9218868437227405312 < mag a := of_decide_eq_false h
  unfold stp sgn
  split <;> omega
/-- what the program asks -/
theorem vI_p (lo hi : Nat) (h1 : lo < 18446744073709551616) (h2 : hi < 18446744073709551616) :
    vI lo hi = (le lo hi && !(lt 9218868437227405311 lo || lt 9218868437227405311 (ngt hi)) && (!decide (lo = 9223372036854775808) && !decide (hi = 9223372036854775808))) := by
  unfold vI
  cases hl : le lo hi
  · rfl
  · unfold le at hl
    simp only [Bool.and_eq_true, Bool.not_eq_true', decide_eq_true_eq] at hl
    obtain ⟨⟨n1, n2⟩, h3⟩ := hl
    have b1 := nan_stp n1
    have b2 := nan_stp n2
    have e1 : lt lo 9218868437227405312 = !lt 9218868437227405311 lo := by
      unfold lt
      rw [n1, show isNaN 9218868437227405312 = false by decide, show isNaN 9218868437227405311 = false by decide, show stp 9218868437227405312 = 9218868437227405312 by decide, show stp 9218868437227405311 = 9218868437227405311 by decide]
      rw [Bool.not_false, Bool.true_and, Bool.true_and, Bool.true_and, ← decide_not]
      exact decide_eq_decide.2 (by omega)
    have e2 : lt 18442240474082181120 hi = !lt 9218868437227405311 (ngt hi) := by
      unfold lt
      rw [ngt_nan8 h2, n2, ngt_stp h2, show isNaN 18442240474082181120 = false by decide, show isNaN 9218868437227405311 = false by decide, show stp 18442240474082181120 = -9218868437227405312 by decide, show stp 9218868437227405311 = 9218868437227405311 by decide]
      rw [Bool.not_false, Bool.true_and, Bool.true_and, Bool.true_and, ← decide_not]
      exact decide_eq_decide.2 (by omega)
    rw [e1, e2]
    simp [Bool.and_assoc]
set_option maxHeartbeats 1000000 in
theorem pvalid_1 (lo hi : Nat) (w : World)
    (h : (FloatKind.f64.format.order lo hi == some Ordering.lt || FloatKind.f64.format.order lo hi == some Ordering.eq) = false) :
    Calls Tryz.prog 52 #[.agg #[.float .f64 lo, .float .f64 hi]] w fun r w' => r = .returned (.bool false) ∧ Below w.heap.size w w' := by
  go_enter Tryz.func52, Tryz.ntmps52
  go_wp2_with (first | fail)
  go_ret
  exact ⟨rfl, (Below.refl _ _).alloc (Nat.le_refl _) _⟩
set_option maxHeartbeats 1000000 in
theorem pvalid_2 (lo hi : Nat) (w : World) (p q s : Bool)
    (h : (FloatKind.f64.format.order lo hi == some Ordering.lt || FloatKind.f64.format.order lo hi == some Ordering.eq) = true)
    (k1 : ∀ W, Calls Tryz.prog 74 #[.float .f64 lo, .int .i64 1] W fun e w' => e = .returned (.bool true) ∧ w' = W)
    (k2 : ∀ W, Calls Tryz.prog 74 #[.float .f64 hi, .int .i64 (-1)] W fun e w' => e = .returned (.bool p) ∧ w' = W)
    (k3 : ∀ W, Calls Tryz.prog 96 #[.float .f64 lo] W fun e w' => e = .returned (.bool q) ∧ w' = W)
    (k4 : ∀ W, Calls Tryz.prog 96 #[.float .f64 hi] W fun e w' => e = .returned (.bool s) ∧ w' = W) :
    Calls Tryz.prog 52 #[.agg #[.float .f64 lo, .float .f64 hi]] w fun r w' => r = .returned (.bool false) ∧ Below w.heap.size w w' := by
  go_enter Tryz.func52, Tryz.ntmps52
  go_wp2_with (first | (go_at_call 74; first | (with_reducible refine (k1 _).mono ?_; rintro r w' ⟨rfl, rfl⟩) | (with_reducible refine (k2 _).mono ?_; rintro r w' ⟨rfl, rfl⟩)) | (go_at_call 96; first | (with_reducible refine (k3 _).mono ?_; rintro r w' ⟨rfl, rfl⟩) | (with_reducible refine (k4 _).mono ?_; rintro r w' ⟨rfl, rfl⟩)))
  go_ret
  exact ⟨rfl, (Below.refl _ _).alloc (Nat.le_refl _) _⟩
set_option maxHeartbeats 1000000 in
theorem pvalid_3 (lo hi : Nat) (w : World) (q s : Bool)
    (h : (FloatKind.f64.format.order lo hi == some Ordering.lt || FloatKind.f64.format.order lo hi == some Ordering.eq) = true)
    (k1 : ∀ W, Calls Tryz.prog 74 #[.float .f64 lo, .int .i64 1] W fun e w' => e = .returned (.bool false) ∧ w' = W)
    (k2 : ∀ W, Calls Tryz.prog 74 #[.float .f64 hi, .int .i64 (-1)] W fun e w' => e = .returned (.bool true) ∧ w' = W)
    (k3 : ∀ W, Calls Tryz.prog 96 #[.float .f64 lo] W fun e w' => e = .returned (.bool q) ∧ w' = W)
    (k4 : ∀ W, Calls Tryz.prog 96 #[.float .f64 hi] W fun e w' => e = .returned (.bool s) ∧ w' = W) :
    Calls Tryz.prog 52 #[.agg #[.float .f64 lo, .float .f64 hi]] w fun r w' => r = .returned (.bool false) ∧ Below w.heap.size w w' := by
  go_enter Tryz.func52, Tryz.ntmps52
  go_wp2_with (first | (go_at_call 74; first | (with_reducible refine (k1 _).mono ?_; rintro r w' ⟨rfl, rfl⟩) | (with_reducible refine (k2 _).mono ?_; rintro r w' ⟨rfl, rfl⟩)) | (go_at_call 96; first | (with_reducible refine (k3 _).mono ?_; rintro r w' ⟨rfl, rfl⟩) | (with_reducible refine (k4 _).mono ?_; rintro r w' ⟨rfl, rfl⟩)))
  go_ret
  exact ⟨rfl, (Below.refl _ _).alloc (Nat.le_refl _) _⟩
set_option maxHeartbeats 1000000 in
theorem pvalid_4 (lo hi : Nat) (w : World) (s : Bool)
    (h : (FloatKind.f64.format.order lo hi == some Ordering.lt || FloatKind.f64.format.order lo hi == some Ordering.eq) = true)
    (k1 : ∀ W, Calls Tryz.prog 74 #[.float .f64 lo, .int .i64 1] W fun e w' => e = .returned (.bool false) ∧ w' = W)
    (k2 : ∀ W, Calls Tryz.prog 74 #[.float .f64 hi, .int .i64 (-1)] W fun e w' => e = .returned (.bool false) ∧ w' = W)
    (k3 : ∀ W, Calls Tryz.prog 96 #[.float .f64 lo] W fun e w' => e = .returned (.bool true) ∧ w' = W)
    (k4 : ∀ W, Calls Tryz.prog 96 #[.float .f64 hi] W fun e w' => e = .returned (.bool s) ∧ w' = W) :
    Calls Tryz.prog 52 #[.agg #[.float .f64 lo, .float .f64 hi]] w fun r w' => r = .returned (.bool false) ∧ Below w.heap.size w w' := by
  go_enter Tryz.func52, Tryz.ntmps52
  go_wp2_with (first | (go_at_call 74; first | (with_reducible refine (k1 _).mono ?_; rintro r w' ⟨rfl, rfl⟩) | (with_reducible refine (k2 _).mono ?_; rintro r w' ⟨rfl, rfl⟩)) | (go_at_call 96; first | (with_reducible refine (k3 _).mono ?_; rintro r w' ⟨rfl, rfl⟩) | (with_reducible refine (k4 _).mono ?_; rintro r w' ⟨rfl, rfl⟩)))
  go_ret
  exact ⟨rfl, (Below.refl _ _).alloc (Nat.le_refl _) _⟩
set_option maxHeartbeats 1000000 in
theorem pvalid_5 (lo hi : Nat) (w : World) (s : Bool)
    (h : (FloatKind.f64.format.order lo hi == some Ordering.lt || FloatKind.f64.format.order lo hi == some Ordering.eq) = true)
    (k1 : ∀ W, Calls Tryz.prog 74 #[.float .f64 lo, .int .i64 1] W fun e w' => e = .returned (.bool false) ∧ w' = W)
    (k2 : ∀ W, Calls Tryz.prog 74 #[.float .f64 hi, .int .i64 (-1)] W fun e w' => e = .returned (.bool false) ∧ w' = W)
    (k3 : ∀ W, Calls Tryz.prog 96 #[.float .f64 lo] W fun e w' => e = .returned (.bool false) ∧ w' = W)
    (k4 : ∀ W, Calls Tryz.prog 96 #[.float .f64 hi] W fun e w' => e = .returned (.bool s) ∧ w' = W) :
    Calls Tryz.prog 52 #[.agg #[.float .f64 lo, .float .f64 hi]] w fun r w' => r = .returned (.bool (!s)) ∧ Below w.heap.size w w' := by
  go_enter Tryz.func52, Tryz.ntmps52
  go_wp2_with (first | (go_at_call 74; first | (with_reducible refine (k1 _).mono ?_; rintro r w' ⟨rfl, rfl⟩) | (with_reducible refine (k2 _).mono ?_; rintro r w' ⟨rfl, rfl⟩)) | (go_at_call 96; first | (with_reducible refine (k3 _).mono ?_; rintro r w' ⟨rfl, rfl⟩) | (with_reducible refine (k4 _).mono ?_; rintro r w' ⟨rfl, rfl⟩)))
  go_ret
  exact ⟨rfl, (Below.refl _ _).alloc (Nat.le_refl _) _⟩
theorem svalid (lo hi : Nat) (h1 : lo < 18446744073709551616) (h2 : hi < 18446744073709551616) (w : World) :
    Calls Tryz.prog 52 #[.agg #[.float .f64 lo, .float .f64 hi]] w fun r w' => r = .returned (.bool (vI lo hi)) ∧ Below w.heap.size w w' := by
  have ho := ord_le lo hi h1 h2
  rw [vI_p lo hi h1 h2]
  have k1 := isinf_p lo h1
  have k2 := isinf_m hi h2
  have k3 := pmn lo h1
  have k4 := pmn hi h2
  cases hl : le lo hi
  · rw [hl] at ho
    exact pvalid_1 lo hi w ho
  · rw [hl] at ho
    cases hp : lt 9218868437227405311 lo
    · rw [hp] at k1
      cases hq : lt 9218868437227405311 (ngt hi)
      · rw [hq] at k2
        cases hs : decide (lo = 9223372036854775808)
        · rw [hs] at k3
          exact pvalid_5 lo hi w _ ho k1 k2 k3 k4
        · rw [hs] at k3
          exact pvalid_4 lo hi w _ ho k1 k2 k3 k4
      · rw [hq] at k2
        exact pvalid_3 lo hi w _ _ ho k1 k2 k3 k4
    · rw [hp] at k1
      exact pvalid_2 lo hi w _ _ _ ho k1 k2 k3 k4
end Go.Proofs.YtcoclopllbfjcaaGreatDoor
/- mayBe, of two intervals; between, All. -/
namespace Go.Proofs.YtcoclopllbfjcaaGreatDoor
set_option linter.unusedVariables false
set_option linter.unusedSimpArgs false
open Go.RowKit Go.Fl64

theorem run_store_flt (P : Program) (w : World) (a : Addr) (m : Mode) (k : FloatKind) (n : Nat) : (store a (.float k n) m).run P w = stored P w a (.float k n) m := run_store P w a _ m rfl
attribute [local go_sem] run_store_flt

set_option maxRecDepth 200000 in
theorem smaybe_1 (g k : Nat) (lo hi : Nat → Nat) (w : World) (hk : k ≤ 3)
    (h0 : ∀ i, i < k → w.cell? ⟨g, i * 2, none⟩ = some (.float .f64 (lo i))) (h1 : ∀ i, i < k → w.cell? ⟨g, i * 2 + 1, none⟩ = some (.float .f64 (hi i)))
    (b0 : ∀ i, lo i < 18446744073709551616) (b1 : ∀ i, hi i < 18446744073709551616) :
    Calls Tryz.prog 33 #[.slice (some ⟨g, 0, none⟩) k k] w fun r w' => r = .returned (.bool (decide (∀ i, i < k → vI (lo i) (hi i) = true))) ∧ Below w.heap.size w w' := by
  generalize hans : decide (∀ i, i < k → vI (lo i) (hi i) = true) = ans
  have HA : Hid (ans = decide (∀ i, i < k → vI (lo i) (hi i) = true)) := hans.symm
  clear hans
  go_enter Tryz.func33, Tryz.ntmps33
  go_wp2
  go_loopw [7] (fun i wr => ∃ j : Nat, j ≤ k ∧ i = .int .i64 j ∧ Hid (Below w.heap.size w wr) ∧ Hid (∀ i, i < j → vI (lo i) (hi i) = true)) (fun i _ => k - (intOf i).toNat)
  case atStart => exact ⟨0, Nat.zero_le _, rfl, Below.refl _ _, (fun i hi' => absurd hi' (Nat.not_lt_zero _) : ∀ i, i < 0 → vI (lo i) (hi i) = true)⟩
  case round =>
    obtain ⟨j, hj, rfl, hB, hok⟩ := hrel
    by_cases hjk : j < k
    · have a0 : wr.cell? ⟨g, j * 2, none⟩ = some (.float .f64 (lo j)) := (hB.out.cell (World.block_lt_of_cell? _ _ (h0 j hjk))).trans (h0 j hjk)
      have a1 : wr.cell? ⟨g, j * 2 + 1, none⟩ = some (.float .f64 (hi j)) := (hB.out.cell (World.block_lt_of_cell? _ _ (h1 j hjk))).trans (h1 j hjk)
      have hg : g < wr.heap.size := World.block_lt_of_cell? _ _ a0
      have hji : (j : Int) < (k : Int) := by omega
      clear h0 h1
      have k18 := svalid (lo j) (hi j) (b0 j) (b1 j) (wr.alloc (.cells #[.float .f64 (lo j), .float .f64 (hi j)] 24))
      generalize hokj : vI (lo j) (hi j) = okj at *
      have HOK : Hid (vI (lo j) (hi j) = okj) := hokj
      clear hokj b0 b1
      go_wp2_with fail
      refine k18.mono ?_
      rintro r w1 ⟨rfl, hw1⟩
      have HB1 : Hid (Below w.heap.size w w1) := (hB.out.alloc hB.out.size _).trans (hw1.mono (by have := hB.out.size; simp; omega))
      clear hw1 k18
      cases okj
      · go_wp2
        go_ret
        refine ⟨congrArg Ending.returned (congrArg Value.bool ?_), HB1.out⟩
        rw [HA.out, decide_eq_false]
        intro h
        have := h j hjk
        rw [HOK.out] at this
        exact absurd this (by decide)
      · go_wp2
        exact ⟨⟨j + 1, by omega, by simp, HB1, (fun i hi' => by
          by_cases e1 : i = j
          · subst e1; exact HOK.out
          · exact hok.out i (by omega) : ∀ i, i < j + 1 → vI (lo i) (hi i) = true)⟩, by simp [intOf]; omega⟩
    · obtain rfl : j = k := by omega
      clear h0 h1
      go_wp2
      go_ret
      refine ⟨congrArg Ending.returned (congrArg Value.bool ?_), hB.out⟩
      rw [HA.out, decide_eq_true hok.out]
theorem box_cells_2x2 {w : World} {g : Nat} {a b c d : Value} {T : TypeId} (h : w.heap[g]? = some (.cells #[a, b, c, d] T (0, 0))) : w.cell? ⟨g, 0, none⟩ = some a ∧ w.cell? ⟨g, 1, none⟩ = some b ∧ w.cell? ⟨g, 2, none⟩ = some c ∧ w.cell? ⟨g, 3, none⟩ = some d := by
  simp [World.cell?, h]
/-- mayBe of two intervals that lie in a new row -/
theorem smaybe {a b c d g : Nat} {T : TypeId} {w : World} (h : w.heap[g]? = some (.cells #[.float .f64 a, .float .f64 b, .float .f64 c, .float .f64 d] T (0, 0)))
    (ha : a < 18446744073709551616) (hb : b < 18446744073709551616) (hc : c < 18446744073709551616) (hd : d < 18446744073709551616) :
    Calls Tryz.prog 33 #[.slice (some ⟨g, 0, none⟩) 2 2] w fun r w' => r = .returned (.bool (vI a b && vI c d)) ∧ Below w.heap.size w w' := by
  obtain ⟨x0, x1, x2, x3⟩ := box_cells_2x2 h
  have k := smaybe_1 g 2 (fun i => if i = 0 then a else c) (fun i => if i = 0 then b else d) w (by omega)
    (fun i hi => by rcases (show i = 0 ∨ i = 1 by omega) with rfl | rfl; exact x0; exact x2)
    (fun i hi => by rcases (show i = 0 ∨ i = 1 by omega) with rfl | rfl; exact x1; exact x3)
    (fun i => by split <;> assumption) (fun i => by split <;> assumption)
  have e : decide (∀ i, i < 2 → vI (if i = 0 then a else c) (if i = 0 then b else d) = true) = (vI a b && vI c d) := by
    rw [Bool.eq_iff_iff, decide_eq_true_eq, Bool.and_eq_true]
    constructor
    · intro h
      exact ⟨h 0 (by omega), h 1 (by omega)⟩
    · rintro ⟨h1, h2⟩ i hi
      rcases (show i = 0 ∨ i = 1 by omega) with rfl | rfl
      · exact h1
      · exact h2
  rw [e] at k
  exact k

theorem iv_info : (Tryz.prog.info? 24).map (·.size) = some 2 := by kernel_rfl
theorem sall (w : World) : Calls Tryz.prog 51 #[] w fun r w' => r = .returned (.agg #[.float .f64 18442240474082181120, .float .f64 9218868437227405312]) ∧ Below w.heap.size w w' := by
  go_enter Tryz.func51, Tryz.ntmps51
  go_wp2_with (first | (go_at_call 44; first | (with_reducible refine (cinf_p _).mono ?_; rintro r w' ⟨rfl, rfl⟩) | (with_reducible refine (cinf_m _).mono ?_; rintro r w' ⟨rfl, rfl⟩)))
  refine bodyPost_ret (results_cell_row rfl _ _ w.heap.size 24 #[.float .f64 18442240474082181120, .float .f64 9218868437227405312] (0, 0) _ rfl (heap_alloc_new _ _) Tryz.underlying24 rfl iv_info) rfl ?_
  exact ⟨rfl, (Below.refl _ _).alloc (Nat.le_refl _) _⟩
theorem sbetween (a b : Nat) (w : World) (ha : a < 18446744073709551616) (hb : b < 18446744073709551616) : Calls Tryz.prog 54 #[.float .f64 a, .float .f64 b] w fun r w' => r = .returned (.agg #[.float .f64 (pl a), .float .f64 (pl b)]) ∧ Below w.heap.size w w' := by
  have k1 := ppl a ha
  have k2 := ppl b hb
  generalize pl a = A at *
  generalize pl b = C at *
  go_enter Tryz.func54, Tryz.ntmps54
  go_wp2_with (first | (go_at_call 97; first | (with_reducible refine (k1 _).mono ?_; rintro r w' ⟨rfl, rfl⟩) | (with_reducible refine (k2 _).mono ?_; rintro r w' ⟨rfl, rfl⟩)))
  refine bodyPost_ret (results_cell_row rfl _ _ w.heap.size 24 #[.float .f64 A, .float .f64 C] (0, 0) _ rfl (heap_alloc_new _ _) Tryz.underlying24 rfl iv_info) rfl ?_
  exact ⟨rfl, (Below.refl _ _).alloc (Nat.le_refl _) _⟩
end Go.Proofs.YtcoclopllbfjcaaGreatDoor
/- Has and Within on both sides. -/
namespace Go.Proofs.YtcoclopllbfjcaaGreatDoor
set_option linter.unusedVariables false
set_option linter.unusedSimpArgs false
open Go.RowKit Go.Fl64
attribute [local go_sem] run_store_flt

set_option maxHeartbeats 2000000 in
theorem shas_1 (lo hi f : Nat) (v i p q : Bool) (w : World)
    (k1 : ∀ W, Calls Tryz.prog 52 #[.agg #[.float .f64 lo, .float .f64 hi]] W fun r w' => r = .returned (.bool v) ∧ Below W.heap.size W w')
    (k2 : ∀ W, Calls Tryz.prog 74 #[.float .f64 f, .int .i64 0] W fun r w' => r = .returned (.bool i) ∧ w' = W)
    (o1 : (FloatKind.f64.format.order lo f == some Ordering.lt || FloatKind.f64.format.order lo f == some Ordering.eq) = p) (o2 : (FloatKind.f64.format.order f hi == some Ordering.lt || FloatKind.f64.format.order f hi == some Ordering.eq) = q) :
    Calls Tryz.prog 42 #[.agg #[.float .f64 lo, .float .f64 hi], .float .f64 f] w fun r w' => r = .returned (.bool (v && !i && p && q)) ∧ Below w.heap.size w w' := by
  obtain ⟨W, hW⟩ : ∃ W, W = w.alloc (.cells #[.float .f64 lo, .float .f64 hi] 24) := ⟨_, rfl⟩
  have HX : Hid (Below w.heap.size w W ∧ W.heap[w.heap.size]? = some (.cells #[.float .f64 lo, .float .f64 hi] 24 (0, 0))) := ⟨by rw [hW]; exact (Below.refl _ _).alloc (Nat.le_refl _) _, by rw [hW]; exact heap_alloc_new _ _⟩
  have HK : Hid (∀ w', Below W.heap.size W w' → w'.cell? ⟨w.heap.size, 0, none⟩ = some (.float .f64 lo) ∧ w'.cell? ⟨w.heap.size, 1, none⟩ = some (.float .f64 hi)) := fun w' hb => box_cells2 (box_later HX.out.2 hb (lt_of_box HX.out.2))
  obtain ⟨c0, c1⟩ := HK.out W (Below.refl _ _)
  have kv := k1 W
  clear k1
  go_enter Tryz.func42, Tryz.ntmps42
  go_upto_region 1 with fail
  rw [← hW]
  clear hW
  go_wp2_with fail
  refine kv.mono ?_
  rintro r w1 ⟨rfl, hb1⟩
  clear c0 c1
  obtain ⟨c0, c1⟩ := HK.out w1 hb1
  have HB : Hid (Below w.heap.size w w1) := HX.out.1.trans (hb1.mono HX.out.1.size)
  clear hb1 HK HX kv
  cases v <;> cases i <;> cases p
  all_goals
    go_wp2_with (first | (go_at_call 74; refine (k2 _).mono ?_; rintro r w' ⟨rfl, rfl⟩))
    go_ret
    exact ⟨rfl, HB.out⟩
/-- whether a float lies in an interval -/
def hI (lo hi f : Nat) : Bool := vI lo hi && !lt 9218868437227405311 (mag f) && le lo f && le f hi
theorem shas (lo hi f : Nat) (h1 : lo < 18446744073709551616) (h2 : hi < 18446744073709551616) (h3 : f < 18446744073709551616) (w : World) :
    Calls Tryz.prog 42 #[.agg #[.float .f64 lo, .float .f64 hi], .float .f64 f] w fun r w' => r = .returned (.bool (hI lo hi f)) ∧ Below w.heap.size w w' :=
  shas_1 lo hi f _ _ _ _ w (fun W => svalid lo hi h1 h2 W) (fun W => c123 f h3 W) (ord_le lo f h1 h3) (ord_le f hi h3 h2)
end Go.Proofs.YtcoclopllbfjcaaGreatDoor
/- math.Max and math.Min, of floats that are no NaN. -/
namespace Go.Proofs.YtcoclopllbfjcaaGreatDoor
set_option linter.unusedVariables false
set_option linter.unusedSimpArgs false
open Go.RowKit Go.Fl64

end Go.Proofs.YtcoclopllbfjcaaGreatDoor
