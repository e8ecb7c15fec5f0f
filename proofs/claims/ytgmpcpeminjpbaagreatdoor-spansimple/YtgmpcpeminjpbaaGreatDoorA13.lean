/- Own work: contracts of the program's functions, part 13: RT3 RT7 RY1 RY2 RY3 RY4 FM6 FM7 FM8 RY5 SA7 SA8 SA9 UA1 UA2 UA3 UA4 UA5 UA6 UA7 SB1 SB2 SB3 SC1 RY6 SC2 PV3 RY7 SD1 SD2 UA8 UA9 UB1 UB2 UB3 SB4 SB5 SH5 SB6 SH6 SH7 SH8 SH9 SI1 SI2 SI3 SI4 UB4 HX W46 W47 W48 RE2 RE5 RE6 RD2 L12 L15 SE1 SE2 SB7 SE3 SF1 SF2 SF3 SF4 SN1 SN2 SN3. -/
import Derived.Test.YtgmpcpeminjpbaaGreatDoorA12
import Derived.Test.YtgmpcpeminjpbaaGreatDoorA8
import Derived.Test.YtgmpcpeminjpbaaGreatDoorA7
import Derived.Deep.CutBlock
import Derived.RangeFuncNested
import Derived.RangeFuncBound
import Derived.RangeFuncCalls
import Derived.RangeFuncLeaves
import Derived.Test.YtgmpcpeminjpbaaGreatDoorA2
import Derived.Shelf.Abstract
import Derived.Shelf.RegionOpen
import Derived.WalkKit
import Derived.OwnWalkIn
import Derived.TacticsInMore
import Derived.LoopNIn
import Derived.LoopIn
import Derived.Test.YtgmpcpeminjpbaaGreatDoorA5
import Derived.Test.YtgmpcpeminjpbaaGreatDoorA11
import Derived.Test.YtgmpcpeminjpbaaGreatDoorA9
import Derived.Test.YtgmpcpeminjpbaaGreatDoorA3
import Derived.Test.YtgmpcpeminjpbaaGreatDoorA10
import Derived.Test.YtgmpcpeminjpbaaGreatDoorA6
import Derived.Lib.ItoaNum

set_option maxHeartbeats 16000000
namespace Go.Proofs.YtgmpcpeminjpbaaGreatDoor
set_option linter.unusedVariables false
set_option linter.unusedSimpArgs false
open Go.RowKit Go.Fl64
open Ie
end Go.Proofs.YtgmpcpeminjpbaaGreatDoor
namespace Go.Proofs.YtgmpcpeminjpbaaGreatDoor
end Go.Proofs.YtgmpcpeminjpbaaGreatDoor
namespace Go.Proofs.YtgmpcpeminjpbaaGreatDoor
set_option linter.unusedVariables false
set_option linter.unusedSimpArgs false
open Go.RowKit Go.Fl64
open Ie
end Go.Proofs.YtgmpcpeminjpbaaGreatDoor
namespace Go.Proofs.YtgmpcpeminjpbaaGreatDoor
set_option linter.unusedVariables false
set_option linter.unusedSimpArgs false
open Go.RowKit
end Go.Proofs.YtgmpcpeminjpbaaGreatDoor
namespace Go.Proofs.YtgmpcpeminjpbaaGreatDoor
set_option linter.unusedVariables false
set_option linter.unusedSimpArgs false
open Go.RowKit Go.Fl64
open Ie
end Go.Proofs.YtgmpcpeminjpbaaGreatDoor
namespace Go.Proofs.YtgmpcpeminjpbaaGreatDoor
set_option linter.unusedVariables false
set_option linter.unusedSimpArgs false
open Go.RowKit Go.Fl64
theorem tF_fits (a : Nat) : Fits (-1074) 1025 (tF a).2.1 (tF a).2.2 := by
  refine Fits.cn (.inr ⟨(Ie.lp_bound a).1, by have := (Ie.lp_bound a).2; omega, ?_⟩)
  have h := Ie.mant_bound a
  have h2 := (Ie.lp_bound a).2
  have : 2 ^ 53 ≤ 2 ^ (1025 - Ie.lp a).toNat := Nat.pow_le_pow_right (by decide) (by omega)
  omega
theorem tF_ok (a : Nat) : Ok (tF a) := by
  refine ok_cn (Fits.ok (lo := -1074) (hi := 1025) (.inr ⟨(Ie.lp_bound a).1, by have := (Ie.lp_bound a).2; omega, ?_⟩) (by omega) (by omega) (by omega))
  have h := Ie.mant_bound a
  have h2 := (Ie.lp_bound a).2
  have : 2 ^ 53 ≤ 2 ^ (1025 - Ie.lp a).toNat := Nat.pow_le_pow_right (by decide) (by omega)
  omega
theorem cn_parts (a m : Nat) (ha : a < 18446744073709551616) (hf : mag a < 9218868437227405312) (hm : Ie.sM a = (m : Int)) : cn (neg a) m (Ie.sE a) = tF a := by
  unfold tF cn
  rcases of_parts a m ha hf hm with ⟨h1, h2⟩ | ⟨h1, h2, -, h3, h4⟩
  · rw [if_pos h1, if_pos h2]
  · rw [if_neg h1, if_neg h2, h3, h4]
theorem exact_ok (a : Nat) (ha : a < 18446744073709551616) (hf : mag a < 9218868437227405312) (w : World) (hT : Tab32 w) (hI : Ie.Tab w) : Calls Tryz.prog 122 #[.float .f64 a] w fun r w' => OutA w (tF a) r w' := by
  obtain ⟨m, hm, hml⟩ := sM_lt a ha
  refine exact_1 a (tF a) w fun W hW => (of_fin a m ha W (hT.later hW) (Tab.later hI hW) hf hm).mono ?_
  rintro r w' ⟨A, rfl, hN, hb⟩
  have hp := hN.pn
  rw [cn_parts a m ha hf hm] at hp
  obtain ⟨s, ao, n, cap, e, rfl⟩ := hp.shape
  exact ⟨s, ao, n, cap, e, rfl, hp, hb⟩
def tS (t1 t2 : Bool × Nat × Int) : Bool × Nat × Int := cn (sumN t1.1 t1.2.1 t1.2.2 t2.1 t2.2.1 t2.2.2).1 (sumN t1.1 t1.2.1 t1.2.2 t2.1 t2.2.1 t2.2.2).2.1 (sumN t1.1 t1.2.1 t1.2.2 t2.1 t2.2.1 t2.2.2).2.2
theorem tS_fits {lo hi : Int} {t1 t2 : Bool × Nat × Int} (h1 : Fits lo hi t1.2.1 t1.2.2) (h2 : Fits lo hi t2.2.1 t2.2.2) : Fits lo (hi + 1) (tS t1 t2).2.1 (tS t1 t2).2.2 := Fits.cn (Fits.sum h1 h2)
theorem tS_okR {lo hi : Int} {t1 t2 : Bool × Nat × Int} (h1 : Fits lo hi t1.2.1 t1.2.2) (h2 : Fits lo hi t2.2.1 t2.2.2) (hb : hi + 1 - lo ≤ 65536) (hlo : -65536 ≤ lo) (hhi : hi + 1 ≤ 65536) : okR (sumN t1.1 t1.2.1 t1.2.2 t2.1 t2.2.1 t2.2.2).1 (sumN t1.1 t1.2.1 t1.2.2 t2.1 t2.2.1 t2.2.2).2.1 (sumN t1.1 t1.2.1 t1.2.2 t2.1 t2.2.1 t2.2.2).2.2 = true := (Fits.sum h1 h2).ok hb hlo hhi
theorem psign {t : Bool × Nat × Int} {A : Value} {w : World} (ok : Ok t) (h : PN w A t) : Calls Tryz.prog 145 #[A] w fun r w' => r = .returned (.int .i64 (sgI t.1 (dlen t.2.1))) ∧ Below w.heap.size w w' := by
  obtain ⟨ao, cap, rfl, h1⟩ := h
  obtain ⟨f1, -, -, -, -⟩ := ok.facts
  exact sign_ok h1 (by omega) ok
theorem sgI_nought {s : Bool} {x : Nat} : (sgI s (dlen x) == 0) = decide (x = 0) := by
  unfold sgI
  by_cases h : x = 0
  · rw [if_pos (dlen_eq_zero.2 h), decide_eq_true h]; rfl
  · rw [if_neg (fun e => h (dlen_eq_zero.1 e)), decide_eq_false h]; cases s <;> rfl
theorem sig_lt {s : Bool} {n : Nat} (h : n ≤ 9218868437227405312) : sig s n < 18446744073709551616 := by
  unfold sig; cases s <;> simp <;> omega
theorem tfF_lt {s : Bool} {x : Nat} {e m : Int} (hm : 1 ≤ m ∧ m ≤ 3) : tfF s true x e m < 18446744073709551616 := by
  rw [tf_bdy hm]; exact sig_lt (bdy_le _ _ _)
theorem fin_false {a : Nat} : fin a = false ↔ ¬ mag a < 9218868437227405312 := by unfold fin; simp
theorem addX_lt {a b : Nat} (ha : a < 18446744073709551616) (hb : b < 18446744073709551616) : addX a b < 18446744073709551616 := by
  unfold addX
  repeat' split
  all_goals first | exact ha | exact hb | decide
def OutF2 (W : World) (X : Nat) (r : Ending) (w' : World) : Prop := ∃ n, r = .returned (.float .f64 n) ∧ lk n X ∧ Below W.heap.size W w'
theorem psub_1 (a b X : Nat) (m : Int) (w : World) (hb : b < 18446744073709551616) (k : Calls Tryz.prog 124 #[.float .f64 a, .float .f64 (ngt b), .int .i64 m] w fun r w' => OutF2 w X r w') :
    Calls Tryz.prog 87 #[.float .f64 a, .float .f64 b, .int .i64 m] w fun r w' => OutF2 w X r w' := by
  have hn : ∀ w, (Op.unary UnOp.neg (.float .f64 b)).run Tryz.prog w = .ok (.float .f64 (ngt b)) w := fun w => by rw [← negF b hb]; rfl
  go_enter Tryz.func87, Tryz.ntmps87
  go_wp2_with fail
  refine k.mono ?_
  rintro r w1 ⟨n, rfl, h1, h2⟩
  have HB : Hid (lk n X ∧ Below w.heap.size w w1) := ⟨h1, h2⟩
  clear k h1 h2
  go_wp2_with fail
  go_ret
  exact ⟨_, rfl, HB.out.1, HB.out.2⟩
end Go.Proofs.YtgmpcpeminjpbaaGreatDoor
namespace Go.Proofs.YtgmpcpeminjpbaaGreatDoor
set_option linter.unusedVariables false
set_option linter.unusedSimpArgs false
open Go Go.RowKit
end Go.Proofs.YtgmpcpeminjpbaaGreatDoor
namespace Go.Proofs.YtgmpcpeminjpbaaGreatDoor
set_option linter.unusedVariables false
set_option linter.unusedSimpArgs false
open Go.RowKit Go.Fl64
end Go.Proofs.YtgmpcpeminjpbaaGreatDoor
namespace Go.Proofs.YtgmpcpeminjpbaaGreatDoor
set_option linter.unusedVariables false
set_option linter.unusedSimpArgs false
open Go Go.RowKit Go.Fl64 Go.Shelf
attribute [local go_sem] Oper.semAt_some
def FAt (w : World) (ao : Option Addr) (len : Nat) (xs : Nat → Nat) : Prop := ∃ b off, (0 < len → ao = some ⟨b, off, none⟩) ∧ ∀ j, j < len → w.cell? ⟨b, off + j, none⟩ = some (.float .f64 (xs j))
theorem FAt.later {w w' : World} {ao : Option Addr} {len : Nat} {xs : Nat → Nat} (h : FAt w ao len xs) (hb : Below w.heap.size w w') : FAt w' ao len xs := by
  obtain ⟨b, off, h1, h2⟩ := h
  refine ⟨b, off, h1, fun j hj => ?_⟩
  have := h2 j hj
  have hlt : b < w.heap.size := by
    unfold World.cell? at this
    rcases Nat.lt_or_ge b w.heap.size with h | h
    · exact h
    · rw [Array.getElem?_eq_none h] at this
      simp at this
  exact (hb.cell (p := ⟨b, off + j, none⟩) hlt).trans this
attribute [local go_sem] Oper.semAt_some
def tSum (xs : Nat → Nat) : Nat → Bool × Nat × Int
  | 0 => (false, 0, 0)
  | k + 1 => tS (tSum xs k) (tF (xs k))
theorem cell_put {W : World} {l : Nat} {o o' : Obj} {p : Addr} {v : Value} (h : W.cell? p = some v) (hl : W.heap[l]? = some o) (ho : o.isCells = false) : (W.putObj l o').cell? p = some v := by
  unfold World.cell? at *
  by_cases e : p.block = l
  · rw [e, hl] at h
    cases o <;> simp_all [Obj.isCells]
  · rw [World.putObj_heap_other e]; exact h
theorem pn_put {W : World} {l : Nat} {o o' : Obj} {A : Value} {t : Bool × Nat × Int} (h : PN W A t) (hl : W.heap[l]? = some o) (ho : o.isCells = false) : PN (W.putObj l o') A t := by
  obtain ⟨ao, cap, h1, ao', cap', h2, h3, h4, b, off, h5, h6⟩ := h
  exact ⟨ao, cap, h1, ao', cap', h2, h3, h4, b, off, h5, fun i hi => cell_put (h6 i hi) hl ho⟩
theorem box_put {W : World} {l g : Nat} {o o' : Obj} {c : Array Value} {ty : TypeId} {z : Nat × Nat} (h : W.heap[g]? = some (.cells c ty z)) (hl : W.heap[l]? = some o) (ho : o.isCells = false) : (W.putObj l o').heap[g]? = some (.cells c ty z) := by
  have e : g ≠ l := by
    intro e
    rw [e, hl] at h
    cases h
    cases ho
  rw [World.putObj_heap_other e]; exact h
def TotI (w : World) (B g3 : Nat) (xs : Nat → Nat) (k : Nat) (W : World) : Prop :=
  Below w.heap.size w W ∧ B ≤ W.heap.size ∧ W.heap[w.heap.size]? = some (.cells #[.bool false, .slice none 0 0, .int .i64 0] 28 (0, 0)) ∧ ∃ s ao n cap e, W.heap[g3]? = some (.cells #[.bool s, .slice ao n cap, .int .i64 e] 28 (0, 0)) ∧ PN W (.agg #[.bool s, .slice ao n cap, .int .i64 e]) (tSum xs k)
theorem TotI.later {w : World} {B g3 : Nat} {xs : Nat → Nat} {k : Nat} {A C : World} (h : TotI w B g3 xs k A) (hb : Below A.heap.size A C) : TotI w B g3 xs k C := by
  obtain ⟨h1, h2, h3, s, ao, n, cap, e, h4, h5⟩ := h
  exact ⟨h1.trans (hb.mono h1.size), Nat.le_trans h2 hb.size, box_later h3 hb (lt_of_box h3), s, ao, n, cap, e, box_later h4 hb (lt_of_box h4), h5.later hb⟩
theorem TotI.put {w : World} {B g3 : Nat} {xs : Nat → Nat} {k l : Nat} {A : World} {o o' : Obj} (h : TotI w B g3 xs k A) (hB : w.heap.size ≤ B) (hl : B ≤ l) (ho : A.heap[l]? = some o) (hc : o.isCells = false) : TotI w B g3 xs k (A.putObj l o') := by
  obtain ⟨h1, h2, h3, s, ao, n, cap, e, h4, h5⟩ := h
  have hb : Below w.heap.size A (A.putObj l o') := (Below.refl w.heap.size A).grown (grownBy_putObj' A l o') (by have := (Array.getElem?_eq_some_iff.1 ho).1; omega) (fun k e => by cases e; omega)
  exact ⟨h1.trans hb, Nat.le_trans h2 hb.size, box_put h3 ho hc, s, ao, n, cap, e, box_put h4 ho hc, pn_put h5 ho hc⟩
theorem KeepsFrom.below {B : Nat} {W W' : World} (h : Below W.heap.size W W') : KeepsFrom B W W' := ⟨h.size, fun k o _ hk _ => box_later hk h (Array.getElem?_eq_some_iff.1 hk).1⟩
end Go.Proofs.YtgmpcpeminjpbaaGreatDoor
namespace Go.Proofs.YtgmpcpeminjpbaaGreatDoor
set_option linter.unusedVariables false
set_option linter.unusedSimpArgs false
open Go.RowKit Go.Fl64
def UxP (w3 wc : World) (g : Nat) (s : Bool) (ao : Option Addr) (n cap : Nat) (ex : Int) (t : Bool × Nat × Int) : Prop := wc.heap[g]? = some (.cells #[.bool s, .slice ao n cap, .int .i64 ex] 28 (0, 0)) ∧ w3.heap.size ≤ g ∧ Below w3.heap.size w3 wc ∧ PN wc (.agg #[.bool s, .slice ao n cap, .int .i64 ex]) t
theorem UxP.new {w3 w7 : World} {s : Bool} {ao : Option Addr} {n cap : Nat} {ex : Int} {t : Bool × Nat × Int} (hn : PN w7 (.agg #[.bool s, .slice ao n cap, .int .i64 ex]) t) (hb : Below w3.heap.size w3 w7) : UxP w3 (w7.alloc (.cells #[.bool s, .slice ao n cap, .int .i64 ex] 28)) w7.heap.size s ao n cap ex t :=
  ⟨heap_alloc_new _ _, hb.size, hb.alloc hb.size _, hn.later ((Below.refl _ _).alloc (Nat.le_refl _) _)⟩
theorem UxP.put {w3 w7 : World} {g : Nat} {s : Bool} {ao : Option Addr} {n cap : Nat} {ex : Int} {t : Bool × Nat × Int} (hn : PN w7 (.agg #[.bool s, .slice ao n cap, .int .i64 ex]) t) (hb : Below w3.heap.size w3 w7) (hg : w3.heap.size ≤ g) (hbx : w7.heap[g]? = some (.cells #[.bool false, .slice none 0 0, .int .i64 0] 28 (0, 0))) :
    UxP w3 (((w7.setCell ⟨g, 0, none⟩ (.bool s)).setCell ⟨g, 1, none⟩ (.slice ao n cap)).setCell ⟨g, 2, none⟩ (.int .i64 ex)) g s ao n cap ex t :=
  ⟨store3 _ _ _ hbx, hg, below_store3 hb hg _ _ _, pn_store hn hbx _ _ _⟩
theorem lk_or {n X : Nat} (h : lk n X) : n = X ∨ (isNaN n = true ∧ isNaN X = true) := by
  cases hn : isNaN X
  · exact .inl (h.eq hn)
  · cases h2 : isNaN n
    · have := h.2
      unfold same at this
      rw [hn, h2] at this
      have e : n = X := by simp at this; omega
      rw [e, hn] at h2
      cases h2
    · exact .inr ⟨rfl, rfl⟩
def rtK (t1 t2 : Bool × Nat × Int) : Nat := (max 0 (64 + (bl t2.2.1 : Int) - (bl t1.2.1 : Int))).toNat
def rtF (t1 t2 : Bool × Nat × Int) (m : Int) : Nat := tfF (t1.1 != t2.1) (decide (t1.2.1 * 2 ^ rtK t1 t2 % t2.2.1 = 0)) (t1.2.1 * 2 ^ rtK t1 t2 / t2.2.1) (t1.2.2 - t2.2.2 - rtK t1 t2) m
theorem pratio {t1 t2 : Bool × Nat × Int} {X Y : Value} {m : Int} {w : World} (hT : Tab32 w) (o1 : Ok t1) (o2 : Ok t2) (h1 : PN w X t1) (h2 : PN w Y t2) (x0 : t1.2.1 ≠ 0) (y0 : t2.2.1 ≠ 0) (hm : 1 ≤ m ∧ m ≤ 3) :
    Calls Tryz.prog 28 #[X, Y, .int .i64 m] w fun r w' => r = .returned (.tuple #[.float .f64 (rtF t1 t2 m), .int .i64 0]) ∧ Below w.heap.size w w' := by
  obtain ⟨pa, pc, rfl, i1⟩ := h1
  obtain ⟨qa, qc, rfl, i2⟩ := h2
  have f1 := o1.facts
  have f2 := o2.facts
  have bx := bl_le_dlen t1.2.1
  have by' := bl_le_dlen t2.2.1
  have hn0 : ((dlen t1.2.1 : Int) == 0) = false := by
    have : dlen t1.2.1 ≠ 0 := fun e => x0 (dlen_eq_zero.1 e)
    simp; omega
  have hn1 : ((dlen t2.2.1 : Int) == 0) = false := by
    have : dlen t2.2.1 ≠ 0 := fun e => y0 (dlen_eq_zero.1 e)
    simp; omega
  have hk : max 0 (64 + (bl t2.2.1 : Int) - (bl t1.2.1 : Int)) = (rtK t1 t2 : Int) := by unfold rtK; omega
  refine pratio_1 t1.1 t2.1 pa qa _ pc _ qc _ _ (rtK t1 t2) (bl t1.2.1) (bl t2.2.1) t1.2.2 t2.2.2 m (t1.1 != t2.1) w (rfl : (!(t1.1 == t2.1)) = (t1.1 != t2.1)) hT i1 i2 (by omega) (by omega) y0 (by omega) (by omega) (by omega) (by omega) (by omega) rfl rfl (by omega) (by omega) hk (by omega) hn0 hn1 (fun W' g hW' hg => ?_)
  have := maybe2 hg (i1.later hW') (i2.later hW') (by omega) (by omega)
  rw [show okN t1.1 (dlen t1.2.1) t1.2.1 t1.2.2 = true from o1, show okN t2.1 (dlen t2.2.1) t2.2.1 t2.2.2 = true from o2] at this
  exact this
theorem ne_nought {a : Nat} (ha : a < 18446744073709551616) (hf : mag a < 9218868437227405312) : (FloatKind.f64.format.order a 0 != some Ordering.eq) = decide (mag a ≠ 0) := by
  rw [bne, ord_eq a 0 ha (by decide)]
  have na : isNaN a = false := by unfold isNaN; simp; omega
  have nb : isNaN 0 = false := by decide
  unfold Fl64.eq
  rw [na, nb]
  have e0 : stp 0 = 0 := by decide
  rw [e0]
  by_cases h : mag a = 0
  · have : stp a = 0 := by unfold stp sgn; rw [h]; simp
    simp [this, h]
  · have : stp a ≠ 0 := by unfold stp sgn; split <;> omega
    simp [this, h]
theorem pplain_y (a : Nat) (ha : a < 18446744073709551616) (hf : mag a < 9218868437227405312) (h0 : mag a ≠ 0) (w : World) : Calls Tryz.prog 119 #[.float .f64 a] w fun r w' => r = .returned (.bool true) ∧ w' = w := by
  have k := pfin_y a ha hf
  have he := ne_nought ha hf
  rw [decide_eq_true h0] at he
  clear ha hf h0
  go_enter Tryz.func119, Tryz.ntmps119
  go_wp2_with (go_at_call 141; refine (k _).mono ?_; rintro e w' ⟨rfl, rfl⟩)
  go_ret
  exact ⟨rfl, rfl⟩
theorem pplain_z (a : Nat) (ha : a < 18446744073709551616) (h0 : mag a = 0) (w : World) : Calls Tryz.prog 119 #[.float .f64 a] w fun r w' => r = .returned (.bool false) ∧ w' = w := by
  have k := pfin_y a ha (by omega)
  have he := ne_nought ha (by omega)
  rw [decide_eq_false (by omega)] at he
  clear ha h0
  go_enter Tryz.func119, Tryz.ntmps119
  go_wp2_with (go_at_call 141; refine (k _).mono ?_; rintro e w' ⟨rfl, rfl⟩)
  go_ret
  exact ⟨rfl, rfl⟩
theorem pplain_n (a : Nat) (ha : a < 18446744073709551616) (hf : ¬ mag a < 9218868437227405312) (w : World) : Calls Tryz.prog 119 #[.float .f64 a] w fun r w' => r = .returned (.bool false) ∧ w' = w.drew := by
  have k := pfin_n a ha hf w
  clear ha hf
  go_enter Tryz.func119, Tryz.ntmps119
  go_wp2_with fail
  refine k.mono ?_
  rintro e w' ⟨rfl, hw⟩
  rw [hw]
  clear hw k w'
  go_wp2
  go_ret
  exact ⟨rfl, rfl⟩
set_option maxRecDepth 200000 in
theorem pdiv_r (a b F : Nat) (m : Int) (ta tb : Bool × Nat × Int) (w : World) (hm : isM m = true)
    (hfa : ∀ W, Calls Tryz.prog 119 #[.float .f64 a] W fun r w' => r = .returned (.bool true) ∧ w' = W)
    (hfb : ∀ W, Calls Tryz.prog 119 #[.float .f64 b] W fun r w' => r = .returned (.bool true) ∧ w' = W)
    (kA : Calls Tryz.prog 122 #[.float .f64 a] w fun r w' => OutA w ta r w')
    (kB : ∀ W, Below w.heap.size w W → Calls Tryz.prog 122 #[.float .f64 b] W fun r w' => OutA W tb r w')
    (kC : ∀ W X Y, Below w.heap.size w W → PN W X ta → PN W Y tb → Calls Tryz.prog 28 #[X, Y, .int .i64 m] W fun r w' => r = .returned (.tuple #[.float .f64 F, .int .i64 0]) ∧ Below W.heap.size W w') :
    Calls Tryz.prog 85 #[.float .f64 a, .float .f64 b, .int .i64 m] w fun r w' => r = .returned (.float .f64 F) ∧ Below w.heap.size w w' := by
  have kV := pvalid m w
  rw [hm] at kV
  have HKB : Hid _ := kB
  have HKC : Hid _ := kC
  clear kB kC
  go_enter Tryz.func85, Tryz.ntmps85
  go_wp2_with fail
  refine kV.mono ?_
  rintro r w' ⟨rfl, hw⟩
  rw [hw]
  clear hw kV
  have kN := hfa w
  go_wp2_with fail
  refine kN.mono ?_
  rintro r w' ⟨rfl, hw⟩
  rw [hw]
  clear hw kN hfa
  have kN := hfb w
  go_wp2_with fail
  refine kN.mono ?_
  rintro r w' ⟨rfl, hw⟩
  rw [hw]
  clear hw kN hfb
  go_wp2_with fail
  refine kA.mono ?_
  rintro r w1 ⟨s1, ao1, n1, cap1, ex1, rfl, hP1, hb1⟩
  have k2 := HKB.out w1 hb1
  clear kA
  go_wp2_with fail
  refine k2.mono ?_
  rintro r w2 ⟨s2, ao2, n2, cap2, ex2, rfl, hP2, hb2⟩
  have HB2 : Hid (Below w.heap.size w w2) := hb1.trans (hb2.mono hb1.size)
  have k3 := HKC.out w2 _ _ HB2.out (hP1.later hb2) hP2
  clear k2 hP1 hP2 hb1 hb2
  go_wp2_with fail
  refine k3.mono ?_
  rintro r w3 ⟨rfl, hb3⟩
  have HB3 : Hid (Below w.heap.size w w3) := HB2.out.trans (hb3.mono HB2.out.size)
  clear k3 hb3
  go_wp2_with fail
  go_ret
  exact ⟨rfl, HB3.out⟩
theorem pdiv_ok (a b : Nat) (m : Int) (w : World) (hm : isM m = true) (hT : Tab32 w) (hI : Ie.Tab w) (ha : a < 18446744073709551616) (hb : b < 18446744073709551616) (hfa : mag a < 9218868437227405312) (hfb : mag b < 9218868437227405312) (ha0 : mag a ≠ 0) (hb0 : mag b ≠ 0) (xa : (tF a).2.1 ≠ 0) (xb : (tF b).2.1 ≠ 0) :
    Calls Tryz.prog 85 #[.float .f64 a, .float .f64 b, .int .i64 m] w fun r w' => r = .returned (.float .f64 (rtF (tF a) (tF b) m)) ∧ Below w.heap.size w w' :=
  pdiv_r a b _ m (tF a) (tF b) w hm (pplain_y a ha hfa ha0) (pplain_y b hb hfb hb0) (exact_ok a ha hfa w hT hI) (fun W h => exact_ok b hb hfb W (hT.later h) (Tab.later hI h)) (fun W X Y h h1 h2 => pratio (hT.later h) (tF_ok a) (tF_ok b) h1 h2 xa xb (isM_iff.1 hm))
theorem tF_ne {a : Nat} (h : mag a ≠ 0) : (tF a).2.1 ≠ 0 := by
  have h1 := Ie.mant_ne h
  unfold tF cn
  rw [if_neg h1]
  intro e
  have := (tz_spec _ _ (Nat.le_refl _) h1).2
  simp only at e
  rw [e] at this
  simp at this
def tM (t1 t2 : Bool × Nat × Int) : Bool × Nat × Int := cn (!(t1.1 == t2.1)) (t1.2.1 * t2.2.1) (t1.2.2 + t2.2.2)
theorem tM_ok {t1 t2 : Bool × Nat × Int} (h : okR (!(t1.1 == t2.1)) (t1.2.1 * t2.2.1) (t1.2.2 + t2.2.2) = true) : Ok (tM t1 t2) := ok_cn h
def Rn (op : BinOp) (a b F : Nat) : Prop := (∀ W, (binOp op 22 (.float .f64 a) (.float .f64 b)).run Tryz.prog W = .ok (.float .f64 F) W) ∨ ∀ W, ∃ n, lk n F ∧ (binOp op 22 (.float .f64 a) (.float .f64 b)).run Tryz.prog W = .ok (.float .f64 n) W.drew
theorem rn_of {op : BinOp} {a b F : Nat} (hop : op = .add ∨ op = .sub ∨ op = .mul ∨ op = .quo) (h : (floatBits op .f64 a b = none ∧ isNaN F = true) ∨ floatBits op .f64 a b = some F) : Rn op a b F := by
  rcases h with ⟨h1, h2⟩ | h1
  · refine .inr fun W => ?_
    obtain ⟨n, n1, n2, hs⟩ := run_nan (P := Tryz.prog) W op 22 a b hop h1
    exact ⟨n, lk.nan n1 n2 h2, hs⟩
  · exact .inl fun W => run_float_arith W op 22 .f64 a b _ h1
theorem pplain_f (a : Nat) (ha : a < 18446744073709551616) (h : pln a = false) (w : World) : Calls Tryz.prog 119 #[.float .f64 a] w fun r w' => r = .returned (.bool false) ∧ Below w.heap.size w w' := by
  rcases pln_false.1 h with h | h
  · exact (pplain_n a ha h w).mono fun r w' ⟨e, hw⟩ => ⟨e, hw ▸ (Below.refl _ _).drew⟩
  · exact (pplain_z a ha h w).mono fun r w' ⟨e, hw⟩ => ⟨e, hw ▸ Below.refl _ _⟩
theorem pplain_t (a : Nat) (ha : a < 18446744073709551616) (h : pln a = true) (w : World) : Calls Tryz.prog 119 #[.float .f64 a] w fun r w' => r = .returned (.bool true) ∧ w' = w := pplain_y a ha (pln_true.1 h).1 (pln_true.1 h).2 w
theorem pmul_no (a b : Nat) (m : Int) (w : World) (hm : isM m = false) : Calls Tryz.prog 83 #[.float .f64 a, .float .f64 b, .int .i64 m] w fun r w' => r = .returned (.float .f64 9221120237041090561) ∧ Below w.heap.size w w' := by
  have kV := pvalid m w
  rw [hm] at kV
  go_enter Tryz.func83, Tryz.ntmps83
  go_wp2_with fail
  refine kV.mono ?_
  rintro r w' ⟨rfl, hw⟩
  rw [hw]
  clear hw kV w'
  have kN := Ie.c52 w
  go_wp2_with fail
  refine kN.mono ?_
  rintro r w' ⟨rfl, hw⟩
  rw [hw]
  clear hw kN w'
  go_wp2_with fail
  go_ret
  exact ⟨rfl, Below.refl _ _⟩
set_option maxRecDepth 200000 in
theorem pmul_na (a b F : Nat) (m : Int) (w : World) (hm : isM m = true) (hfa : ∀ W, Calls Tryz.prog 119 #[.float .f64 a] W fun r w' => r = .returned (.bool false) ∧ Below W.heap.size W w') (h : Rn .mul a b F) (hF : F < 18446744073709551616) :
    Calls Tryz.prog 83 #[.float .f64 a, .float .f64 b, .int .i64 m] w fun r w' => OutF2 w F r w' := by
  have kV := pvalid m w
  rw [hm] at kV
  have HF : Hid (F < 18446744073709551616 ∧ Rn .mul a b F) := ⟨hF, h⟩
  clear hF h
  go_enter Tryz.func83, Tryz.ntmps83
  go_wp2_with fail
  refine kV.mono ?_
  rintro r w' ⟨rfl, hw⟩
  rw [hw]
  clear hw kV w'
  have kN := hfa w
  go_wp2_with fail
  refine kN.mono ?_
  rintro r w1 ⟨rfl, hb1⟩
  have HB : Hid (Below w.heap.size w w1 ∧ Below w.heap.size w w1.drew) := ⟨hb1, hb1.drew⟩
  clear hb1 kN hfa
  rcases HF.out.2 with h | h
  · have hr := h w1
    clear h
    go_wp2_with fail
    go_ret
    exact ⟨_, rfl, lk.refl HF.out.1, HB.out.1⟩
  · obtain ⟨n, hn, hr⟩ := h w1
    have HN : Hid (lk n F) := hn
    clear hn h
    go_wp2_with fail
    go_ret
    exact ⟨_, rfl, HN.out, HB.out.2⟩
set_option maxRecDepth 200000 in
theorem pmul_nb (a b F : Nat) (m : Int) (w : World) (hm : isM m = true) (hfa : ∀ W, Calls Tryz.prog 119 #[.float .f64 a] W fun r w' => r = .returned (.bool true) ∧ w' = W) (hfb : ∀ W, Calls Tryz.prog 119 #[.float .f64 b] W fun r w' => r = .returned (.bool false) ∧ Below W.heap.size W w') (h : Rn .mul a b F) (hF : F < 18446744073709551616) :
    Calls Tryz.prog 83 #[.float .f64 a, .float .f64 b, .int .i64 m] w fun r w' => OutF2 w F r w' := by
  have kV := pvalid m w
  rw [hm] at kV
  have HF : Hid (F < 18446744073709551616 ∧ Rn .mul a b F) := ⟨hF, h⟩
  clear hF h
  go_enter Tryz.func83, Tryz.ntmps83
  go_wp2_with fail
  refine kV.mono ?_
  rintro r w' ⟨rfl, hw⟩
  rw [hw]
  clear hw kV w'
  have kN := hfa w
  go_wp2_with fail
  refine kN.mono ?_
  rintro r w' ⟨rfl, hw⟩
  rw [hw]
  clear hw kN hfa w'
  have kN := hfb w
  go_wp2_with fail
  refine kN.mono ?_
  rintro r w1 ⟨rfl, hb1⟩
  have HB : Hid (Below w.heap.size w w1 ∧ Below w.heap.size w w1.drew) := ⟨hb1, hb1.drew⟩
  clear hb1 kN hfb
  rcases HF.out.2 with h | h
  · have hr := h w1
    clear h
    go_wp2_with fail
    go_ret
    exact ⟨_, rfl, lk.refl HF.out.1, HB.out.1⟩
  · obtain ⟨n, hn, hr⟩ := h w1
    have HN : Hid (lk n F) := hn
    clear hn h
    go_wp2_with fail
    go_ret
    exact ⟨_, rfl, HN.out, HB.out.2⟩
theorem pdiv_no (a b : Nat) (m : Int) (w : World) (hm : isM m = false) : Calls Tryz.prog 85 #[.float .f64 a, .float .f64 b, .int .i64 m] w fun r w' => r = .returned (.float .f64 9221120237041090561) ∧ Below w.heap.size w w' := by
  have kV := pvalid m w
  rw [hm] at kV
  go_enter Tryz.func85, Tryz.ntmps85
  go_wp2_with fail
  refine kV.mono ?_
  rintro r w' ⟨rfl, hw⟩
  rw [hw]
  clear hw kV w'
  have kN := Ie.c52 w
  go_wp2_with fail
  refine kN.mono ?_
  rintro r w' ⟨rfl, hw⟩
  rw [hw]
  clear hw kN w'
  go_wp2_with fail
  go_ret
  exact ⟨rfl, Below.refl _ _⟩
set_option maxRecDepth 200000 in
theorem pdiv_na (a b F : Nat) (m : Int) (w : World) (hm : isM m = true) (hfa : ∀ W, Calls Tryz.prog 119 #[.float .f64 a] W fun r w' => r = .returned (.bool false) ∧ Below W.heap.size W w') (h : Rn .quo a b F) (hF : F < 18446744073709551616) :
    Calls Tryz.prog 85 #[.float .f64 a, .float .f64 b, .int .i64 m] w fun r w' => OutF2 w F r w' := by
  have kV := pvalid m w
  rw [hm] at kV
  have HF : Hid (F < 18446744073709551616 ∧ Rn .quo a b F) := ⟨hF, h⟩
  clear hF h
  go_enter Tryz.func85, Tryz.ntmps85
  go_wp2_with fail
  refine kV.mono ?_
  rintro r w' ⟨rfl, hw⟩
  rw [hw]
  clear hw kV w'
  have kN := hfa w
  go_wp2_with fail
  refine kN.mono ?_
  rintro r w1 ⟨rfl, hb1⟩
  have HB : Hid (Below w.heap.size w w1 ∧ Below w.heap.size w w1.drew) := ⟨hb1, hb1.drew⟩
  clear hb1 kN hfa
  rcases HF.out.2 with h | h
  · have hr := h w1
    clear h
    go_wp2_with fail
    go_ret
    exact ⟨_, rfl, lk.refl HF.out.1, HB.out.1⟩
  · obtain ⟨n, hn, hr⟩ := h w1
    have HN : Hid (lk n F) := hn
    clear hn h
    go_wp2_with fail
    go_ret
    exact ⟨_, rfl, HN.out, HB.out.2⟩
set_option maxRecDepth 200000 in
theorem pdiv_nb (a b F : Nat) (m : Int) (w : World) (hm : isM m = true) (hfa : ∀ W, Calls Tryz.prog 119 #[.float .f64 a] W fun r w' => r = .returned (.bool true) ∧ w' = W) (hfb : ∀ W, Calls Tryz.prog 119 #[.float .f64 b] W fun r w' => r = .returned (.bool false) ∧ Below W.heap.size W w') (h : Rn .quo a b F) (hF : F < 18446744073709551616) :
    Calls Tryz.prog 85 #[.float .f64 a, .float .f64 b, .int .i64 m] w fun r w' => OutF2 w F r w' := by
  have kV := pvalid m w
  rw [hm] at kV
  have HF : Hid (F < 18446744073709551616 ∧ Rn .quo a b F) := ⟨hF, h⟩
  clear hF h
  go_enter Tryz.func85, Tryz.ntmps85
  go_wp2_with fail
  refine kV.mono ?_
  rintro r w' ⟨rfl, hw⟩
  rw [hw]
  clear hw kV w'
  have kN := hfa w
  go_wp2_with fail
  refine kN.mono ?_
  rintro r w' ⟨rfl, hw⟩
  rw [hw]
  clear hw kN hfa w'
  have kN := hfb w
  go_wp2_with fail
  refine kN.mono ?_
  rintro r w1 ⟨rfl, hb1⟩
  have HB : Hid (Below w.heap.size w w1 ∧ Below w.heap.size w w1.drew) := ⟨hb1, hb1.drew⟩
  clear hb1 kN hfb
  rcases HF.out.2 with h | h
  · have hr := h w1
    clear h
    go_wp2_with fail
    go_ret
    exact ⟨_, rfl, lk.refl HF.out.1, HB.out.1⟩
  · obtain ⟨n, hn, hr⟩ := h w1
    have HN : Hid (lk n F) := hn
    clear hn h
    go_wp2_with fail
    go_ret
    exact ⟨_, rfl, HN.out, HB.out.2⟩
set_option maxRecDepth 200000 in
theorem pmul_r (a b F : Nat) (m : Int) (ta tb t3 : Bool × Nat × Int) (w : World) (hm : isM m = true)
    (hfa : ∀ W, Calls Tryz.prog 119 #[.float .f64 a] W fun r w' => r = .returned (.bool true) ∧ w' = W)
    (hfb : ∀ W, Calls Tryz.prog 119 #[.float .f64 b] W fun r w' => r = .returned (.bool true) ∧ w' = W)
    (kA : Calls Tryz.prog 122 #[.float .f64 a] w fun r w' => OutA w ta r w')
    (kB : ∀ W, Below w.heap.size w W → Calls Tryz.prog 122 #[.float .f64 b] W fun r w' => OutA W tb r w')
    (kC : ∀ W X Y, Below w.heap.size w W → PN W X ta → PN W Y tb → Calls Tryz.prog 121 #[X, Y] W fun r w' => OutA W t3 r w')
    (kR : ∀ W X, Below w.heap.size w W → PN W X t3 → Calls Tryz.prog 120 #[X, .int .i64 m] W fun r w' => r = .returned (.float .f64 F) ∧ Below W.heap.size W w') :
    Calls Tryz.prog 83 #[.float .f64 a, .float .f64 b, .int .i64 m] w fun r w' => r = .returned (.float .f64 F) ∧ Below w.heap.size w w' := by
  have kV := pvalid m w
  rw [hm] at kV
  have HKB : Hid _ := kB
  have HKC : Hid _ := kC
  have HKR : Hid _ := kR
  clear kB kC kR
  go_enter Tryz.func83, Tryz.ntmps83
  go_wp2_with fail
  refine kV.mono ?_
  rintro r w' ⟨rfl, hw⟩
  rw [hw]
  clear hw kV
  have kN := hfa w
  go_wp2_with fail
  refine kN.mono ?_
  rintro r w' ⟨rfl, hw⟩
  rw [hw]
  clear hw kN hfa
  have kN := hfb w
  go_wp2_with fail
  refine kN.mono ?_
  rintro r w' ⟨rfl, hw⟩
  rw [hw]
  clear hw kN hfb
  go_wp2_with fail
  refine kA.mono ?_
  rintro r w1 ⟨s1, ao1, n1, cap1, ex1, rfl, hP1, hb1⟩
  have k2 := HKB.out w1 hb1
  clear kA
  go_wp2_with fail
  refine k2.mono ?_
  rintro r w2 ⟨s2, ao2, n2, cap2, ex2, rfl, hP2, hb2⟩
  have HB2 : Hid (Below w.heap.size w w2) := hb1.trans (hb2.mono hb1.size)
  have k3 := HKC.out w2 _ _ HB2.out (hP1.later hb2) hP2
  clear k2 hP1 hP2 hb1 hb2
  go_wp2_with fail
  refine k3.mono ?_
  rintro r w3 ⟨s3, ao3, n3, cap3, ex3, rfl, hP3, hb3⟩
  have HB3 : Hid (Below w.heap.size w w3) := HB2.out.trans (hb3.mono HB2.out.size)
  have k4 := HKR.out w3 _ HB3.out hP3
  clear k3 hb3 hP3
  go_wp2_with fail
  refine k4.mono ?_
  rintro r w4 ⟨rfl, hb4⟩
  have HB4 : Hid (Below w.heap.size w w4) := HB3.out.trans (hb4.mono HB3.out.size)
  clear k4 hb4
  go_wp2_with fail
  go_ret
  exact ⟨rfl, HB4.out⟩
theorem tM_okR (a b : Nat) : okR (!((tF a).1 == (tF b).1)) ((tF a).2.1 * (tF b).2.1) ((tF a).2.2 + (tF b).2.2) = true := (Fits.mul (tF_fits a) (tF_fits b)).ok (by omega) (by omega) (by omega)
theorem mulX_lt {a b : Nat} : mulX a b < 18446744073709551616 := by
  unfold mulX
  repeat' split
  all_goals first | decide | exact (by unfold sig; split <;> decide)
theorem divX_lt {a b : Nat} : divX a b < 18446744073709551616 := by
  unfold divX
  repeat' split
  all_goals first | decide | exact (by unfold sig; split <;> decide)
def fMul (a b : Nat) (m : Int) : Nat := if isM m = false then 9221120237041090560 else if pln a = false ∨ pln b = false then mulX a b else tfF (tM (tF a) (tF b)).1 true (tM (tF a) (tF b)).2.1 (tM (tF a) (tF b)).2.2 m
def fDiv (a b : Nat) (m : Int) : Nat := if isM m = false then 9221120237041090560 else if pln a = false ∨ pln b = false then divX a b else rtF (tF a) (tF b) m
theorem tfM_lt (ex : Bool) (x : Nat) : tfM ex x < 18446744073709551616 := by
  have h1 : x < 2 ^ (tfD x + 64) := Nat.lt_of_lt_of_le (lt_bl x) (Nat.pow_le_pow_right (by decide) (by unfold tfD; omega))
  rw [Nat.pow_add] at h1
  have h2 : x / 2 ^ tfD x < 2 ^ 64 := Nat.div_lt_of_lt_mul h1
  have h3 : x / 2 ^ tfD x ||| 1 < 2 ^ 64 := Nat.or_lt_two_pow h2 (by decide)
  unfold tfM
  split
  · exact h2
  · exact h3
theorem tfF_lt' {s ex : Bool} {x : Nat} {e m : Int} (hm : 1 ≤ m ∧ m ≤ 3) : tfF s ex x e m < 18446744073709551616 := by
  unfold tfF Ie.mk
  rw [if_pos (by omega)]
  refine sig_lt ?_
  split
  · omega
  · rename_i h0
    have := Ie.bod_bounds (tfM ex x) (e + (tfD x : Int)) (Ie.wy s m) (tfM_lt ex x) h0
    omega
theorem rtF_lt {t1 t2 : Bool × Nat × Int} {m : Int} (hm : 1 ≤ m ∧ m ≤ 3) : rtF t1 t2 m < 18446744073709551616 := tfF_lt' hm
theorem fMul_lt {a b : Nat} {m : Int} : fMul a b m < 18446744073709551616 := by
  unfold fMul
  split
  · decide
  · rename_i h
    split
    · exact mulX_lt
    · exact tfF_lt (isM_iff.1 (by simpa using h))
theorem fDiv_lt {a b : Nat} {m : Int} : fDiv a b m < 18446744073709551616 := by
  unfold fDiv
  split
  · decide
  · rename_i h
    split
    · exact divX_lt
    · exact rtF_lt (isM_iff.1 (by simpa using h))
theorem pmul_all (a b : Nat) (m : Int) (ha : a < 18446744073709551616) (hb : b < 18446744073709551616) (w : World) (hT : Tab32 w) (hI : Ie.Tab w) :
    Calls Tryz.prog 83 #[.float .f64 a, .float .f64 b, .int .i64 m] w fun r w' => OutF2 w (fMul a b m) r w' := by
  unfold fMul
  cases hm : isM m
  · rw [if_pos rfl]
    refine (pmul_no a b m w hm).mono ?_
    rintro r w' ⟨rfl, hb⟩
    exact ⟨_, rfl, lk.nan (by decide) (by decide) (by decide), hb⟩
  · rw [if_neg (by decide)]
    have hm' := isM_iff.1 hm
    by_cases hp : pln a = false ∨ pln b = false
    · rw [if_pos hp]
      have hr : Rn .mul a b (mulX a b) := rn_of (by simp) (mul_non ha hb hp)
      cases h : pln a
      · exact pmul_na a b _ m w hm (pplain_f a ha h) hr mulX_lt
      · exact pmul_nb a b _ m w hm (pplain_t a ha h) (pplain_f b hb (by rcases hp with h' | h'; rw [h] at h'; cases h'; exact h')) hr mulX_lt
    · rw [if_neg hp]
      have pa : pln a = true := by cases h : pln a; exact absurd (.inl h) hp; rfl
      have pb : pln b = true := by cases h : pln b; exact absurd (.inr h) hp; rfl
      have hok : Ok (tM (tF a) (tF b)) := tM_ok (tM_okR a b)
      refine (pmul_r a b _ m (tF a) (tF b) (tM (tF a) (tF b)) w hm (pplain_t a ha pa) (pplain_t b hb pb) (exact_ok a ha (pln_true.1 pa).1 w hT hI) (fun W h => exact_ok b hb (pln_true.1 pb).1 W (hT.later h) (Tab.later hI h)) (fun W X Y h h1 h2 => multiplied_op (mul_op (tF_ok a) (tF_ok b) (tM_okR a b)) (hT.later h) h1 h2) (fun W X h h1 => prounded (hT.later h) hok h1 hm')).mono ?_
      rintro r w' ⟨rfl, hb'⟩
      exact ⟨_, rfl, lk.refl (tfF_lt hm'), hb'⟩
theorem pdiv_all (a b : Nat) (m : Int) (ha : a < 18446744073709551616) (hb : b < 18446744073709551616) (w : World) (hT : Tab32 w) (hI : Ie.Tab w) :
    Calls Tryz.prog 85 #[.float .f64 a, .float .f64 b, .int .i64 m] w fun r w' => OutF2 w (fDiv a b m) r w' := by
  unfold fDiv
  cases hm : isM m
  · rw [if_pos rfl]
    refine (pdiv_no a b m w hm).mono ?_
    rintro r w' ⟨rfl, hb⟩
    exact ⟨_, rfl, lk.nan (by decide) (by decide) (by decide), hb⟩
  · rw [if_neg (by decide)]
    have hm' := isM_iff.1 hm
    by_cases hp : pln a = false ∨ pln b = false
    · rw [if_pos hp]
      have hr : Rn .quo a b (divX a b) := rn_of (by simp) (div_non ha hb hp)
      cases h : pln a
      · exact pdiv_na a b _ m w hm (pplain_f a ha h) hr divX_lt
      · exact pdiv_nb a b _ m w hm (pplain_t a ha h) (pplain_f b hb (by rcases hp with h' | h'; rw [h] at h'; cases h'; exact h')) hr divX_lt
    · rw [if_neg hp]
      have pa : pln a = true := by cases h : pln a; exact absurd (.inl h) hp; rfl
      have pb : pln b = true := by cases h : pln b; exact absurd (.inr h) hp; rfl
      refine (pdiv_ok a b m w hm hT hI ha hb (pln_true.1 pa).1 (pln_true.1 pb).1 (pln_true.1 pa).2 (pln_true.1 pb).2 (tF_ne (pln_true.1 pa).2) (tF_ne (pln_true.1 pb).2)).mono ?_
      rintro r w' ⟨rfl, hb'⟩
      exact ⟨_, rfl, lk.refl (rtF_lt hm'), hb'⟩
end Go.Proofs.YtgmpcpeminjpbaaGreatDoor
namespace Go.Proofs.YtgmpcpeminjpbaaGreatDoor
set_option linter.unusedVariables false
set_option linter.unusedSimpArgs false
open Go.RowKit Go.Fl64
open Ie
end Go.Proofs.YtgmpcpeminjpbaaGreatDoor
namespace Go.Proofs.YtgmpcpeminjpbaaGreatDoor
set_option linter.unusedVariables false
set_option linter.unusedSimpArgs false
open Go.RowKit Go.Fl64
end Go.Proofs.YtgmpcpeminjpbaaGreatDoor
namespace Go.Proofs.YtgmpcpeminjpbaaGreatDoor
set_option linter.unusedVariables false
set_option linter.unusedSimpArgs false
open Go.RowKit
end Go.Proofs.YtgmpcpeminjpbaaGreatDoor
namespace Go.Proofs.YtgmpcpeminjpbaaGreatDoor
set_option linter.unusedVariables false
set_option linter.unusedSimpArgs false
open Go.RowKit Go.Fl64
theorem dn_store {w : World} {A : Value} {t : Bool × Nat × Int} {g : Nat} (h : DN w A t) (hg : w.heap[g]? = some (.cells #[.bool false, .slice none 0 0, .int .i64 0] 27 (0, 0))) (a b c : Value) : DN (((w.setCell ⟨g, 0, none⟩ a).setCell ⟨g, 1, none⟩ b).setCell ⟨g, 2, none⟩ c) A t := by
  obtain ⟨ao, cap, h1, h2⟩ := h
  exact ⟨ao, cap, h1, h2.nil, at_box h2.at_ rfl hg (by simp) (by simp) (by simp) a b c, h2.le, h2.small⟩
def BxD (w3 wc : World) (g : Nat) (s : Bool) (ao : Option Addr) (n cap : Nat) (ex : Int) (t : Bool × Nat × Int) : Prop := wc.heap[g]? = some (.cells #[.bool s, .slice ao n cap, .int .i64 ex] 27 (0, 0)) ∧ w3.heap.size ≤ g ∧ Below w3.heap.size w3 wc ∧ DN wc (.agg #[.bool s, .slice ao n cap, .int .i64 ex]) t
theorem BxD.new {w3 w7 : World} {s : Bool} {ao : Option Addr} {n cap : Nat} {ex : Int} {t : Bool × Nat × Int} (hn : DN w7 (.agg #[.bool s, .slice ao n cap, .int .i64 ex]) t) (hb : Below w3.heap.size w3 w7) : BxD w3 (w7.alloc (.cells #[.bool s, .slice ao n cap, .int .i64 ex] 27)) w7.heap.size s ao n cap ex t :=
  ⟨heap_alloc_new _ _, hb.size, hb.alloc hb.size _, hn.later ((Below.refl _ _).alloc (Nat.le_refl _) _)⟩
theorem BxD.put {w3 w7 : World} {g : Nat} {s : Bool} {ao : Option Addr} {n cap : Nat} {ex : Int} {t : Bool × Nat × Int} (hn : DN w7 (.agg #[.bool s, .slice ao n cap, .int .i64 ex]) t) (hb : Below w3.heap.size w3 w7) (hg : w3.heap.size ≤ g) (hbx : w7.heap[g]? = some (.cells #[.bool false, .slice none 0 0, .int .i64 0] 27 (0, 0))) :
    BxD w3 (((w7.setCell ⟨g, 0, none⟩ (.bool s)).setCell ⟨g, 1, none⟩ (.slice ao n cap)).setCell ⟨g, 2, none⟩ (.int .i64 ex)) g s ao n cap ex t :=
  ⟨store3_29 _ _ _ hbx, hg, below_store3 hb hg _ _ _, dn_store hn hbx _ _ _⟩
def BxP (w3 wc : World) (g : Nat) (s : Bool) (ao : Option Addr) (n cap : Nat) (ex : Int) (t : Bool × Nat × Int) : Prop := wc.heap[g]? = some (.cells #[.bool s, .slice ao n cap, .int .i64 ex] 28 (0, 0)) ∧ w3.heap.size ≤ g ∧ Below w3.heap.size w3 wc ∧ PN wc (.agg #[.bool s, .slice ao n cap, .int .i64 ex]) t
theorem BxP.new {w3 w7 : World} {s : Bool} {ao : Option Addr} {n cap : Nat} {ex : Int} {t : Bool × Nat × Int} (hn : PN w7 (.agg #[.bool s, .slice ao n cap, .int .i64 ex]) t) (hb : Below w3.heap.size w3 w7) : BxP w3 (w7.alloc (.cells #[.bool s, .slice ao n cap, .int .i64 ex] 28)) w7.heap.size s ao n cap ex t :=
  ⟨heap_alloc_new _ _, hb.size, hb.alloc hb.size _, hn.later ((Below.refl _ _).alloc (Nat.le_refl _) _)⟩
theorem BxP.put {w3 w7 : World} {g : Nat} {s : Bool} {ao : Option Addr} {n cap : Nat} {ex : Int} {t : Bool × Nat × Int} (hn : PN w7 (.agg #[.bool s, .slice ao n cap, .int .i64 ex]) t) (hb : Below w3.heap.size w3 w7) (hg : w3.heap.size ≤ g) (hbx : w7.heap[g]? = some (.cells #[.bool false, .slice none 0 0, .int .i64 0] 28 (0, 0))) :
    BxP w3 (((w7.setCell ⟨g, 0, none⟩ (.bool s)).setCell ⟨g, 1, none⟩ (.slice ao n cap)).setCell ⟨g, 2, none⟩ (.int .i64 ex)) g s ao n cap ex t :=
  ⟨store3 _ _ _ hbx, hg, below_store3 hb hg _ _ _, pn_store hn hbx _ _ _⟩
end Go.Proofs.YtgmpcpeminjpbaaGreatDoor
namespace Go.Proofs.YtgmpcpeminjpbaaGreatDoor
set_option linter.unusedVariables false
set_option linter.unusedSimpArgs false
open Go.RowKit
def OB (w wr : World) (v : Value) (L : List UInt8) : Prop := wr.ownsRow w.heap.size 5 1 v L.length (Lib.byteCells L) ∧ Below w.heap.size w wr
theorem OB.shape {w wr : World} {v : Value} {L : List UInt8} (h : OB w wr v L) : ∃ ao cap, v = .slice ao L.length cap := by
  obtain ⟨⟨-, h | ⟨g, cap, cur, h, -⟩⟩, -⟩ := h
  · exact ⟨none, 0, by rw [h.1, h.2]⟩
  · exact ⟨_, _, h⟩
theorem PI.open {na : Bool} {un x : Nat} {ea : Int} {W : World} {X : Value} (hX : PI na un x ea W X) : ∃ pa pc, X = .agg #[.bool na, .slice pa un pc, .int .i64 ea] ∧ At W pa un x := by
  obtain ⟨v, b, rfl, d1⟩ := hX
  obtain ⟨pa, pc, rfl, p1, p2⟩ := d1.at
  exact ⟨pa, pc, rfl, p2⟩
theorem PI.is {na : Bool} {x : Nat} {ea : Int} {W : World} {X : Value} (hX : PI na (dlen x) x ea W X) : ∃ pa pc, X = .agg #[.bool na, .slice pa (dlen x) pc, .int .i64 ea] ∧ Is W (.slice pa (dlen x) pc) x := by
  obtain ⟨v, b, rfl, d1⟩ := hX
  obtain ⟨pa, pc, e1, i1⟩ := dn_pn (s := na) (e := ea) d1
  exact ⟨pa, pc, e1, i1⟩
end Go.Proofs.YtgmpcpeminjpbaaGreatDoor
namespace Go.Proofs.YtgmpcpeminjpbaaGreatDoor
set_option linter.unusedVariables false
set_option linter.unusedSimpArgs false
open Go.RowKit Go.Fl64
theorem Rounds.step {A u b0 b2 : Nat} (h0 : Rounds A u b0 0) (h2 : Rounds A u b2 2) : b0 ≤ b2 ∧ b2 ≤ b0 + 1 := by
  obtain ⟨c0, ⟨p1, p2⟩, q0, -, -⟩ := h0.fl
  obtain ⟨c2, ⟨r1, r2⟩, -, s2, -⟩ := h2.fl
  have e0 := q0 rfl
  have e2 := s2 rfl
  have h1 := floor_mono (Nat.le_refl A) p1 r2
  have h3 := floor_mono (Nat.le_refl A) r1 p2
  have : c0 = c2 := by omega
  subst this
  rw [e0, e2]
  split <;> omega
end Go.Proofs.YtgmpcpeminjpbaaGreatDoor
/- Floats in order: not above, the lesser and the greater of two; intervals that may be. -/
namespace Go.Fl64
set_option linter.unusedVariables false
set_option linter.unusedSimpArgs false
def le (a b : Nat) : Bool := !isNaN a && !isNaN b && decide (stp a ≤ stp b)
theorem ord_le (a b : Nat) (ha : a < 18446744073709551616) (hb : b < 18446744073709551616) : (FloatKind.f64.format.order a b == some Ordering.lt || FloatKind.f64.format.order a b == some Ordering.eq) = le a b := by
  rw [ord_lt a b ha hb, ord_eq a b ha hb]
  unfold lt eq le
  cases isNaN a <;> cases isNaN b <;> simp
  rw [← Bool.decide_or]
  exact decide_eq_decide.2 (by omega)
theorem ord_ge (a b : Nat) (ha : a < 18446744073709551616) (hb : b < 18446744073709551616) : (FloatKind.f64.format.order a b == some Ordering.gt || FloatKind.f64.format.order a b == some Ordering.eq) = le b a := by
  rw [ord_gt a b ha hb, ord_eq a b ha hb]
  unfold lt eq le
  cases isNaN a <;> cases isNaN b <;> simp
  rw [← Bool.decide_or]
  exact decide_eq_decide.2 (by omega)
theorem ord_ne (a b : Nat) (ha : a < 18446744073709551616) (hb : b < 18446744073709551616) : (FloatKind.f64.format.order a b != some Ordering.eq) = !eq a b := by
  rw [← ord_eq a b ha hb]; rfl
def fMin (x y : Nat) : Nat := if stp x < stp y then x else if stp y < stp x then y else if neg x then x else y
def fMax (x y : Nat) : Nat := if stp x < stp y then y else if stp y < stp x then x else if neg x then y else x
theorem dec_neg (a : Nat) (h : a < 18446744073709551616) (n : isNaN a = false) : (FloatKind.f64.decode a).neg = neg a := by
  unfold FloatKind.decode
  rw [f64]
  have n' : ¬ 9218868437227405312 < mag a := of_decide_eq_false n
  by_cases f : mag a < 9218868437227405312
  · obtain ⟨m, k, e, _⟩ := read_number a h f
    rw [e]; rfl
  · rw [read_infinity a h (by omega)]; rfl
theorem run_fmin {P : Program} (w : World) (ts : Array TypeId) (t : TypeId) (x y : Nat) (hx : x < 18446744073709551616) (hy : y < 18446744073709551616) (nx : isNaN x = false) (ny : isNaN y = false) :
    (Builtin.min_ ts t #[.float .f64 x, .float .f64 y]).run P w = .ok (.float .f64 (fMin x y)) w := by
  have ho := order_num x y hx hy nx ny
  have hd := dec_neg x hx nx
  rw [← f64] at ho
  unfold fMin
  rcases Int.lt_trichotomy (stp x) (stp y) with h | h | h
  · rw [cmp_lt h] at ho
    rw [if_pos h]
    simp [Builtin.min_, Builtin.min2, ho]
  · rw [cmp_eq h] at ho
    rw [if_neg (by omega), if_neg (by omega)]
    simp [Builtin.min_, Builtin.min2, ho, hd]
  · rw [cmp_gt h] at ho
    rw [if_neg (by omega), if_pos h]
    simp [Builtin.min_, Builtin.min2, ho]
theorem run_fmax {P : Program} (w : World) (ts : Array TypeId) (t : TypeId) (x y : Nat) (hx : x < 18446744073709551616) (hy : y < 18446744073709551616) (nx : isNaN x = false) (ny : isNaN y = false) :
    (Builtin.max_ ts t #[.float .f64 x, .float .f64 y]).run P w = .ok (.float .f64 (fMax x y)) w := by
  have ho := order_num x y hx hy nx ny
  have hd := dec_neg x hx nx
  rw [← f64] at ho
  unfold fMax
  rcases Int.lt_trichotomy (stp x) (stp y) with h | h | h
  · rw [cmp_lt h] at ho
    rw [if_pos h]
    simp [Builtin.max_, Builtin.max2, ho]
  · rw [cmp_eq h] at ho
    rw [if_neg (by omega), if_neg (by omega)]
    simp [Builtin.max_, Builtin.max2, ho, hd]
  · rw [cmp_gt h] at ho
    rw [if_neg (by omega), if_pos h]
    simp [Builtin.max_, Builtin.max2, ho]
theorem fMin_or (x y : Nat) : fMin x y = x ∨ fMin x y = y := by
  unfold fMin
  split
  · exact .inl rfl
  · split
    · exact .inr rfl
    · split
      · exact .inl rfl
      · exact .inr rfl
theorem fMax_or (x y : Nat) : fMax x y = x ∨ fMax x y = y := by
  unfold fMax
  split
  · exact .inr rfl
  · split
    · exact .inl rfl
    · split
      · exact .inr rfl
      · exact .inl rfl
theorem fMin_lt {x y : Nat} (hx : x < 18446744073709551616) (hy : y < 18446744073709551616) : fMin x y < 18446744073709551616 := by
  rcases fMin_or x y with h | h <;> rw [h] <;> assumption
theorem fMax_lt {x y : Nat} (hx : x < 18446744073709551616) (hy : y < 18446744073709551616) : fMax x y < 18446744073709551616 := by
  rcases fMax_or x y with h | h <;> rw [h] <;> assumption
theorem fMin_nn {x y : Nat} (hx : isNaN x = false) (hy : isNaN y = false) : isNaN (fMin x y) = false := by
  rcases fMin_or x y with h | h <;> rw [h] <;> assumption
theorem fMax_nn {x y : Nat} (hx : isNaN x = false) (hy : isNaN y = false) : isNaN (fMax x y) = false := by
  rcases fMax_or x y with h | h <;> rw [h] <;> assumption
def pl (a : Nat) : Nat := if a = 9223372036854775808 then 0 else a
theorem stp_zero {a : Nat} (ha : a < 18446744073709551616) : stp a = 0 ↔ (a = 0 ∨ a = 9223372036854775808) := by
  unfold stp sgn neg mag
  constructor
  · intro h
    split at h <;> rename_i h1 <;> simp only [decide_eq_true_eq] at h1 <;> omega
  · rintro (rfl | rfl) <;> decide
def vI (lo hi : Nat) : Bool := le lo hi && lt lo 9218868437227405312 && lt 18442240474082181120 hi && decide (lo ≠ 9223372036854775808) && decide (hi ≠ 9223372036854775808)
theorem stp_inj {a b : Nat} (ha : a < 18446744073709551616) (hb : b < 18446744073709551616) (h : stp a = stp b) (h1 : a ≠ 9223372036854775808) (h2 : b ≠ 9223372036854775808) : a = b := by
  unfold stp sgn neg mag at h
  split at h <;> split at h <;> rename_i h3 h4 <;> simp only [decide_eq_true_eq] at h3 h4 <;> omega
end Go.Fl64
namespace Go.Proofs.YtgmpcpeminjpbaaGreatDoor
set_option linter.unusedVariables false
set_option linter.unusedSimpArgs false
open Go.RowKit Go.Fl64
theorem eq_zero (a : Nat) (ha : a < 18446744073709551616) : eq a 0 = (decide (a = 0) || decide (a = 9223372036854775808)) := by
  rw [← Bool.decide_or]
  unfold eq
  rw [show isNaN 0 = false from rfl]
  have h := stp_zero ha
  rw [show stp 0 = 0 from rfl]
  by_cases h0 : stp a = 0
  · have h1 := h.1 h0
    rw [decide_eq_true h0, decide_eq_true h1]
    rcases h1 with rfl | rfl <;> rfl
  · rw [decide_eq_false h0, decide_eq_false fun h2 => h0 (h.2 h2), Bool.and_false]
theorem pmn (a : Nat) (ha : a < 18446744073709551616) (w : World) :
    Calls Tryz.prog 55 #[.float .f64 a] w fun r w' => r = .returned (.bool (decide (a = 9223372036854775808))) ∧ w' = w := by
  have k := Ie.c33 a ha
  have e := ord_eq a 0 ha (by omega)
  rw [eq_zero a ha] at e
  by_cases h : a = 0 ∨ a = 9223372036854775808
  · have e1 : (FloatKind.f64.format.order a 0 == some Ordering.eq) = true := by
      rw [e, ← Bool.decide_or]; exact decide_eq_true h
    have e2 : decide (a = 9223372036854775808) = neg a := by
      rcases h with rfl | rfl <;> rfl
    rw [e2]
    clear e e2 h
    go_enter Tryz.func55, Tryz.ntmps55
    go_wp2_with (first | (go_at_call 88; refine (k _).mono ?_; rintro r w' ⟨rfl, rfl⟩))
    go_ret
    exact ⟨rfl, rfl⟩
  · have e1 : (FloatKind.f64.format.order a 0 == some Ordering.eq) = false := by
      rw [e, ← Bool.decide_or]; exact decide_eq_false h
    rw [decide_eq_false fun h1 => h (.inr h1)]
    clear e h
    go_enter Tryz.func55, Tryz.ntmps55
    go_wp2
    go_ret
    exact ⟨rfl, rfl⟩
theorem ppl (a : Nat) (ha : a < 18446744073709551616) (w : World) :
    Calls Tryz.prog 73 #[.float .f64 a] w fun r w' => r = .returned (.float .f64 (pl a)) ∧ w' = w := by
  have e := ord_eq a 0 ha (by omega)
  rw [eq_zero a ha] at e
  by_cases h : a = 0 ∨ a = 9223372036854775808
  · have e1 : (FloatKind.f64.format.order a 0 == some Ordering.eq) = true := by
      rw [e, ← Bool.decide_or]; exact decide_eq_true h
    have e2 : pl a = 0 := by
      rcases h with rfl | rfl <;> rfl
    rw [e2]
    clear e e2 h
    go_enter Tryz.func73, Tryz.ntmps73
    go_wp2
    go_ret
    exact ⟨rfl, rfl⟩
  · have e1 : (FloatKind.f64.format.order a 0 == some Ordering.eq) = false := by
      rw [e, ← Bool.decide_or]; exact decide_eq_false h
    have e2 : pl a = a := if_neg fun h1 => h (.inr h1)
    rw [e2]
    clear e e2 h
    go_enter Tryz.func73, Tryz.ntmps73
    go_wp2
    go_ret
    exact ⟨rfl, rfl⟩
theorem box_cells2 {w : World} {g : Nat} {a b : Value} {T : TypeId} (h : w.heap[g]? = some (.cells #[a, b] T (0, 0))) : w.cell? ⟨g, 0, none⟩ = some a ∧ w.cell? ⟨g, 1, none⟩ = some b := by
  simp [World.cell?, h]
theorem bdrewN {B : Nat} {a w : World} (h : Below B a w) (n : Nat) : Below B a (w.drewN n) := h.trans ⟨rfl, rfl, rfl, Nat.le_refl _, fun _ _ => rfl⟩
theorem cinf_p (w : World) : Calls Tryz.prog 36 #[.int .i64 1] w fun r w' => r = .returned (.float .f64 9218868437227405312) ∧ w' = w := by
  have hb := Ie.run_frombits
  go_enter Tryz.func36, Tryz.ntmps36
  go_wp2
  go_ret
  exact ⟨rfl, rfl⟩
theorem isinf_p (a : Nat) (ha : a < 18446744073709551616) (w : World) :
    Calls Tryz.prog 54 #[.float .f64 a, .int .i64 1] w fun e w' => e = .returned (.bool (lt 9218868437227405311 a)) ∧ w' = w := by
  have h := ord_gt a 9218868437227405311 ha (by omega)
  have H : Hid ((FloatKind.f64.format.order a 9218868437227405311 == some Ordering.gt) = lt 9218868437227405311 a) := h
  clear h
  go_enter Tryz.func54, Tryz.ntmps54
  go_wp2
  go_ret
  exact ⟨congrArg Ending.returned (congrArg Value.bool H.out), rfl⟩
theorem run_negf8 (a : Nat) (w : World) : (Op.unary .neg (.float .f64 a)).run Tryz.prog w = .ok (.float .f64 (Op.negFloat .f64 a)) w := rfl
theorem isinf_m (a : Nat) (ha : a < 18446744073709551616) (w : World) :
    Calls Tryz.prog 54 #[.float .f64 a, .int .i64 (-1)] w fun e w' => e = .returned (.bool (lt 9218868437227405311 (ngt a))) ∧ w' = w := by
  have kn := run_negf8
  have h := ord_gt (ngt a) 9218868437227405311 (ngt_lt ha) (by omega)
  have hn := negF a ha
  generalize ngt a = b at *
  have H : Hid ((FloatKind.f64.format.order b 9218868437227405311 == some Ordering.gt) = lt 9218868437227405311 b) := h
  clear h
  go_enter Tryz.func54, Tryz.ntmps54
  go_wp2
  go_ret
  refine ⟨?_, rfl⟩
  rw [hn] at *
  exact congrArg Ending.returned (congrArg Value.bool H.out)
theorem ngt_stp {a : Nat} (ha : a < 18446744073709551616) : stp (ngt a) = - stp a := by
  unfold stp
  rw [ngt_mag ha, ngt_neg ha]
  cases neg a <;> simp [sgn]
theorem ngt_nan8 {a : Nat} (ha : a < 18446744073709551616) : isNaN (ngt a) = isNaN a := by
  unfold isNaN; rw [ngt_mag ha]
theorem nan_stp {a : Nat} (h : isNaN a = false) : -9218868437227405312 ≤ stp a ∧ stp a ≤ 9218868437227405312 := by
  have h' : ¬ 9218868437227405312 < mag a := of_decide_eq_false h
  unfold stp sgn
  split <;> omega
theorem vI_p (lo hi : Nat) (h1 : lo < 18446744073709551616) (h2 : hi < 18446744073709551616) :
    vI lo hi = (le lo hi && !(lt 9218868437227405311 lo || lt 9218868437227405311 (ngt hi)) && (!decide (lo = 9223372036854775808) && !decide (hi = 9223372036854775808))) := by
  unfold vI
  cases hl : le lo hi
  · rfl
  · unfold le at hl
    simp only [Bool.and_eq_true, Bool.not_eq_true', decide_eq_true_eq] at hl
    obtain ⟨⟨n1, n2⟩, h3⟩ := hl
    have b1 := nan_stp n1
    have b2 := nan_stp n2
    have e1 : lt lo 9218868437227405312 = !lt 9218868437227405311 lo := by
      unfold lt
      rw [n1, show isNaN 9218868437227405312 = false by decide, show isNaN 9218868437227405311 = false by decide, show stp 9218868437227405312 = 9218868437227405312 by decide, show stp 9218868437227405311 = 9218868437227405311 by decide]
      rw [Bool.not_false, Bool.true_and, Bool.true_and, Bool.true_and, ← decide_not]
      exact decide_eq_decide.2 (by omega)
    have e2 : lt 18442240474082181120 hi = !lt 9218868437227405311 (ngt hi) := by
      unfold lt
      rw [ngt_nan8 h2, n2, ngt_stp h2, show isNaN 18442240474082181120 = false by decide, show isNaN 9218868437227405311 = false by decide, show stp 18442240474082181120 = -9218868437227405312 by decide, show stp 9218868437227405311 = 9218868437227405311 by decide]
      rw [Bool.not_false, Bool.true_and, Bool.true_and, Bool.true_and, ← decide_not]
      exact decide_eq_decide.2 (by omega)
    rw [e1, e2]
    simp [Bool.and_assoc]
theorem pvalid_1 (lo hi : Nat) (w : World)
    (h : (FloatKind.f64.format.order lo hi == some Ordering.lt || FloatKind.f64.format.order lo hi == some Ordering.eq) = false) :
    Calls Tryz.prog 21 #[.agg #[.float .f64 lo, .float .f64 hi]] w fun r w' => r = .returned (.bool false) ∧ Below w.heap.size w w' := by
  go_enter Tryz.func21, Tryz.ntmps21
  go_wp2_with (first | fail)
  go_ret
  exact ⟨rfl, (Below.refl _ _).alloc (Nat.le_refl _) _⟩
theorem pvalid_2 (lo hi : Nat) (w : World) (p q s : Bool)
    (h : (FloatKind.f64.format.order lo hi == some Ordering.lt || FloatKind.f64.format.order lo hi == some Ordering.eq) = true)
    (k1 : ∀ W, Calls Tryz.prog 54 #[.float .f64 lo, .int .i64 1] W fun e w' => e = .returned (.bool true) ∧ w' = W)
    (k2 : ∀ W, Calls Tryz.prog 54 #[.float .f64 hi, .int .i64 (-1)] W fun e w' => e = .returned (.bool p) ∧ w' = W)
    (k3 : ∀ W, Calls Tryz.prog 55 #[.float .f64 lo] W fun e w' => e = .returned (.bool q) ∧ w' = W)
    (k4 : ∀ W, Calls Tryz.prog 55 #[.float .f64 hi] W fun e w' => e = .returned (.bool s) ∧ w' = W) :
    Calls Tryz.prog 21 #[.agg #[.float .f64 lo, .float .f64 hi]] w fun r w' => r = .returned (.bool false) ∧ Below w.heap.size w w' := by
  go_enter Tryz.func21, Tryz.ntmps21
  go_wp2_with (first | (go_at_call 54; first | (with_reducible refine (k1 _).mono ?_; rintro r w' ⟨rfl, rfl⟩) | (with_reducible refine (k2 _).mono ?_; rintro r w' ⟨rfl, rfl⟩)) | (go_at_call 55; first | (with_reducible refine (k3 _).mono ?_; rintro r w' ⟨rfl, rfl⟩) | (with_reducible refine (k4 _).mono ?_; rintro r w' ⟨rfl, rfl⟩)))
  go_ret
  exact ⟨rfl, (Below.refl _ _).alloc (Nat.le_refl _) _⟩
theorem pvalid_3 (lo hi : Nat) (w : World) (q s : Bool)
    (h : (FloatKind.f64.format.order lo hi == some Ordering.lt || FloatKind.f64.format.order lo hi == some Ordering.eq) = true)
    (k1 : ∀ W, Calls Tryz.prog 54 #[.float .f64 lo, .int .i64 1] W fun e w' => e = .returned (.bool false) ∧ w' = W)
    (k2 : ∀ W, Calls Tryz.prog 54 #[.float .f64 hi, .int .i64 (-1)] W fun e w' => e = .returned (.bool true) ∧ w' = W)
    (k3 : ∀ W, Calls Tryz.prog 55 #[.float .f64 lo] W fun e w' => e = .returned (.bool q) ∧ w' = W)
    (k4 : ∀ W, Calls Tryz.prog 55 #[.float .f64 hi] W fun e w' => e = .returned (.bool s) ∧ w' = W) :
    Calls Tryz.prog 21 #[.agg #[.float .f64 lo, .float .f64 hi]] w fun r w' => r = .returned (.bool false) ∧ Below w.heap.size w w' := by
  go_enter Tryz.func21, Tryz.ntmps21
  go_wp2_with (first | (go_at_call 54; first | (with_reducible refine (k1 _).mono ?_; rintro r w' ⟨rfl, rfl⟩) | (with_reducible refine (k2 _).mono ?_; rintro r w' ⟨rfl, rfl⟩)) | (go_at_call 55; first | (with_reducible refine (k3 _).mono ?_; rintro r w' ⟨rfl, rfl⟩) | (with_reducible refine (k4 _).mono ?_; rintro r w' ⟨rfl, rfl⟩)))
  go_ret
  exact ⟨rfl, (Below.refl _ _).alloc (Nat.le_refl _) _⟩
theorem pvalid_4 (lo hi : Nat) (w : World) (s : Bool)
    (h : (FloatKind.f64.format.order lo hi == some Ordering.lt || FloatKind.f64.format.order lo hi == some Ordering.eq) = true)
    (k1 : ∀ W, Calls Tryz.prog 54 #[.float .f64 lo, .int .i64 1] W fun e w' => e = .returned (.bool false) ∧ w' = W)
    (k2 : ∀ W, Calls Tryz.prog 54 #[.float .f64 hi, .int .i64 (-1)] W fun e w' => e = .returned (.bool false) ∧ w' = W)
    (k3 : ∀ W, Calls Tryz.prog 55 #[.float .f64 lo] W fun e w' => e = .returned (.bool true) ∧ w' = W)
    (k4 : ∀ W, Calls Tryz.prog 55 #[.float .f64 hi] W fun e w' => e = .returned (.bool s) ∧ w' = W) :
    Calls Tryz.prog 21 #[.agg #[.float .f64 lo, .float .f64 hi]] w fun r w' => r = .returned (.bool false) ∧ Below w.heap.size w w' := by
  go_enter Tryz.func21, Tryz.ntmps21
  go_wp2_with (first | (go_at_call 54; first | (with_reducible refine (k1 _).mono ?_; rintro r w' ⟨rfl, rfl⟩) | (with_reducible refine (k2 _).mono ?_; rintro r w' ⟨rfl, rfl⟩)) | (go_at_call 55; first | (with_reducible refine (k3 _).mono ?_; rintro r w' ⟨rfl, rfl⟩) | (with_reducible refine (k4 _).mono ?_; rintro r w' ⟨rfl, rfl⟩)))
  go_ret
  exact ⟨rfl, (Below.refl _ _).alloc (Nat.le_refl _) _⟩
theorem pvalid_5 (lo hi : Nat) (w : World) (s : Bool)
    (h : (FloatKind.f64.format.order lo hi == some Ordering.lt || FloatKind.f64.format.order lo hi == some Ordering.eq) = true)
    (k1 : ∀ W, Calls Tryz.prog 54 #[.float .f64 lo, .int .i64 1] W fun e w' => e = .returned (.bool false) ∧ w' = W)
    (k2 : ∀ W, Calls Tryz.prog 54 #[.float .f64 hi, .int .i64 (-1)] W fun e w' => e = .returned (.bool false) ∧ w' = W)
    (k3 : ∀ W, Calls Tryz.prog 55 #[.float .f64 lo] W fun e w' => e = .returned (.bool false) ∧ w' = W)
    (k4 : ∀ W, Calls Tryz.prog 55 #[.float .f64 hi] W fun e w' => e = .returned (.bool s) ∧ w' = W) :
    Calls Tryz.prog 21 #[.agg #[.float .f64 lo, .float .f64 hi]] w fun r w' => r = .returned (.bool (!s)) ∧ Below w.heap.size w w' := by
  go_enter Tryz.func21, Tryz.ntmps21
  go_wp2_with (first | (go_at_call 54; first | (with_reducible refine (k1 _).mono ?_; rintro r w' ⟨rfl, rfl⟩) | (with_reducible refine (k2 _).mono ?_; rintro r w' ⟨rfl, rfl⟩)) | (go_at_call 55; first | (with_reducible refine (k3 _).mono ?_; rintro r w' ⟨rfl, rfl⟩) | (with_reducible refine (k4 _).mono ?_; rintro r w' ⟨rfl, rfl⟩)))
  go_ret
  exact ⟨rfl, (Below.refl _ _).alloc (Nat.le_refl _) _⟩
theorem svalid (lo hi : Nat) (h1 : lo < 18446744073709551616) (h2 : hi < 18446744073709551616) (w : World) :
    Calls Tryz.prog 21 #[.agg #[.float .f64 lo, .float .f64 hi]] w fun r w' => r = .returned (.bool (vI lo hi)) ∧ Below w.heap.size w w' := by
  have ho := ord_le lo hi h1 h2
  rw [vI_p lo hi h1 h2]
  have k1 := isinf_p lo h1
  have k2 := isinf_m hi h2
  have k3 := pmn lo h1
  have k4 := pmn hi h2
  cases hl : le lo hi
  · rw [hl] at ho
    exact pvalid_1 lo hi w ho
  · rw [hl] at ho
    cases hp : lt 9218868437227405311 lo
    · rw [hp] at k1
      cases hq : lt 9218868437227405311 (ngt hi)
      · rw [hq] at k2
        cases hs : decide (lo = 9223372036854775808)
        · rw [hs] at k3
          exact pvalid_5 lo hi w _ ho k1 k2 k3 k4
        · rw [hs] at k3
          exact pvalid_4 lo hi w _ ho k1 k2 k3 k4
      · rw [hq] at k2
        exact pvalid_3 lo hi w _ _ ho k1 k2 k3 k4
    · rw [hp] at k1
      exact pvalid_2 lo hi w _ _ _ ho k1 k2 k3 k4
theorem dclean (a : Nat) (ha : a < 18446744073709551616) (w : World) :
    Calls Tryz.prog 41 #[.float .f64 a] w fun r w' => r = .returned (.bool (!decide (a = 9223372036854775808))) ∧ w' = w := by
  have k := Ie.c33 a ha
  have e := ord_ne a 0 ha (by omega)
  rw [eq_zero a ha] at e
  by_cases h : a = 0 ∨ a = 9223372036854775808
  · have e1 : (FloatKind.f64.format.order a 0 != some Ordering.eq) = false := by
      rw [e, ← Bool.decide_or, decide_eq_true h]; rfl
    have e2 : decide (a = 9223372036854775808) = neg a := by
      rcases h with rfl | rfl <;> rfl
    rw [e2]
    clear e e2 h
    go_enter Tryz.func41, Tryz.ntmps41
    go_wp2_with (first | (go_at_call 88; refine (k _).mono ?_; rintro r w' ⟨rfl, rfl⟩))
    go_ret
    exact ⟨rfl, rfl⟩
  · have e1 : (FloatKind.f64.format.order a 0 != some Ordering.eq) = true := by
      rw [e, ← Bool.decide_or, decide_eq_false h]; rfl
    rw [decide_eq_false fun h1 => h (.inr h1)]
    clear e h
    go_enter Tryz.func41, Tryz.ntmps41
    go_wp2
    go_ret
    exact ⟨rfl, rfl⟩
theorem dvalid_1 (lo hi : Nat) (w : World) (p q r s : Bool)
    (o1 : (FloatKind.f64.format.order lo hi == some Ordering.lt || FloatKind.f64.format.order lo hi == some Ordering.eq) = false)
    (o2 : (FloatKind.f64.format.order lo 9218868437227405312 == some Ordering.lt) = p)
    (o3 : (FloatKind.f64.format.order hi 18442240474082181120 == some Ordering.gt) = q)
    (k3 : ∀ W, Calls Tryz.prog 41 #[.float .f64 lo] W fun e w' => e = .returned (.bool r) ∧ w' = W)
    (k4 : ∀ W, Calls Tryz.prog 41 #[.float .f64 hi] W fun e w' => e = .returned (.bool s) ∧ w' = W) :
    Calls Tryz.prog 13 #[.agg #[.float .f64 lo, .float .f64 hi]] w fun r w' => r = .returned (.bool false) ∧ Below w.heap.size w w' := by
  obtain ⟨W, hW⟩ : ∃ W, W = w.alloc (.cells #[.float .f64 lo, .float .f64 hi] 24) := ⟨_, rfl⟩
  have HX : Hid (Below w.heap.size w W) := by rw [hW]; exact (Below.refl _ _).alloc (Nat.le_refl _) _
  have hcl : W.cell? ⟨w.heap.size, 0, none⟩ = some (.float .f64 lo) ∧ W.cell? ⟨w.heap.size, 1, none⟩ = some (.float .f64 hi) := by rw [hW]; exact box_cells2 (heap_alloc_new _ _)
  obtain ⟨c0, c1⟩ := hcl
  go_enter Tryz.func13, Tryz.ntmps13
  go_upto_region 1 with fail
  rw [← hW]
  clear hW
  go_quiet (first | (go_at_call 36; first | (with_reducible refine Calls.quiet_of_same (cinf_p _)) | (with_reducible refine Calls.quiet_of_same (cinf_m _))) | (go_at_call 41; first | (with_reducible refine Calls.quiet_of_same (k3 _)) | (with_reducible refine Calls.quiet_of_same (k4 _))))
  go_wp2
  go_ret
  exact ⟨rfl, bdrewN HX.out _⟩
theorem dvalid_2 (lo hi : Nat) (w : World) (q r s : Bool)
    (o1 : (FloatKind.f64.format.order lo hi == some Ordering.lt || FloatKind.f64.format.order lo hi == some Ordering.eq) = true)
    (o2 : (FloatKind.f64.format.order lo 9218868437227405312 == some Ordering.lt) = false)
    (o3 : (FloatKind.f64.format.order hi 18442240474082181120 == some Ordering.gt) = q)
    (k3 : ∀ W, Calls Tryz.prog 41 #[.float .f64 lo] W fun e w' => e = .returned (.bool r) ∧ w' = W)
    (k4 : ∀ W, Calls Tryz.prog 41 #[.float .f64 hi] W fun e w' => e = .returned (.bool s) ∧ w' = W) :
    Calls Tryz.prog 13 #[.agg #[.float .f64 lo, .float .f64 hi]] w fun r w' => r = .returned (.bool false) ∧ Below w.heap.size w w' := by
  obtain ⟨W, hW⟩ : ∃ W, W = w.alloc (.cells #[.float .f64 lo, .float .f64 hi] 24) := ⟨_, rfl⟩
  have HX : Hid (Below w.heap.size w W) := by rw [hW]; exact (Below.refl _ _).alloc (Nat.le_refl _) _
  have hcl : W.cell? ⟨w.heap.size, 0, none⟩ = some (.float .f64 lo) ∧ W.cell? ⟨w.heap.size, 1, none⟩ = some (.float .f64 hi) := by rw [hW]; exact box_cells2 (heap_alloc_new _ _)
  obtain ⟨c0, c1⟩ := hcl
  go_enter Tryz.func13, Tryz.ntmps13
  go_upto_region 1 with fail
  rw [← hW]
  clear hW
  go_quiet (first | (go_at_call 36; first | (with_reducible refine Calls.quiet_of_same (cinf_p _)) | (with_reducible refine Calls.quiet_of_same (cinf_m _))) | (go_at_call 41; first | (with_reducible refine Calls.quiet_of_same (k3 _)) | (with_reducible refine Calls.quiet_of_same (k4 _))))
  go_wp2
  go_ret
  exact ⟨rfl, bdrewN HX.out _⟩
theorem dvalid_3 (lo hi : Nat) (w : World) (r s : Bool)
    (o1 : (FloatKind.f64.format.order lo hi == some Ordering.lt || FloatKind.f64.format.order lo hi == some Ordering.eq) = true)
    (o2 : (FloatKind.f64.format.order lo 9218868437227405312 == some Ordering.lt) = true)
    (o3 : (FloatKind.f64.format.order hi 18442240474082181120 == some Ordering.gt) = false)
    (k3 : ∀ W, Calls Tryz.prog 41 #[.float .f64 lo] W fun e w' => e = .returned (.bool r) ∧ w' = W)
    (k4 : ∀ W, Calls Tryz.prog 41 #[.float .f64 hi] W fun e w' => e = .returned (.bool s) ∧ w' = W) :
    Calls Tryz.prog 13 #[.agg #[.float .f64 lo, .float .f64 hi]] w fun r w' => r = .returned (.bool false) ∧ Below w.heap.size w w' := by
  obtain ⟨W, hW⟩ : ∃ W, W = w.alloc (.cells #[.float .f64 lo, .float .f64 hi] 24) := ⟨_, rfl⟩
  have HX : Hid (Below w.heap.size w W) := by rw [hW]; exact (Below.refl _ _).alloc (Nat.le_refl _) _
  have hcl : W.cell? ⟨w.heap.size, 0, none⟩ = some (.float .f64 lo) ∧ W.cell? ⟨w.heap.size, 1, none⟩ = some (.float .f64 hi) := by rw [hW]; exact box_cells2 (heap_alloc_new _ _)
  obtain ⟨c0, c1⟩ := hcl
  go_enter Tryz.func13, Tryz.ntmps13
  go_upto_region 1 with fail
  rw [← hW]
  clear hW
  go_quiet (first | (go_at_call 36; first | (with_reducible refine Calls.quiet_of_same (cinf_p _)) | (with_reducible refine Calls.quiet_of_same (cinf_m _))) | (go_at_call 41; first | (with_reducible refine Calls.quiet_of_same (k3 _)) | (with_reducible refine Calls.quiet_of_same (k4 _))))
  go_wp2
  go_ret
  exact ⟨rfl, bdrewN HX.out _⟩
theorem dvalid_4 (lo hi : Nat) (w : World) (s : Bool)
    (o1 : (FloatKind.f64.format.order lo hi == some Ordering.lt || FloatKind.f64.format.order lo hi == some Ordering.eq) = true)
    (o2 : (FloatKind.f64.format.order lo 9218868437227405312 == some Ordering.lt) = true)
    (o3 : (FloatKind.f64.format.order hi 18442240474082181120 == some Ordering.gt) = true)
    (k3 : ∀ W, Calls Tryz.prog 41 #[.float .f64 lo] W fun e w' => e = .returned (.bool false) ∧ w' = W)
    (k4 : ∀ W, Calls Tryz.prog 41 #[.float .f64 hi] W fun e w' => e = .returned (.bool s) ∧ w' = W) :
    Calls Tryz.prog 13 #[.agg #[.float .f64 lo, .float .f64 hi]] w fun r w' => r = .returned (.bool false) ∧ Below w.heap.size w w' := by
  obtain ⟨W, hW⟩ : ∃ W, W = w.alloc (.cells #[.float .f64 lo, .float .f64 hi] 24) := ⟨_, rfl⟩
  have HX : Hid (Below w.heap.size w W) := by rw [hW]; exact (Below.refl _ _).alloc (Nat.le_refl _) _
  have hcl : W.cell? ⟨w.heap.size, 0, none⟩ = some (.float .f64 lo) ∧ W.cell? ⟨w.heap.size, 1, none⟩ = some (.float .f64 hi) := by rw [hW]; exact box_cells2 (heap_alloc_new _ _)
  obtain ⟨c0, c1⟩ := hcl
  go_enter Tryz.func13, Tryz.ntmps13
  go_upto_region 1 with fail
  rw [← hW]
  clear hW
  go_quiet (first | (go_at_call 36; first | (with_reducible refine Calls.quiet_of_same (cinf_p _)) | (with_reducible refine Calls.quiet_of_same (cinf_m _))) | (go_at_call 41; first | (with_reducible refine Calls.quiet_of_same (k3 _)) | (with_reducible refine Calls.quiet_of_same (k4 _))))
  go_wp2
  go_ret
  exact ⟨rfl, bdrewN HX.out _⟩
theorem dvalid_5 (lo hi : Nat) (w : World) (s : Bool)
    (o1 : (FloatKind.f64.format.order lo hi == some Ordering.lt || FloatKind.f64.format.order lo hi == some Ordering.eq) = true)
    (o2 : (FloatKind.f64.format.order lo 9218868437227405312 == some Ordering.lt) = true)
    (o3 : (FloatKind.f64.format.order hi 18442240474082181120 == some Ordering.gt) = true)
    (k3 : ∀ W, Calls Tryz.prog 41 #[.float .f64 lo] W fun e w' => e = .returned (.bool true) ∧ w' = W)
    (k4 : ∀ W, Calls Tryz.prog 41 #[.float .f64 hi] W fun e w' => e = .returned (.bool s) ∧ w' = W) :
    Calls Tryz.prog 13 #[.agg #[.float .f64 lo, .float .f64 hi]] w fun r w' => r = .returned (.bool s) ∧ Below w.heap.size w w' := by
  obtain ⟨W, hW⟩ : ∃ W, W = w.alloc (.cells #[.float .f64 lo, .float .f64 hi] 24) := ⟨_, rfl⟩
  have HX : Hid (Below w.heap.size w W) := by rw [hW]; exact (Below.refl _ _).alloc (Nat.le_refl _) _
  have hcl : W.cell? ⟨w.heap.size, 0, none⟩ = some (.float .f64 lo) ∧ W.cell? ⟨w.heap.size, 1, none⟩ = some (.float .f64 hi) := by rw [hW]; exact box_cells2 (heap_alloc_new _ _)
  obtain ⟨c0, c1⟩ := hcl
  go_enter Tryz.func13, Tryz.ntmps13
  go_upto_region 1 with fail
  rw [← hW]
  clear hW
  go_quiet (first | (go_at_call 36; first | (with_reducible refine Calls.quiet_of_same (cinf_p _)) | (with_reducible refine Calls.quiet_of_same (cinf_m _))) | (go_at_call 41; first | (with_reducible refine Calls.quiet_of_same (k3 _)) | (with_reducible refine Calls.quiet_of_same (k4 _))))
  go_wp2
  go_ret
  exact ⟨rfl, bdrewN HX.out _⟩
theorem d8valid (lo hi : Nat) (h1 : lo < 18446744073709551616) (h2 : hi < 18446744073709551616) (w : World) :
    Calls Tryz.prog 13 #[.agg #[.float .f64 lo, .float .f64 hi]] w fun r w' => r = .returned (.bool (vI lo hi)) ∧ Below w.heap.size w w' := by
  have o1 := ord_le lo hi h1 h2
  have o2 := ord_lt lo 9218868437227405312 h1 (by omega)
  have o3 := ord_gt hi 18442240474082181120 h2 (by omega)
  have k3 := dclean lo h1
  have k4 := dclean hi h2
  unfold vI
  rw [decide_not, decide_not]
  cases hl : le lo hi
  · rw [hl] at o1
    exact dvalid_1 lo hi w _ _ _ _ o1 o2 o3 k3 k4
  · rw [hl] at o1
    cases hp : lt lo 9218868437227405312
    · rw [hp] at o2
      exact dvalid_2 lo hi w _ _ _ o1 o2 o3 k3 k4
    · rw [hp] at o2
      cases hq : lt 18442240474082181120 hi
      · rw [hq] at o3
        exact dvalid_3 lo hi w _ _ o1 o2 o3 k3 k4
      · rw [hq] at o3
        cases hs : decide (lo = 9223372036854775808)
        · rw [hs] at k3
          exact dvalid_5 lo hi w _ o1 o2 o3 k3 k4
        · rw [hs] at k3
          exact dvalid_4 lo hi w _ o1 o2 o3 k3 k4
end Go.Proofs.YtgmpcpeminjpbaaGreatDoor
