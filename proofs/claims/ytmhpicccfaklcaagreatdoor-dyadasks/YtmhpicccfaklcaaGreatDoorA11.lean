/- Own work: contracts of the program's functions, part 11: L11 HX W46 W47 RC5 L10 W48. -/
import Derived.Test.YtmhpicccfaklcaaGreatDoorA10
import Derived.Test.YtmhpicccfaklcaaGreatDoorA6
import Derived.Test.YtmhpicccfaklcaaGreatDoorA7

/- DyadAsks: the law's walk. -/
namespace Go.Proofs.YtmhpicccfaklcaaGreatDoor
set_option linter.unusedVariables false
set_option linter.unusedSimpArgs false
open Go.RowKit

/-- an answer: a number that keeps P -/
def Out1 (W : World) (P : World → Value → Prop) (r : Ending) (w' : World) : Prop := ∃ s ao n cap e, r = .returned (.agg #[.bool s, .slice ao n cap, .int .i64 e]) ∧ P w' (.agg #[.bool s, .slice ao n cap, .int .i64 e]) ∧ Below W.heap.size W w'
structure AsksK (w : World) (A0 A1 : Value) (NG0 NG1 : Bool) (LN0 Z0 LN1 Z1 : Nat) (E0 E01 : Int) (PX PY P1 P2 R1 R2 : World → Value → Prop) (vb : Bool) (c4 c5 c6 c7 : Int) (S8 : ByteArray) : Prop where
  lPX : Lasts PX
  lPY : Lasts PY
  lP1 : Lasts P1
  lP2 : Lasts P2
  lR1 : Lasts R1
  lR2 : Lasts R2
  kValid : ∀ W X, Below w.heap.size w W → PX W X → Calls Tryz.prog 10 #[X] W fun r w' => r = .returned (.bool vb) ∧ Below W.heap.size W w'
  qValid : ∀ W, Below w.heap.size w W → Calls Tryz.prog 11 #[A0] W fun r w' => r = .returned (.bool vb) ∧ Below W.heap.size W w'
  kSign : ∀ W X, Below w.heap.size w W → PX W X → Calls Tryz.prog 17 #[X] W fun r w' => r = .returned (.int .i64 c4) ∧ Below W.heap.size W w'
  qSign : ∀ W, Below w.heap.size w W → Calls Tryz.prog 18 #[A0] W fun r w' => r = .returned (.int .i64 c4) ∧ Below W.heap.size W w'
  kBits : ∀ W X, Below w.heap.size w W → PX W X → Calls Tryz.prog 19 #[X] W fun r w' => r = .returned (.int .i64 c5) ∧ Below W.heap.size W w'
  qBits : ∀ W, Below w.heap.size w W → Calls Tryz.prog 20 #[A0] W fun r w' => r = .returned (.int .i64 c5) ∧ Below W.heap.size W w'
  kTop : ∀ W X, Below w.heap.size w W → PX W X → Calls Tryz.prog 21 #[X] W fun r w' => r = .returned (.int .i64 c6) ∧ Below W.heap.size W w'
  qTop : ∀ W, Below w.heap.size w W → Calls Tryz.prog 22 #[A0] W fun r w' => r = .returned (.int .i64 c6) ∧ Below W.heap.size W w'
  kCmp : ∀ W X Y, Below w.heap.size w W → PX W X → PY W Y → Calls Tryz.prog 23 #[X, Y] W fun r w' => r = .returned (.int .i64 c7) ∧ Below W.heap.size W w'
  qCmp : ∀ W, Below w.heap.size w W → Calls Tryz.prog 24 #[A0, A1] W fun r w' => r = .returned (.int .i64 c7) ∧ Below W.heap.size W w'
  kShow : ∀ W X, Below w.heap.size w W → PX W X → Calls Tryz.prog 25 #[X] W fun r w' => r = .returned (.string S8) ∧ Below W.heap.size W w'
  qShow : ∀ W, Below w.heap.size w W → Calls Tryz.prog 26 #[A0] W fun r w' => r = .returned (.string S8) ∧ Below W.heap.size W w'
  kNeg : ∀ W X, Below w.heap.size w W → PX W X → Calls Tryz.prog 13 #[X] W fun r w' => Out1 W P1 r w'
  qNeg : ∀ W, Below w.heap.size w W → Calls Tryz.prog 14 #[A0] W fun r w' => Out1 W R1 r w'
  sNeg : ∀ W A C, P1 W A → R1 W C → Calls Tryz.prog 12 #[A, C] W fun r w' => r = .returned (.bool true) ∧ Below W.heap.size W w'
  kAbs : ∀ W X, Below w.heap.size w W → PX W X → Calls Tryz.prog 15 #[X] W fun r w' => Out1 W P2 r w'
  qAbs : ∀ W, Below w.heap.size w W → Calls Tryz.prog 16 #[A0] W fun r w' => Out1 W R2 r w'
  sAbs : ∀ W A C, P2 W A → R2 W C → Calls Tryz.prog 12 #[A, C] W fun r w' => r = .returned (.bool true) ∧ Below W.heap.size W w'
  s5 : ∀ W X, Below w.heap.size w W → PX W X → Calls Tryz.prog 12 #[X, A0] W fun r w' => r = .returned (.bool true) ∧ Below W.heap.size W w'
  s6 : ∀ W Y, Below w.heap.size w W → PY W Y → Calls Tryz.prog 12 #[Y, A1] W fun r w' => r = .returned (.bool true) ∧ Below W.heap.size W w'
  gx : ∀ W v, Below w.heap.size w W → (∃ b, Dn W b v (LN0) (Z0)) → PX W (.agg #[.bool NG0, v, .int .i64 E0])
  gy : ∀ W v, Below w.heap.size w W → (∃ b, Dn W b v (LN1) (Z1)) → PY W (.agg #[.bool NG1, v, .int .i64 E01])
  works : ∀ W, Below w.heap.size w W → Calls Tryz.prog 27 #[] W fun r w' => r = .returned (.bool true) ∧ Below W.heap.size W w'

set_option maxHeartbeats 16000000 in
set_option maxRecDepth 200000 in
theorem law3_1 (ng : Nat → Bool) (ao : Nat → Option Addr) (ln cp z : Nat → Nat) (e : Nat → Int) (w : World) (hA : ∀ i, i < 2 → Arg w (ao i) (ln i) (cp i) (z i))
    {PX PY P1 P2 R1 R2 : World → Value → Prop} {vb : Bool} {c4 c5 c6 c7 : Int} {S8 : ByteArray} (K : AsksK w (.agg #[.bool (ng 0), .slice (ao 0) (ln 0) (cp 0), .int .i64 (e 0)]) (.agg #[.bool (ng 1), .slice (ao 1) (ln 1) (cp 1), .int .i64 (e 1)]) (ng 0) (ng 1) (ln 0) (z 0) (ln 1) (z 1) (e 0) (e 1) PX PY P1 P2 R1 R2 vb c4 c5 c6 c7 S8) :
    Calls Tryz.prog 3 #[.agg #[.bool (ng 0), .slice (ao 0) (ln 0) (cp 0), .int .i64 (e 0)], .agg #[.bool (ng 1), .slice (ao 1) (ln 1) (cp 1), .int .i64 (e 1)]] w fun r w' => r = .returned (.bool true) ∧ Below w.heap.size w w' := by
  obtain ⟨W, hW⟩ : ∃ W, W = (w.alloc (.cells #[.bool (ng 0), .slice (ao 0) (ln 0) (cp 0), .int .i64 (e 0)] 24)).alloc (.cells #[.bool (ng 1), .slice (ao 1) (ln 1) (cp 1), .int .i64 (e 1)] 24) := ⟨_, rfl⟩
  obtain ⟨hs0, hs1, hsz, hBW⟩ := two29 _ _ hW
  have HBW : Hid (Below w.heap.size w W) := hBW
  have HA3 : ∀ i, i < 2 → Arg W (ao i) (ln i) (cp i) (z i) := fun i hi => (hA i hi).later hBW
  clear hBW hA hsz
  go_enter Tryz.func3, Tryz.ntmps3
  go_upto_region 1 with fail
  rw [← hW]
  clear hW
  go_cut [5, 6] from 8 to 11 (fun p q wx => ∃ (g : Nat → Nat) (v : Nat → Value), p = .pointer (some ⟨g 0, 0, none⟩) ∧ q = .pointer (some ⟨g 1, 0, none⟩) ∧ Hid (Given W wx 2 ng ln z e g v))
  case first =>
    refine give_region 2 (fun k => 2 + k) (fun k => 8 + 2 * k) (fun k => 9 + 2 * k) (fun k => 5 + k) (fun k => w.heap.size + k) ng ao ln cp z e W _ rfl (ord_of (by kernel_rfl)) ?_ ?_ ?_ ?_ ?_ ?_ ?_ ?_ ?_ ?_ ?_ ?_
    · intro k hk
      rcases lt2 hk with rfl | rfl
      · exact ⟨rfl, hs0, HA3 0 hk⟩
      · exact ⟨rfl, hs1, HA3 1 hk⟩
    · intro k hk
      rcases lt2 hk with rfl | rfl <;> decide
    · intro k hk
      rcases lt2 hk with rfl | rfl <;> exact ⟨_, rfl, rfl, rfl, rfl⟩
    · intro k hk
      rcases lt2 hk with rfl | rfl <;> exact ⟨_, rfl, rfl, ⟨_, rfl⟩, rfl, ⟨_, .data⟩, by simp, rfl, rfl⟩
    · intro k hk
      rcases lt2 hk with rfl | rfl <;> exact ⟨_, rfl, rfl, rfl, rfl⟩
    · intro k hk
      rcases lt2 hk with rfl | rfl <;> exact ⟨_, rfl, rfl, rfl, rfl, ⟨⟨_, .data⟩, by simp, rfl, rfl⟩, ⟨_, .data⟩, by simp, rfl, rfl⟩
    · show ∀ j, j < 2 * 2 → gslot (fun k => 8 + 2 * k) (fun k => 9 + 2 * k) j < 82
      decide
    · show ∀ k, k < 2 → 5 + k < 82
      decide
    · decide
    · decide
    · decide
    · intro u v g wx hb hk
      simp only [putL, gslot, show List.range (2 * 2) = [0, 1, 2, 3] from rfl, show List.range 2 = [0, 1] from rfl, List.map_cons, List.map_nil, List.cons_append, List.nil_append, List.foldl_cons, List.foldl_nil, Nat.reduceMod, Nat.reduceDiv, Nat.reduceMul, Nat.reduceAdd, reduceIte, Nat.one_ne_zero, Act.put, List.setIfInBounds_toArray, List.set_cons_zero, List.set_cons_succ]
      go_wp2_with fail
      go_meet
      exact ⟨g, v, rfl, rfl, hb, hk⟩
  case rest =>
    obtain ⟨w8, hw8⟩ : ∃ w8 : World, w8 = wc := ⟨_, rfl⟩
    subst hw8
    obtain ⟨g, v, rfl, rfl, HG⟩ := hcut
    have hB8 : Below w.heap.size w w8 := HBW.out.trans (HG.out.1.mono HBW.out.size)
    have b0 : ∃ ak ck, BB 25 PX w8 (g 0) (ng 0) ak (ln 0) ck (e 0) := by
      obtain ⟨h1, h2, h3⟩ := HG.out.2 0 (by omega)
      have hp := K.gx w8 _ hB8 ⟨_, h1⟩
      obtain ⟨ak, ck, hv, -, -⟩ := h1.at
      rw [hv] at hp h3
      exact ⟨ak, ck, h3, hp⟩
    have b1 : ∃ ak ck, BB 25 PY w8 (g 1) (ng 1) ak (ln 1) ck (e 1) := by
      obtain ⟨h1, h2, h3⟩ := HG.out.2 1 (by omega)
      have hp := K.gy w8 _ hB8 ⟨_, h1⟩
      obtain ⟨ak, ck, hv, -, -⟩ := h1.at
      rw [hv] at hp h3
      exact ⟨ak, ck, h3, hp⟩
    obtain ⟨xa, xc, X0⟩ := b0
    obtain ⟨ya, yc, X1⟩ := b1
    replace X0 : Hid (BB 25 PX w8 (g 0) (ng 0) xa (ln 0) xc (e 0)) := X0
    replace X1 : Hid (BB 25 PY w8 (g 1) (ng 1) ya (ln 1) yc (e 1)) := X1
    have X2 : Hid (BB 24 Any w8 (w.heap.size) (ng 0) (ao 0) (ln 0) (cp 0) (e 0)) := ⟨box_later hs0 HG.out.1 (Array.getElem?_eq_some_iff.1 hs0).1, trivial⟩
    have X3 : Hid (BB 24 Any w8 (w.heap.size + 1) (ng 1) (ao 1) (ln 1) (cp 1) (e 1)) := ⟨box_later hs1 HG.out.1 (Array.getElem?_eq_some_iff.1 hs1).1, trivial⟩
    have HB8 : Hid (Below w.heap.size w w8) := hB8
    clear HG hs0 hs1 HA3 hB8
    have HK : Hid (∀ w', Below w8.heap.size w8 w' → ((w'.cell? ⟨g 0, 0, none⟩ = some (.bool (ng 0)) ∧ w'.cell? ⟨g 0, 1, none⟩ = some (.slice xa (ln 0) xc) ∧ w'.cell? ⟨g 0, 2, none⟩ = some (.int .i64 (e 0))) ∧ (w'.cell? ⟨g 1, 0, none⟩ = some (.bool (ng 1)) ∧ w'.cell? ⟨g 1, 1, none⟩ = some (.slice ya (ln 1) yc) ∧ w'.cell? ⟨g 1, 2, none⟩ = some (.int .i64 (e 1))) ∧ (w'.cell? ⟨w.heap.size, 0, none⟩ = some (.bool (ng 0)) ∧ w'.cell? ⟨w.heap.size, 1, none⟩ = some (.slice (ao 0) (ln 0) (cp 0)) ∧ w'.cell? ⟨w.heap.size, 2, none⟩ = some (.int .i64 (e 0))) ∧ (w'.cell? ⟨w.heap.size + 1, 0, none⟩ = some (.bool (ng 1)) ∧ w'.cell? ⟨w.heap.size + 1, 1, none⟩ = some (.slice (ao 1) (ln 1) (cp 1)) ∧ w'.cell? ⟨w.heap.size + 1, 2, none⟩ = some (.int .i64 (e 1))))) := fun w' hb => ⟨(box_cells (X0.out.later K.lPX hb).1).1, (box_cells (X1.out.later K.lPY hb).1).1, (box_cells29 (X2.out.later Any.lasts hb).1).1, (box_cells29 (X3.out.later Any.lasts hb).1).1⟩
    obtain ⟨⟨p0, p1, p2⟩, ⟨p3, p4, p5⟩, ⟨p6, p7, p8⟩, p9, p10, p11⟩ := HK.out w8 (Below.refl _ _)
    have hBR : Below w8.heap.size w8 w8.drew := (Below.refl _ _).drew
    have kValid : ∀ w4, Below w8.heap.size w8 w4 → Calls Tryz.prog 10 #[(.agg #[.bool (ng 0), .slice xa (ln 0) xc, .int .i64 (e 0)])] w4 fun r w' => r = .returned (.bool vb) ∧ Below w8.heap.size w8 w' := fun w4 h4 => (K.kValid w4 _ (HB8.out.trans (h4.mono HB8.out.size)) (K.lPX _ _ _ h4 X0.out.2)).mono fun r w' ⟨e1, o2⟩ => ⟨e1, h4.trans (o2.mono h4.size)⟩
    have qValid : ∀ w4, Below w8.heap.size w8 w4 → Calls Tryz.prog 11 #[(.agg #[.bool (ng 0), .slice (ao 0) (ln 0) (cp 0), .int .i64 (e 0)])] w4 fun r w' => r = .returned (.bool vb) ∧ Below w8.heap.size w8 w' := fun w4 h4 => (K.qValid w4 (HB8.out.trans (h4.mono HB8.out.size))).mono fun r w' ⟨e1, o2⟩ => ⟨e1, h4.trans (o2.mono h4.size)⟩
    have kSign : ∀ w4, Below w8.heap.size w8 w4 → Calls Tryz.prog 17 #[(.agg #[.bool (ng 0), .slice xa (ln 0) xc, .int .i64 (e 0)])] w4 fun r w' => r = .returned (.int .i64 c4) ∧ Below w8.heap.size w8 w' := fun w4 h4 => (K.kSign w4 _ (HB8.out.trans (h4.mono HB8.out.size)) (K.lPX _ _ _ h4 X0.out.2)).mono fun r w' ⟨e1, o2⟩ => ⟨e1, h4.trans (o2.mono h4.size)⟩
    have qSign : ∀ w4, Below w8.heap.size w8 w4 → Calls Tryz.prog 18 #[(.agg #[.bool (ng 0), .slice (ao 0) (ln 0) (cp 0), .int .i64 (e 0)])] w4 fun r w' => r = .returned (.int .i64 c4) ∧ Below w8.heap.size w8 w' := fun w4 h4 => (K.qSign w4 (HB8.out.trans (h4.mono HB8.out.size))).mono fun r w' ⟨e1, o2⟩ => ⟨e1, h4.trans (o2.mono h4.size)⟩
    have kBits : ∀ w4, Below w8.heap.size w8 w4 → Calls Tryz.prog 19 #[(.agg #[.bool (ng 0), .slice xa (ln 0) xc, .int .i64 (e 0)])] w4 fun r w' => r = .returned (.int .i64 c5) ∧ Below w8.heap.size w8 w' := fun w4 h4 => (K.kBits w4 _ (HB8.out.trans (h4.mono HB8.out.size)) (K.lPX _ _ _ h4 X0.out.2)).mono fun r w' ⟨e1, o2⟩ => ⟨e1, h4.trans (o2.mono h4.size)⟩
    have qBits : ∀ w4, Below w8.heap.size w8 w4 → Calls Tryz.prog 20 #[(.agg #[.bool (ng 0), .slice (ao 0) (ln 0) (cp 0), .int .i64 (e 0)])] w4 fun r w' => r = .returned (.int .i64 c5) ∧ Below w8.heap.size w8 w' := fun w4 h4 => (K.qBits w4 (HB8.out.trans (h4.mono HB8.out.size))).mono fun r w' ⟨e1, o2⟩ => ⟨e1, h4.trans (o2.mono h4.size)⟩
    have kTop : ∀ w4, Below w8.heap.size w8 w4 → Calls Tryz.prog 21 #[(.agg #[.bool (ng 0), .slice xa (ln 0) xc, .int .i64 (e 0)])] w4 fun r w' => r = .returned (.int .i64 c6) ∧ Below w8.heap.size w8 w' := fun w4 h4 => (K.kTop w4 _ (HB8.out.trans (h4.mono HB8.out.size)) (K.lPX _ _ _ h4 X0.out.2)).mono fun r w' ⟨e1, o2⟩ => ⟨e1, h4.trans (o2.mono h4.size)⟩
    have qTop : ∀ w4, Below w8.heap.size w8 w4 → Calls Tryz.prog 22 #[(.agg #[.bool (ng 0), .slice (ao 0) (ln 0) (cp 0), .int .i64 (e 0)])] w4 fun r w' => r = .returned (.int .i64 c6) ∧ Below w8.heap.size w8 w' := fun w4 h4 => (K.qTop w4 (HB8.out.trans (h4.mono HB8.out.size))).mono fun r w' ⟨e1, o2⟩ => ⟨e1, h4.trans (o2.mono h4.size)⟩
    have kCmp : ∀ w4, Below w8.heap.size w8 w4 → Calls Tryz.prog 23 #[(.agg #[.bool (ng 0), .slice xa (ln 0) xc, .int .i64 (e 0)]), (.agg #[.bool (ng 1), .slice ya (ln 1) yc, .int .i64 (e 1)])] w4 fun r w' => r = .returned (.int .i64 c7) ∧ Below w8.heap.size w8 w' := fun w4 h4 => (K.kCmp w4 _ _ (HB8.out.trans (h4.mono HB8.out.size)) (K.lPX _ _ _ h4 X0.out.2) (K.lPY _ _ _ h4 X1.out.2)).mono fun r w' ⟨e1, o2⟩ => ⟨e1, h4.trans (o2.mono h4.size)⟩
    have qCmp : ∀ w4, Below w8.heap.size w8 w4 → Calls Tryz.prog 24 #[(.agg #[.bool (ng 0), .slice (ao 0) (ln 0) (cp 0), .int .i64 (e 0)]), (.agg #[.bool (ng 1), .slice (ao 1) (ln 1) (cp 1), .int .i64 (e 1)])] w4 fun r w' => r = .returned (.int .i64 c7) ∧ Below w8.heap.size w8 w' := fun w4 h4 => (K.qCmp w4 (HB8.out.trans (h4.mono HB8.out.size))).mono fun r w' ⟨e1, o2⟩ => ⟨e1, h4.trans (o2.mono h4.size)⟩
    have kShow : ∀ w4, Below w8.heap.size w8 w4 → Calls Tryz.prog 25 #[(.agg #[.bool (ng 0), .slice xa (ln 0) xc, .int .i64 (e 0)])] w4 fun r w' => r = .returned (.string S8) ∧ Below w8.heap.size w8 w' := fun w4 h4 => (K.kShow w4 _ (HB8.out.trans (h4.mono HB8.out.size)) (K.lPX _ _ _ h4 X0.out.2)).mono fun r w' ⟨e1, o2⟩ => ⟨e1, h4.trans (o2.mono h4.size)⟩
    have qShow : ∀ w4, Below w8.heap.size w8 w4 → Calls Tryz.prog 26 #[(.agg #[.bool (ng 0), .slice (ao 0) (ln 0) (cp 0), .int .i64 (e 0)])] w4 fun r w' => r = .returned (.string S8) ∧ Below w8.heap.size w8 w' := fun w4 h4 => (K.qShow w4 (HB8.out.trans (h4.mono HB8.out.size))).mono fun r w' ⟨e1, o2⟩ => ⟨e1, h4.trans (o2.mono h4.size)⟩
    have kNeg : ∀ w4, Below w8.heap.size w8 w4 → Calls Tryz.prog 13 #[(.agg #[.bool (ng 0), .slice xa (ln 0) xc, .int .i64 (e 0)])] w4 fun r w' => ∃ s ao n cap e, r = .returned (.agg #[.bool s, .slice ao n cap, .int .i64 e]) ∧ P1 w' (.agg #[.bool s, .slice ao n cap, .int .i64 e]) ∧ Below w8.heap.size w8 w' ∧ Below w4.heap.size w4 w' := fun w4 h4 => (K.kNeg w4 _ (HB8.out.trans (h4.mono HB8.out.size)) (K.lPX _ _ _ h4 X0.out.2)).mono fun r w' ⟨s, a, n, c, e, e1, o1, o2⟩ => ⟨s, a, n, c, e, e1, o1, h4.trans (o2.mono h4.size), o2⟩
    have qNeg : ∀ w4, Below w8.heap.size w8 w4 → Calls Tryz.prog 14 #[(.agg #[.bool (ng 0), .slice (ao 0) (ln 0) (cp 0), .int .i64 (e 0)])] w4 fun r w' => ∃ s ao n cap e, r = .returned (.agg #[.bool s, .slice ao n cap, .int .i64 e]) ∧ R1 w' (.agg #[.bool s, .slice ao n cap, .int .i64 e]) ∧ Below w8.heap.size w8 w' ∧ Below w4.heap.size w4 w' := fun w4 h4 => (K.qNeg w4 (HB8.out.trans (h4.mono HB8.out.size))).mono fun r w' ⟨s, a, n, c, e, e1, o1, o2⟩ => ⟨s, a, n, c, e, e1, o1, h4.trans (o2.mono h4.size), o2⟩
    have sNeg : ∀ w4 A C, P1 w4 A → R1 w4 C → Below w8.heap.size w8 w4 → Calls Tryz.prog 12 #[A, C] w4 fun r w' => r = .returned (.bool true) ∧ Below w8.heap.size w8 w' := fun w4 A C hp hr h4 => (K.sNeg w4 A C hp hr).mono fun r w' ⟨e1, o2⟩ => ⟨e1, h4.trans (o2.mono h4.size)⟩
    have kAbs : ∀ w4, Below w8.heap.size w8 w4 → Calls Tryz.prog 15 #[(.agg #[.bool (ng 0), .slice xa (ln 0) xc, .int .i64 (e 0)])] w4 fun r w' => ∃ s ao n cap e, r = .returned (.agg #[.bool s, .slice ao n cap, .int .i64 e]) ∧ P2 w' (.agg #[.bool s, .slice ao n cap, .int .i64 e]) ∧ Below w8.heap.size w8 w' ∧ Below w4.heap.size w4 w' := fun w4 h4 => (K.kAbs w4 _ (HB8.out.trans (h4.mono HB8.out.size)) (K.lPX _ _ _ h4 X0.out.2)).mono fun r w' ⟨s, a, n, c, e, e1, o1, o2⟩ => ⟨s, a, n, c, e, e1, o1, h4.trans (o2.mono h4.size), o2⟩
    have qAbs : ∀ w4, Below w8.heap.size w8 w4 → Calls Tryz.prog 16 #[(.agg #[.bool (ng 0), .slice (ao 0) (ln 0) (cp 0), .int .i64 (e 0)])] w4 fun r w' => ∃ s ao n cap e, r = .returned (.agg #[.bool s, .slice ao n cap, .int .i64 e]) ∧ R2 w' (.agg #[.bool s, .slice ao n cap, .int .i64 e]) ∧ Below w8.heap.size w8 w' ∧ Below w4.heap.size w4 w' := fun w4 h4 => (K.qAbs w4 (HB8.out.trans (h4.mono HB8.out.size))).mono fun r w' ⟨s, a, n, c, e, e1, o1, o2⟩ => ⟨s, a, n, c, e, e1, o1, h4.trans (o2.mono h4.size), o2⟩
    have sAbs : ∀ w4 A C, P2 w4 A → R2 w4 C → Below w8.heap.size w8 w4 → Calls Tryz.prog 12 #[A, C] w4 fun r w' => r = .returned (.bool true) ∧ Below w8.heap.size w8 w' := fun w4 A C hp hr h4 => (K.sAbs w4 A C hp hr).mono fun r w' ⟨e1, o2⟩ => ⟨e1, h4.trans (o2.mono h4.size)⟩
    have lP1 : ∀ W W' A, Below W.heap.size W W' → P1 W A → P1 W' A := K.lP1
    have lP2 : ∀ W W' A, Below W.heap.size W W' → P2 W A → P2 W' A := K.lP2
    go_upto_region 2 with fail
    go_cut [7] from 12 to 67 (fun v w' => v = .bool true ∧ Hid (Below w8.heap.size w8 w'))
    case first =>
      go_region_held3 (fun w' => ((w'.cell? ⟨g 0, 0, none⟩ = some (.bool (ng 0)) ∧ w'.cell? ⟨g 0, 1, none⟩ = some (.slice xa (ln 0) xc) ∧ w'.cell? ⟨g 0, 2, none⟩ = some (.int .i64 (e 0))) ∧ (w'.cell? ⟨g 1, 0, none⟩ = some (.bool (ng 1)) ∧ w'.cell? ⟨g 1, 1, none⟩ = some (.slice ya (ln 1) yc) ∧ w'.cell? ⟨g 1, 2, none⟩ = some (.int .i64 (e 1))) ∧ (w'.cell? ⟨w.heap.size, 0, none⟩ = some (.bool (ng 0)) ∧ w'.cell? ⟨w.heap.size, 1, none⟩ = some (.slice (ao 0) (ln 0) (cp 0)) ∧ w'.cell? ⟨w.heap.size, 2, none⟩ = some (.int .i64 (e 0))) ∧ (w'.cell? ⟨w.heap.size + 1, 0, none⟩ = some (.bool (ng 1)) ∧ w'.cell? ⟨w.heap.size + 1, 1, none⟩ = some (.slice (ao 1) (ln 1) (cp 1)) ∧ w'.cell? ⟨w.heap.size + 1, 2, none⟩ = some (.int .i64 (e 1))))) (first | (with_reducible assumption) | exact ⟨⟨p0, p1, p2⟩, ⟨p3, p4, p5⟩, ⟨p6, p7, p8⟩, p9, p10, p11⟩ | (refine HK.out _ ?_; with_reducible assumption) | go_keep)
        (first | (go_at_call 10; refine (kValid _ (by first | (with_reducible assumption) | exact hBR)).mono ?_; rintro r wkValid ⟨rfl, hbkValid⟩) | (go_at_call 11; refine (qValid _ (by first | (with_reducible assumption) | exact hBR)).mono ?_; rintro r wqValid ⟨rfl, hbqValid⟩) | (go_at_call 17; refine (kSign _ (by first | (with_reducible assumption) | exact hBR)).mono ?_; rintro r wkSign ⟨rfl, hbkSign⟩) | (go_at_call 18; refine (qSign _ (by first | (with_reducible assumption) | exact hBR)).mono ?_; rintro r wqSign ⟨rfl, hbqSign⟩) | (go_at_call 19; refine (kBits _ (by first | (with_reducible assumption) | exact hBR)).mono ?_; rintro r wkBits ⟨rfl, hbkBits⟩) | (go_at_call 20; refine (qBits _ (by first | (with_reducible assumption) | exact hBR)).mono ?_; rintro r wqBits ⟨rfl, hbqBits⟩) | (go_at_call 21; refine (kTop _ (by first | (with_reducible assumption) | exact hBR)).mono ?_; rintro r wkTop ⟨rfl, hbkTop⟩) | (go_at_call 22; refine (qTop _ (by first | (with_reducible assumption) | exact hBR)).mono ?_; rintro r wqTop ⟨rfl, hbqTop⟩) | (go_at_call 23; refine (kCmp _ (by first | (with_reducible assumption) | exact hBR)).mono ?_; rintro r wkCmp ⟨rfl, hbkCmp⟩) | (go_at_call 24; refine (qCmp _ (by first | (with_reducible assumption) | exact hBR)).mono ?_; rintro r wqCmp ⟨rfl, hbqCmp⟩) | (go_at_call 25; refine (kShow _ (by first | (with_reducible assumption) | exact hBR)).mono ?_; rintro r wkShow ⟨rfl, hbkShow⟩) | (go_at_call 26; refine (qShow _ (by first | (with_reducible assumption) | exact hBR)).mono ?_; rintro r wqShow ⟨rfl, hbqShow⟩) | (go_at_call 13; refine (kNeg _ (by first | (with_reducible assumption) | exact hBR)).mono ?_; rintro r wkNeg ⟨sk1, ak1, nk1, ck1, ek1, rfl, hpk1, hbkNeg, hckNeg⟩) | (go_at_call 14; refine (qNeg _ (by first | (with_reducible assumption) | exact hBR)).mono ?_; rintro r wqNeg ⟨sq1, aq1, nq1, cq1, eq1, rfl, hpq1, hbqNeg, hcqNeg⟩) | (go_at_call 15; refine (kAbs _ (by first | (with_reducible assumption) | exact hBR)).mono ?_; rintro r wkAbs ⟨sk2, ak2, nk2, ck2, ek2, rfl, hpk2, hbkAbs, hckAbs⟩) | (go_at_call 16; refine (qAbs _ (by first | (with_reducible assumption) | exact hBR)).mono ?_; rintro r wqAbs ⟨sq2, aq2, nq2, cq2, eq2, rfl, hpq2, hbqAbs, hcqAbs⟩) | (go_at_call 12; first | (with_reducible refine (sNeg _ _ _ (lP1 _ _ _ hcqNeg hpk1) hpq1 hbqNeg).mono ?_; rintro r wsNeg ⟨rfl, hbsNeg⟩) | (with_reducible refine (sAbs _ _ _ (lP2 _ _ _ hcqAbs hpk2) hpq2 hbqAbs).mono ?_; rintro r wsAbs ⟨rfl, hbsAbs⟩)))
      all_goals go_wp2_with fail
      all_goals go_meet
      all_goals exact ⟨by first | rfl | simp, by first | exact hbqShow | exact hbkShow⟩
    case rest =>
      obtain ⟨rfl, hc⟩ := hcut
      obtain ⟨W2, rfl⟩ : ∃ W2 : World, W2 = wc := ⟨_, rfl⟩
      clear kValid qValid kSign qSign kBits qBits kTop qTop kCmp qCmp kShow qShow kNeg qNeg sNeg kAbs qAbs sAbs lP1 lP2 hBR p0 p1 p2 p3 p4 p5 p6 p7 p8 p9 p10 p11
      obtain ⟨⟨p0, p1, p2⟩, -, ⟨p6, p7, p8⟩, -⟩ := HK.out W2 hc.out
      have HB2 : Hid (Below w.heap.size w W2) := HB8.out.trans (hc.out.mono HB8.out.size)
      have kc := K.s5 W2 _ HB2.out (K.lPX _ _ _ hc.out X0.out.2)
      go_wp2_with fail
      refine kc.mono ?_
      rintro r w24 ⟨rfl, hb'⟩
      have hc4 : Below w8.heap.size w8 w24 := hc.out.trans (hb'.mono hc.out.size)
      have HC4 : Hid (Below w8.heap.size w8 w24) := hc4
      have HB24 : Hid (Below w.heap.size w w24) := HB2.out.trans (hb'.mono HB2.out.size)
      clear kc hb' p0 p1 p2 p6 p7 p8 hc4
      obtain ⟨-, ⟨p3, p4, p5⟩, -, p9, p10, p11⟩ := HK.out w24 HC4.out
      have kc := K.s6 w24 _ HB24.out (K.lPY _ _ _ HC4.out X1.out.2)
      go_wp2_with fail
      refine kc.mono ?_
      rintro r w25 ⟨rfl, hb'⟩
      have HB25 : Hid (Below w.heap.size w w25) := HB24.out.trans (hb'.mono HB24.out.size)
      clear kc hb' p3 p4 p5 p9 p10 p11
      have kc := K.works w25 HB25.out
      go_wp2_with fail
      refine kc.mono ?_
      rintro r w26 ⟨rfl, hb'⟩
      have HB26 : Hid (Below w.heap.size w w26) := HB25.out.trans (hb'.mono HB25.out.size)
      clear kc hb'
      go_wp2_with fail
      go_ret
      exact ⟨rfl, HB26.out⟩
end Go.Proofs.YtmhpicccfaklcaaGreatDoor

/- Numbers written in base 16. -/
namespace Go.Proofs.YtmhpicccfaklcaaGreatDoor
set_option linter.unusedVariables false
set_option linter.unusedSimpArgs false
open Go.RowKit

/-- a number's digits in base 16, the first ahead; none for 0 -/
def hexN (v : Nat) : List UInt8 := if h : v = 0 then [] else hexN (v / 16) ++ [UInt8.ofNat (hx (v % 16))]
termination_by v
decreasing_by omega
theorem hexN_zero : hexN 0 = [] := by rw [hexN]; rfl
theorem hexN_pos {v : Nat} (h : v ≠ 0) : hexN v = hexN (v / 16) ++ [UInt8.ofNat (hx (v % 16))] := by rw [hexN, dif_neg h]
theorem hexN_step {v d : Nat} (hd : d < 16) (h : v * 16 + d ≠ 0) : hexN (v * 16 + d) = hexN v ++ [UInt8.ofNat (hx d)] := by
  rw [hexN_pos h, show (v * 16 + d) / 16 = v by omega, show (v * 16 + d) % 16 = d by omega]
theorem hexN_nil {v : Nat} : hexN v = [] ↔ v = 0 := by
  constructor
  · intro h
    by_cases h0 : v = 0
    · exact h0
    · rw [hexN_pos h0] at h; simp at h
  · rintro rfl; exact hexN_zero
theorem hexN_len (k : Nat) : ∀ v, v < 16 ^ k → (hexN v).length ≤ k := by
  induction k with
  | zero => intro v h; have h0 : v = 0 := by simpa using h
            subst h0; rw [hexN_zero]; simp
  | succ k ih =>
    intro v h
    by_cases h0 : v = 0
    · subst h0; rw [hexN_zero]; simp
    · rw [hexN_pos h0, List.length_append, List.length_singleton]
      have := ih (v / 16) (by rw [Nat.pow_succ] at h; omega)
      omega
theorem hexL_succ (u j : Nat) : hexL u (j + 1) = hexL (u / 16) j ++ [UInt8.ofNat (hx (u % 16))] := by
  unfold hexL
  rw [List.range_succ, List.map_append]
  congr 1
  · refine List.map_congr_left fun i hi => ?_
    have : i < j + 1 := List.mem_range.1 hi
    rw [show j + 1 - i = (j - i) + 1 by omega, Nat.pow_succ, Nat.mul_comm, Nat.div_div_eq_div_mul]
  · simp
theorem hexL_zero (u : Nat) : hexL u 0 = [UInt8.ofNat (hx (u % 16))] := by simp [hexL, List.range_succ]
/-- k digits more, behind a number that is not 0 -/
theorem hexN_more (k : Nat) : ∀ v d, v ≠ 0 → d < 16 ^ (k + 1) → hexN (v * 16 ^ (k + 1) + d) = hexN v ++ hexL d k := by
  induction k with
  | zero =>
    intro v d hv hd
    rw [hexL_zero, show (16 : Nat) ^ (0 + 1) = 16 by rfl]
    have hd' : d < 16 := by simpa using hd
    rw [hexN_step hd' (by omega), Nat.mod_eq_of_lt hd']
  | succ k ih =>
    intro v d hv hd
    rw [hexL_succ, ← List.append_assoc, ← ih v (d / 16) hv (by rw [Nat.pow_succ] at hd; omega)]
    have e : v * 16 ^ (k + 1 + 1) + d = (v * 16 ^ (k + 1) + d / 16) * 16 + d % 16 := by
      rw [Nat.pow_succ 16 (k + 1), Nat.add_mul, ← Nat.mul_assoc]
      omega
    rw [e]
    refine hexN_step (by omega) ?_
    have : 0 < v * 16 ^ (k + 1) := Nat.mul_pos (by omega) (Nat.pow_pos (by omega))
    omega
/-- the digits of a number that is not 0, as FormatUint tells them -/
theorem hexL_hexN : ∀ (j u : Nat), u / 16 ^ j < 16 → u ≠ 0 → (j = 0 ∨ 16 ≤ u / 16 ^ (j - 1)) → hexL u j = hexN u
  | 0, u, h, h0, _ => by
    have h' : u < 16 := by simpa using h
    rw [hexL_zero, hexN_pos h0, show u / 16 = 0 by omega, hexN_zero]; rfl
  | j + 1, u, h, h0, h1 => by
    rcases h1 with h1 | h1
    · omega
    · rw [Nat.add_sub_cancel] at h1
      have h2 : 16 ≤ u := Nat.le_trans h1 (Nat.div_le_self _ _)
      rw [hexL_succ, hexN_pos h0, hexL_hexN j (u / 16) (by rw [Nat.div_div_eq_div_mul, Nat.mul_comm, ← Nat.pow_succ]; exact h) (by omega)]
      cases j with
      | zero => exact .inl rfl
      | succ j =>
        refine .inr ?_
        rw [Nat.add_sub_cancel, Nat.div_div_eq_div_mul, Nat.mul_comm, ← Nat.pow_succ]
        exact h1
theorem hexL_lead {u j : Nat} (h : u < 16 ^ (j + 1)) : hexL u (j + 1) = 48 :: hexL u j := by
  unfold hexL
  rw [List.range_succ_eq_map (n := j + 1), List.map_cons, List.map_map]
  congr 1
  · rw [Nat.sub_zero, Nat.div_eq_of_lt h]; rfl
  · refine List.map_congr_left fun i hi => ?_
    simp only [Function.comp]
    rw [show j + 1 - (i + 1) = j - i by omega]
/-- noughts ahead -/
theorem hexL_zeros (k : Nat) : ∀ u j, u < 16 ^ (j + 1) → List.replicate k 48 ++ hexL u j = hexL u (j + k) := by
  induction k with
  | zero => intro u j _; rfl
  | succ k ih =>
    intro u j h
    rw [List.replicate_succ', List.append_assoc, List.singleton_append, ← hexL_lead h, ih u (j + 1) (Nat.lt_of_lt_of_le h (Nat.pow_le_pow_right (by omega) (by omega))), show j + (k + 1) = j + 1 + k by omega]
theorem hexL_wide {u j : Nat} (h : u < 16 ^ (j + 1)) (hj : j ≤ 7) : List.replicate (8 - (hexL u j).length) 48 ++ hexL u j = hexL u 7 := by
  rw [hexL_length, hexL_zeros _ u j h]
  congr 1
  omega
end Go.Proofs.YtmhpicccfaklcaaGreatDoor

/- strings.Repeat of the sign for nought. -/
namespace Go.Proofs.YtmhpicccfaklcaaGreatDoor
set_option linter.unusedVariables false
set_option linter.unusedSimpArgs false
open Go.RowKit

set_option maxHeartbeats 4000000 in
set_option maxRecDepth 200000 in
theorem prefix1_yes (s : ByteArray) (w : World) (h1 : (1 : Int) ≤ (s.size : Int)) (hp : s.extract 0 1 = ⟨#[48]⟩) : Calls Tryz.prog 170 #[.string s, .string ⟨#[48]⟩] w fun e w' => e = .returned (.bool true) ∧ w' = w := by
  go_enter Tryz.func170, Tryz.ntmps170
  go_wp2
  go_ret
  exact ⟨rfl, rfl⟩
set_option maxHeartbeats 4000000 in
set_option maxRecDepth 200000 in
theorem prefix_yes (s : ByteArray) (w : World) (h1 : (1 : Int) ≤ (s.size : Int)) (hp : s.extract 0 1 = ⟨#[48]⟩) : Calls Tryz.prog 119 #[.string s, .string ⟨#[48]⟩] w fun e w' => e = .returned (.bool true) ∧ w' = w := by
  have k := prefix1_yes s w h1 hp
  go_enter Tryz.func119, Tryz.ntmps119
  go_wp2_with fail
  refine k.mono ?_
  rintro r w1 ⟨rfl, rfl⟩
  clear k
  go_wp2
  go_ret
  exact ⟨rfl, rfl⟩
set_option maxHeartbeats 4000000 in
set_option maxRecDepth 200000 in
theorem prefix1_no32 (s : ByteArray) (w : World) (h1 : (1 : Int) ≤ (s.size : Int)) (hp : s.extract 0 1 = ⟨#[32]⟩) : Calls Tryz.prog 170 #[.string s, .string ⟨#[48]⟩] w fun e w' => e = .returned (.bool false) ∧ w' = w := by
  go_enter Tryz.func170, Tryz.ntmps170
  go_wp2
  go_ret
  exact ⟨rfl, rfl⟩
set_option maxHeartbeats 4000000 in
set_option maxRecDepth 200000 in
theorem prefix_no32 (s : ByteArray) (w : World) (h1 : (1 : Int) ≤ (s.size : Int)) (hp : s.extract 0 1 = ⟨#[32]⟩) : Calls Tryz.prog 119 #[.string s, .string ⟨#[48]⟩] w fun e w' => e = .returned (.bool false) ∧ w' = w := by
  have k := prefix1_no32 s w h1 hp
  go_enter Tryz.func119, Tryz.ntmps119
  go_wp2_with fail
  refine k.mono ?_
  rintro r w1 ⟨rfl, rfl⟩
  clear k
  go_wp2
  go_ret
  exact ⟨rfl, rfl⟩
set_option maxHeartbeats 4000000 in
set_option maxRecDepth 200000 in
theorem prefix1_no45 (s : ByteArray) (w : World) (h1 : (1 : Int) ≤ (s.size : Int)) (hp : s.extract 0 1 = ⟨#[45]⟩) : Calls Tryz.prog 170 #[.string s, .string ⟨#[48]⟩] w fun e w' => e = .returned (.bool false) ∧ w' = w := by
  go_enter Tryz.func170, Tryz.ntmps170
  go_wp2
  go_ret
  exact ⟨rfl, rfl⟩
set_option maxHeartbeats 4000000 in
set_option maxRecDepth 200000 in
theorem prefix_no45 (s : ByteArray) (w : World) (h1 : (1 : Int) ≤ (s.size : Int)) (hp : s.extract 0 1 = ⟨#[45]⟩) : Calls Tryz.prog 119 #[.string s, .string ⟨#[48]⟩] w fun e w' => e = .returned (.bool false) ∧ w' = w := by
  have k := prefix1_no45 s w h1 hp
  go_enter Tryz.func119, Tryz.ntmps119
  go_wp2_with fail
  refine k.mono ?_
  rintro r w1 ⟨rfl, rfl⟩
  clear k
  go_wp2
  go_ret
  exact ⟨rfl, rfl⟩
set_option maxHeartbeats 4000000 in
set_option maxRecDepth 200000 in
theorem mul64_2 (w : World) : Calls Tryz.prog 169 #[.int .u64 1, .int .u64 2] w fun e w' => e = .returned (.tuple #[.int .u64 0, .int .u64 2]) ∧ w' = w := by
  go_enter Tryz.func169, Tryz.ntmps169
  go_wp2
  go_ret2
  exact ⟨rfl, rfl⟩
set_option maxHeartbeats 4000000 in
set_option maxRecDepth 200000 in
theorem mul_2 (w : World) : Calls Tryz.prog 118 #[.int .u64 1, .int .u64 2] w fun e w' => e = .returned (.tuple #[.int .u64 0, .int .u64 2]) ∧ w' = w := by
  go_enter Tryz.func118, Tryz.ntmps118
  go_wp2_with fail
  refine (mul64_2 _).mono ?_
  rintro r w1 ⟨rfl, rfl⟩
  go_wp2
  go_ret2
  exact ⟨rfl, rfl⟩
set_option maxHeartbeats 4000000 in
set_option maxRecDepth 200000 in
theorem mul64_3 (w : World) : Calls Tryz.prog 169 #[.int .u64 1, .int .u64 3] w fun e w' => e = .returned (.tuple #[.int .u64 0, .int .u64 3]) ∧ w' = w := by
  go_enter Tryz.func169, Tryz.ntmps169
  go_wp2
  go_ret2
  exact ⟨rfl, rfl⟩
set_option maxHeartbeats 4000000 in
set_option maxRecDepth 200000 in
theorem mul_3 (w : World) : Calls Tryz.prog 118 #[.int .u64 1, .int .u64 3] w fun e w' => e = .returned (.tuple #[.int .u64 0, .int .u64 3]) ∧ w' = w := by
  go_enter Tryz.func118, Tryz.ntmps118
  go_wp2_with fail
  refine (mul64_3 _).mono ?_
  rintro r w1 ⟨rfl, rfl⟩
  go_wp2
  go_ret2
  exact ⟨rfl, rfl⟩
set_option maxHeartbeats 4000000 in
set_option maxRecDepth 200000 in
theorem mul64_4 (w : World) : Calls Tryz.prog 169 #[.int .u64 1, .int .u64 4] w fun e w' => e = .returned (.tuple #[.int .u64 0, .int .u64 4]) ∧ w' = w := by
  go_enter Tryz.func169, Tryz.ntmps169
  go_wp2
  go_ret2
  exact ⟨rfl, rfl⟩
set_option maxHeartbeats 4000000 in
set_option maxRecDepth 200000 in
theorem mul_4 (w : World) : Calls Tryz.prog 118 #[.int .u64 1, .int .u64 4] w fun e w' => e = .returned (.tuple #[.int .u64 0, .int .u64 4]) ∧ w' = w := by
  go_enter Tryz.func118, Tryz.ntmps118
  go_wp2_with fail
  refine (mul64_4 _).mono ?_
  rintro r w1 ⟨rfl, rfl⟩
  go_wp2
  go_ret2
  exact ⟨rfl, rfl⟩
set_option maxHeartbeats 4000000 in
set_option maxRecDepth 200000 in
theorem mul64_5 (w : World) : Calls Tryz.prog 169 #[.int .u64 1, .int .u64 5] w fun e w' => e = .returned (.tuple #[.int .u64 0, .int .u64 5]) ∧ w' = w := by
  go_enter Tryz.func169, Tryz.ntmps169
  go_wp2
  go_ret2
  exact ⟨rfl, rfl⟩
set_option maxHeartbeats 4000000 in
set_option maxRecDepth 200000 in
theorem mul_5 (w : World) : Calls Tryz.prog 118 #[.int .u64 1, .int .u64 5] w fun e w' => e = .returned (.tuple #[.int .u64 0, .int .u64 5]) ∧ w' = w := by
  go_enter Tryz.func118, Tryz.ntmps118
  go_wp2_with fail
  refine (mul64_5 _).mono ?_
  rintro r w1 ⟨rfl, rfl⟩
  go_wp2
  go_ret2
  exact ⟨rfl, rfl⟩
set_option maxHeartbeats 4000000 in
set_option maxRecDepth 200000 in
theorem mul64_6 (w : World) : Calls Tryz.prog 169 #[.int .u64 1, .int .u64 6] w fun e w' => e = .returned (.tuple #[.int .u64 0, .int .u64 6]) ∧ w' = w := by
  go_enter Tryz.func169, Tryz.ntmps169
  go_wp2
  go_ret2
  exact ⟨rfl, rfl⟩
set_option maxHeartbeats 4000000 in
set_option maxRecDepth 200000 in
theorem mul_6 (w : World) : Calls Tryz.prog 118 #[.int .u64 1, .int .u64 6] w fun e w' => e = .returned (.tuple #[.int .u64 0, .int .u64 6]) ∧ w' = w := by
  go_enter Tryz.func118, Tryz.ntmps118
  go_wp2_with fail
  refine (mul64_6 _).mono ?_
  rintro r w1 ⟨rfl, rfl⟩
  go_wp2
  go_ret2
  exact ⟨rfl, rfl⟩
set_option maxHeartbeats 4000000 in
set_option maxRecDepth 200000 in
theorem mul64_7 (w : World) : Calls Tryz.prog 169 #[.int .u64 1, .int .u64 7] w fun e w' => e = .returned (.tuple #[.int .u64 0, .int .u64 7]) ∧ w' = w := by
  go_enter Tryz.func169, Tryz.ntmps169
  go_wp2
  go_ret2
  exact ⟨rfl, rfl⟩
set_option maxHeartbeats 4000000 in
set_option maxRecDepth 200000 in
theorem mul_7 (w : World) : Calls Tryz.prog 118 #[.int .u64 1, .int .u64 7] w fun e w' => e = .returned (.tuple #[.int .u64 0, .int .u64 7]) ∧ w' = w := by
  go_enter Tryz.func118, Tryz.ntmps118
  go_wp2_with fail
  refine (mul64_7 _).mono ?_
  rintro r w1 ⟨rfl, rfl⟩
  go_wp2
  go_ret2
  exact ⟨rfl, rfl⟩
set_option maxHeartbeats 4000000 in
set_option maxRecDepth 200000 in
theorem repeat_0 (w : World) : Calls Tryz.prog 62 #[.string ⟨#[48]⟩, .int .i64 0] w fun e w' => e = .returned (.string ⟨(List.replicate 0 (48 : UInt8)).toArray⟩) ∧ w' = w := by
  go_enter Tryz.func62, Tryz.ntmps62
  go_wp2
  go_ret
  exact ⟨rfl, rfl⟩
set_option maxHeartbeats 4000000 in
set_option maxRecDepth 200000 in
theorem repeat_1 (w : World) : Calls Tryz.prog 62 #[.string ⟨#[48]⟩, .int .i64 1] w fun e w' => e = .returned (.string ⟨(List.replicate 1 (48 : UInt8)).toArray⟩) ∧ w' = w := by
  go_enter Tryz.func62, Tryz.ntmps62
  go_wp2
  go_ret
  exact ⟨rfl, rfl⟩
set_option maxHeartbeats 4000000 in
set_option maxRecDepth 200000 in
theorem repeat_2 (w : World) : Calls Tryz.prog 62 #[.string ⟨#[48]⟩, .int .i64 2] w fun e w' => e = .returned (.string ⟨(List.replicate 2 (48 : UInt8)).toArray⟩) ∧ w' = w := by
  go_enter Tryz.func62, Tryz.ntmps62
  go_wp2_with fail
  refine (mul_2 _).mono ?_
  rintro r w1 ⟨rfl, rfl⟩
  go_wp2_with fail
  refine (prefix_no32 _ _ (by decide) (by rfl)).mono ?_
  rintro r w1 ⟨rfl, rfl⟩
  go_wp2_with fail
  refine (prefix_no45 _ _ (by decide) (by rfl)).mono ?_
  rintro r w1 ⟨rfl, rfl⟩
  go_wp2_with fail
  refine (prefix_yes _ _ (by decide) (by rfl)).mono ?_
  rintro r w1 ⟨rfl, rfl⟩
  go_wp2
  go_ret
  exact ⟨rfl, rfl⟩
set_option maxHeartbeats 4000000 in
set_option maxRecDepth 200000 in
theorem repeat_3 (w : World) : Calls Tryz.prog 62 #[.string ⟨#[48]⟩, .int .i64 3] w fun e w' => e = .returned (.string ⟨(List.replicate 3 (48 : UInt8)).toArray⟩) ∧ w' = w := by
  go_enter Tryz.func62, Tryz.ntmps62
  go_wp2_with fail
  refine (mul_3 _).mono ?_
  rintro r w1 ⟨rfl, rfl⟩
  go_wp2_with fail
  refine (prefix_no32 _ _ (by decide) (by rfl)).mono ?_
  rintro r w1 ⟨rfl, rfl⟩
  go_wp2_with fail
  refine (prefix_no45 _ _ (by decide) (by rfl)).mono ?_
  rintro r w1 ⟨rfl, rfl⟩
  go_wp2_with fail
  refine (prefix_yes _ _ (by decide) (by rfl)).mono ?_
  rintro r w1 ⟨rfl, rfl⟩
  go_wp2
  go_ret
  exact ⟨rfl, rfl⟩
set_option maxHeartbeats 4000000 in
set_option maxRecDepth 200000 in
theorem repeat_4 (w : World) : Calls Tryz.prog 62 #[.string ⟨#[48]⟩, .int .i64 4] w fun e w' => e = .returned (.string ⟨(List.replicate 4 (48 : UInt8)).toArray⟩) ∧ w' = w := by
  go_enter Tryz.func62, Tryz.ntmps62
  go_wp2_with fail
  refine (mul_4 _).mono ?_
  rintro r w1 ⟨rfl, rfl⟩
  go_wp2_with fail
  refine (prefix_no32 _ _ (by decide) (by rfl)).mono ?_
  rintro r w1 ⟨rfl, rfl⟩
  go_wp2_with fail
  refine (prefix_no45 _ _ (by decide) (by rfl)).mono ?_
  rintro r w1 ⟨rfl, rfl⟩
  go_wp2_with fail
  refine (prefix_yes _ _ (by decide) (by rfl)).mono ?_
  rintro r w1 ⟨rfl, rfl⟩
  go_wp2
  go_ret
  exact ⟨rfl, rfl⟩
set_option maxHeartbeats 4000000 in
set_option maxRecDepth 200000 in
theorem repeat_5 (w : World) : Calls Tryz.prog 62 #[.string ⟨#[48]⟩, .int .i64 5] w fun e w' => e = .returned (.string ⟨(List.replicate 5 (48 : UInt8)).toArray⟩) ∧ w' = w := by
  go_enter Tryz.func62, Tryz.ntmps62
  go_wp2_with fail
  refine (mul_5 _).mono ?_
  rintro r w1 ⟨rfl, rfl⟩
  go_wp2_with fail
  refine (prefix_no32 _ _ (by decide) (by rfl)).mono ?_
  rintro r w1 ⟨rfl, rfl⟩
  go_wp2_with fail
  refine (prefix_no45 _ _ (by decide) (by rfl)).mono ?_
  rintro r w1 ⟨rfl, rfl⟩
  go_wp2_with fail
  refine (prefix_yes _ _ (by decide) (by rfl)).mono ?_
  rintro r w1 ⟨rfl, rfl⟩
  go_wp2
  go_ret
  exact ⟨rfl, rfl⟩
set_option maxHeartbeats 4000000 in
set_option maxRecDepth 200000 in
theorem repeat_6 (w : World) : Calls Tryz.prog 62 #[.string ⟨#[48]⟩, .int .i64 6] w fun e w' => e = .returned (.string ⟨(List.replicate 6 (48 : UInt8)).toArray⟩) ∧ w' = w := by
  go_enter Tryz.func62, Tryz.ntmps62
  go_wp2_with fail
  refine (mul_6 _).mono ?_
  rintro r w1 ⟨rfl, rfl⟩
  go_wp2_with fail
  refine (prefix_no32 _ _ (by decide) (by rfl)).mono ?_
  rintro r w1 ⟨rfl, rfl⟩
  go_wp2_with fail
  refine (prefix_no45 _ _ (by decide) (by rfl)).mono ?_
  rintro r w1 ⟨rfl, rfl⟩
  go_wp2_with fail
  refine (prefix_yes _ _ (by decide) (by rfl)).mono ?_
  rintro r w1 ⟨rfl, rfl⟩
  go_wp2
  go_ret
  exact ⟨rfl, rfl⟩
set_option maxHeartbeats 4000000 in
set_option maxRecDepth 200000 in
theorem repeat_7 (w : World) : Calls Tryz.prog 62 #[.string ⟨#[48]⟩, .int .i64 7] w fun e w' => e = .returned (.string ⟨(List.replicate 7 (48 : UInt8)).toArray⟩) ∧ w' = w := by
  go_enter Tryz.func62, Tryz.ntmps62
  go_wp2_with fail
  refine (mul_7 _).mono ?_
  rintro r w1 ⟨rfl, rfl⟩
  go_wp2_with fail
  refine (prefix_no32 _ _ (by decide) (by rfl)).mono ?_
  rintro r w1 ⟨rfl, rfl⟩
  go_wp2_with fail
  refine (prefix_no45 _ _ (by decide) (by rfl)).mono ?_
  rintro r w1 ⟨rfl, rfl⟩
  go_wp2_with fail
  refine (prefix_yes _ _ (by decide) (by rfl)).mono ?_
  rintro r w1 ⟨rfl, rfl⟩
  go_wp2
  go_ret
  exact ⟨rfl, rfl⟩
theorem repeat0 (c : Nat) (hc : c ≤ 7) (w : World) : Calls Tryz.prog 62 #[.string ⟨#[48]⟩, .int .i64 (c : Int)] w fun e w' => e = .returned (.string ⟨(List.replicate c (48 : UInt8)).toArray⟩) ∧ w' = w := by
  rcases (by omega : c = 0 ∨ c = 1 ∨ c = 2 ∨ c = 3 ∨ c = 4 ∨ c = 5 ∨ c = 6 ∨ c = 7) with h | h | h | h | h | h | h | h <;> subst h
  · exact repeat_0 w
  · exact repeat_1 w
  · exact repeat_2 w
  · exact repeat_3 w
  · exact repeat_4 w
  · exact repeat_5 w
  · exact repeat_6 w
  · exact repeat_7 w
end Go.Proofs.YtmhpicccfaklcaaGreatDoor

/- Show, of any number. -/
namespace Go.Proofs.YtmhpicccfaklcaaGreatDoor
set_option linter.unusedVariables false
set_option linter.unusedSimpArgs false
open Go.RowKit

theorem div_B (x j : Nat) : x / B ^ j = (x / B ^ (j + 1)) * B + dg x j := by
  unfold dg
  rw [Nat.pow_succ, ← Nat.div_div_eq_div_mul, Nat.mul_comm]
  exact (Nat.div_add_mod _ _).symm
theorem hexN_dg {x j : Nat} (h : x / B ^ (j + 1) ≠ 0) : hexN (x / B ^ j) = hexN (x / B ^ (j + 1)) ++ hexL (dg x j) 7 := by
  rw [div_B, show B = 16 ^ (7 + 1) from rfl]
  exact hexN_more 7 _ _ h (dg_lt x j)
theorem div_top {x m : Nat} (h : dlen x = m + 1) : x / B ^ m = dg x m ∧ dg x m ≠ 0 := by
  have h1 : x < B ^ (m + 1) := (dlen_le (m + 1) x).1 (by omega)
  have h2 : x / B ^ m < B := by rw [Nat.pow_succ] at h1; exact Nat.div_lt_of_lt_mul h1
  refine ⟨(Nat.mod_eq_of_lt h2).symm, ?_⟩
  have := dg_top (x := x) (by rintro rfl; rw [dlen_zero] at h; omega)
  rw [h] at this
  exact this
theorem bc_len (l : List UInt8) : (Lib.byteCells l).length = l.length := by simp [Lib.byteCells]
theorem div_ne {x m j : Nat} (h : dlen x = m + 1) (hj : j ≤ m) : x / B ^ j ≠ 0 := by
  have h1 := div_top h
  have h2 : x / B ^ m ≤ x / B ^ j := Nat.div_le_div_left (Nat.pow_le_pow_right B_pos hj) (Nat.pow_pos B_pos)
  omega
theorem hexN_dlen {x n : Nat} (h : dlen x ≤ n) (j : Nat) : (hexN (x / B ^ j)).length ≤ 8 * n := by
  refine hexN_len _ _ ?_
  have h1 : x < B ^ n := (dlen_le n x).1 h
  have e : B ^ n = 16 ^ (8 * n) := by rw [Nat.pow_mul]; rfl
  rw [← e]
  exact Nat.lt_of_le_of_lt (Nat.div_le_self _ _) h1
/-- FormatUint's text, at base 16 -/
theorem fmt16 (u : Nat) (w : World) (hT : Ie.Tab w) (hu : u < 4294967296) :
    Calls Tryz.prog 61 #[.int .u64 u, .int .i64 16] w fun e w' => ∃ s : ByteArray, e = .returned (.string s) ∧ (1 ≤ s.size ∧ s.size ≤ 8) ∧ Hid (∃ L : List UInt8, s = ⟨L.toArray⟩ ∧ (u ≠ 0 → L = hexN u) ∧ List.replicate (8 - L.length) 48 ++ L = hexL u 7) ∧ Below w.heap.size w w' := by
  refine (c81 u w hT hu).mono ?_
  rintro e w' ⟨j, h1, h2, rfl, hb⟩
  have hj : j ≤ 7 := by
    rcases h2 with h2 | h2
    · omega
    · refine Nat.le_of_not_lt fun h7 => ?_
      have h3 : 16 ^ 7 ≤ 16 ^ (j - 1) := Nat.pow_le_pow_right (by omega) (by omega)
      have h4 : u / 16 ^ (j - 1) ≤ u / 16 ^ 7 := Nat.div_le_div_left h3 (by omega)
      have : u / 16 ^ 7 < 16 := by omega
      omega
  have hl : u < 16 ^ (j + 1) := by
    have := (Nat.div_lt_iff_lt_mul (Nat.pow_pos (by omega) : 0 < 16 ^ j)).1 h1
    rw [Nat.pow_succ, Nat.mul_comm]
    exact this
  refine ⟨_, rfl, by simp [ByteArray.size, hexL_length]; omega, ⟨hexL u j, rfl, fun h0 => hexL_hexN j u h1 h0 h2, hexL_wide hl hj⟩, hb⟩
set_option maxHeartbeats 4000000 in
set_option maxRecDepth 200000 in
theorem show_pos (b o uc m x : Nat) (ea : Int) (T : List UInt8) (w : World) (hcell : ∀ i, i < m + 1 → w.cell? ⟨b, o + i, none⟩ = some (.int .u32 (dg x i : Nat))) (hx : dlen x = m + 1) (hm : m ≤ 100000) (hT : T.length ≤ 1000) (huc : m + 1 ≤ uc) (hI : Ie.Tab w)
    (k43 : ∀ W g, Below w.heap.size w W → W.heap[g]? = some (.cells #[.bool false, .slice (some ⟨b, o, none⟩) (m + 1) uc, .int .i64 ea] 25 (0, 0)) → Calls Tryz.prog 47 #[.slice (some ⟨g, 0, none⟩) 1 1] W fun r w' => r = .returned (.bool true) ∧ Below W.heap.size W w')
    (k74 : ∀ W, Below w.heap.size w W → Calls Tryz.prog 63 #[.int .i64 ea] W fun e w' => e = .returned (.string ⟨T.toArray⟩) ∧ Below W.heap.size W w') :
    Calls Tryz.prog 25 #[.agg #[.bool false, .slice (some ⟨b, o, none⟩) (m + 1) uc, .int .i64 ea]] w fun e w' => e = .returned (.string ⟨([] ++ hexN x ++ 112 :: T).toArray⟩) ∧ Below w.heap.size w w' := by
  obtain ⟨W, hW⟩ : ∃ W, W = w.alloc (.cells #[.bool false, .slice (some ⟨b, o, none⟩) (m + 1) uc, .int .i64 ea] 25) := ⟨_, rfl⟩
  have hBW : Below w.heap.size w W := by rw [hW]; exact (Below.refl _ _).alloc (Nat.le_refl _) _
  have hsz : W.heap.size = w.heap.size + 1 := by rw [hW]; simp
  have hbx : W.heap[w.heap.size]? = some (.cells #[.bool false, .slice (some ⟨b, o, none⟩) (m + 1) uc, .int .i64 ea] 25 (0, 0)) := by rw [hW]; exact heap_alloc_new _ _
  have HX : Hid (Below w.heap.size w W) := hBW
  have HCL : Hid (∀ W', Below W.heap.size W W' → (W'.cell? ⟨w.heap.size, 0, none⟩ = some (.bool false) ∧ W'.cell? ⟨w.heap.size, 1, none⟩ = some (.slice (some ⟨b, o, none⟩) (m + 1) uc) ∧ W'.cell? ⟨w.heap.size, 2, none⟩ = some (.int .i64 ea)) ∧ (∀ i, i < m + 1 → W'.cell? ⟨b, o + i, none⟩ = some (.int .u32 (dg x i : Nat))) ∧ Below w.heap.size w W' ∧ Ie.Tab W') := fun W' h =>
    ⟨(box_cells (box_later hbx h (by omega))).1, fun i hi => by
      have hc := hcell i hi
      have hlt : b < w.heap.size := World.block_lt_of_cell? _ _ hc
      exact ((h.cell (p := ⟨b, o + i, none⟩) (by show b < W.heap.size; omega)).trans (hBW.cell hlt)).trans hc, hBW.trans (h.mono hBW.size), Tab.later hI (hBW.trans (h.mono hBW.size))⟩
  have k1 := k43 (W.alloc (.cells #[.bool false, .slice (some ⟨b, o, none⟩) (m + 1) uc, .int .i64 ea] 25)) (w.heap.size + 1) (hBW.alloc hBW.size _) (by rw [← hsz]; exact heap_alloc_new _ _)
  have HK74 : Hid (∀ W, Below w.heap.size w W → Calls Tryz.prog 63 #[.int .i64 ea] W fun e w' => e = .returned (.string ⟨T.toArray⟩) ∧ Below W.heap.size W w') := k74
  have HL : Hid (T.length ≤ 1000 ∧ dlen x = m + 1 ∧ m ≤ 100000) := ⟨hT, hx, hm⟩
  have HDg : Hid (∀ i, dg x i < 4294967296) := fun i => dg_lt x i
  have hdw : IntKind.u64.wrap (dg x m : Int) = (dg x m : Int) := by have := HDg.out m; rw [IntKind.wrap_u64]; omega
  clear hBW hsz hbx hcell k43 k74 hT hI hx
  go_enter Tryz.func25, Tryz.ntmps25
  go_wp2_with fail
  rw [← hW]
  clear hW
  refine k1.mono ?_
  rintro r w1 ⟨rfl, hb1⟩
  clear k1
  have HB1 : Hid (Below W.heap.size W w1) := ((Below.refl W.heap.size W).alloc (Nat.le_refl _) _).trans (hb1.mono (by simp))
  clear hb1
  obtain ⟨⟨x0, x1, x2⟩, x3, -⟩ := HCL.out w1 HB1.out
  have x4 := x3 m (by omega)
  clear x3
  obtain ⟨W2, hW2⟩ : ∃ W2, W2 = w1.alloc (.cells #[.pointer none, .slice none 0 0] 72) := ⟨_, rfl⟩
  have HD0 : Hid (Bd w1.heap.size w1.heap.size (Lib.byteCells []) W2 ∧ Below w1.heap.size w1 W2) := ⟨by rw [hW2]; exact Bd.new w1, by rw [hW2]; exact (Below.refl _ _).alloc (Nat.le_refl _) _⟩
  obtain ⟨⟨y0, y1, y2⟩, y3, y4, y5⟩ := HCL.out W2 (HB1.out.trans (HD0.out.2.mono HB1.out.size))
  have y6 := y3 m (by omega)
  have k3 := fmt16 (dg x m) W2 y5 (HDg.out m)
  clear y3 y4 y5
  rw [hW2] at y0 y1 y2 y6
  go_wp2_with fail
  rw [← hW2]
  clear hW2
  refine k3.mono ?_
  rintro r w3 ⟨s3, rfl, hs3, hL3, hb3⟩
  have HD3 : Hid (Bd w1.heap.size w1.heap.size (Lib.byteCells []) w3 ∧ Below w1.heap.size w1 w3) := ⟨HD0.out.1.later hb3, HD0.out.2.trans (hb3.mono HD0.out.2.size)⟩
  clear k3 hb3 y0 y1 y2 y6 x0 x1 x2 x4
  have k4 := c71 s3 HD3.out.1 (by simp [Lib.byteCells]; omega) HD3.out.2.size
  go_wp2_with fail
  refine k4.mono ?_
  rintro r w4 ⟨rfl, hd4, hb4⟩
  have HD4 : Hid (Bd w1.heap.size w1.heap.size (Lib.byteCells ([] ++ hexN (x / B ^ m))) w4 ∧ Below w1.heap.size w1 w4) := ⟨by
    obtain ⟨L, hL, hL1, -⟩ := hL3.out
    have h5 := div_top HL.out.2.1
    rw [h5.1, ← hL1 h5.2]
    rw [hL] at hd4
    have e : Lib.byteCells [] ++ Lib.strCells ⟨L.toArray⟩ = Lib.byteCells ([] ++ L) := by simp [Lib.byteCells, Lib.strCells]
    rwa [e] at hd4, HD3.out.2.trans hb4⟩
  clear k4 hd4 hb4 hL3 hs3
  go_wp2_with fail
  go_loopw [5] (fun v wr => ∃ j : Nat, v = .int .i64 ((j : Int) - 1) ∧ j ≤ m ∧ Hid (Bd w1.heap.size w1.heap.size (Lib.byteCells ([] ++ hexN (x / B ^ j))) wr ∧ Below w1.heap.size w1 wr)) (fun v _ => (intOf v + 1).toNat)
  case atStart => exact ⟨m, rfl, by omega, HD4.out⟩
  case round =>
    obtain ⟨j, rfl, hj, HD⟩ := hrel
    clear HD4 HD3 HD0 
    by_cases hj0 : j = 0
    · subst hj0
      have HD4 : Hid (Bd w1.heap.size w1.heap.size (Lib.byteCells ([] ++ hexN x)) wr ∧ Below w1.heap.size w1 wr) := by have := HD.out; rw [Nat.pow_zero, Nat.div_one] at this; exact this
      have hlen : (hexN x).length ≤ 900000 := by have := hexN_dlen (x := x) (n := m + 1) (by have := HL.out.2.1; omega) 0; rw [Nat.pow_zero, Nat.div_one] at this; omega
      have HLN : Hid ((hexN x).length ≤ 900000) := hlen
      clear HD hlen
      have k5 := c70 112 HD4.out.1 (by have := HLN.out; simp [Lib.byteCells]; omega) HD4.out.2.size
      go_wp2_with fail
      refine k5.mono ?_
      rintro r w5 ⟨rfl, hd5, hb5⟩
      have HD5 : Hid (Bd w1.heap.size w1.heap.size (Lib.byteCells ([] ++ hexN x) ++ [.int .u8 112]) w5 ∧ Below w1.heap.size w1 w5) := ⟨hd5, HD4.out.2.trans hb5⟩
      clear k5 hd5 hb5
      obtain ⟨⟨z0, z1, z2⟩, z3, z4, -⟩ := HCL.out w5 (HB1.out.trans (HD5.out.2.mono HB1.out.size))
      have k6 := HK74.out w5 z4
      clear z3 z4
      go_wp2_with fail
      refine k6.mono ?_
      rintro r w6 ⟨rfl, hb6⟩
      have HD6 : Hid (Bd w1.heap.size w1.heap.size (Lib.byteCells ([] ++ hexN x) ++ [.int .u8 112]) w6 ∧ Below w1.heap.size w1 w6) := ⟨HD5.out.1.later hb6, HD5.out.2.trans (hb6.mono HD5.out.2.size)⟩
      clear k6 hb6
      have k7 := c71 ⟨T.toArray⟩ HD6.out.1 (by have := HLN.out; have := HL.out.1; simp [Lib.byteCells, ByteArray.size]; omega) HD6.out.2.size
      go_wp2_with fail
      refine k7.mono ?_
      rintro r w7 ⟨rfl, hd7, hb7⟩
      have e7 : Lib.byteCells ([] ++ hexN x) ++ [.int .u8 112] ++ Lib.strCells ⟨T.toArray⟩ = Lib.byteCells ([] ++ hexN x ++ 112 :: T) := by simp [Lib.byteCells, Lib.strCells]
      rw [e7] at hd7
      have HB7 : Hid (Below w1.heap.size w1 w7) := HD6.out.2.trans hb7
      have k8 := Tryz.Builder_String _ _ _ _ hd7 (by simp)
      clear k7 hd7 hb7
      obtain ⟨R, hR⟩ : ∃ R : ByteArray, R = ⟨([] ++ hexN x ++ 112 :: T).toArray⟩ := ⟨_, rfl⟩
      rw [← hR] at k8
      go_wp2_with fail
      refine k8.mono ?_
      rintro r w8 ⟨rfl, hb8⟩
      have HB8 : Hid (Below w.heap.size w w8) := (HCL.out w8 (HB1.out.trans ((HB7.out.trans hb8).mono HB1.out.size))).2.2.1
      have HR : Hid (R = ⟨([] ++ hexN x ++ 112 :: T).toArray⟩) := hR
      clear k8 hb8 hR
      go_wp2_with fail
      go_ret
      exact ⟨congrArg (fun q => Ending.returned (Value.string q)) HR.out, HB8.out⟩
    · obtain ⟨k, rfl⟩ : ∃ k, j = k + 1 := ⟨j - 1, by omega⟩
      rw [show ((k + 1 : Nat) : Int) - 1 = (k : Int) by omega]
      clear hj0
      obtain ⟨⟨y0, y1, y2⟩, y3, -, y5⟩ := HCL.out wr (HB1.out.trans (HD.out.2.mono HB1.out.size))
      have y6 := y3 k (by omega)
      have k3 := fmt16 (dg x k) wr y5 (HDg.out k)
      obtain ⟨LH, hLH⟩ : ∃ L : List UInt8, L = hexN (x / B ^ (k + 1)) := ⟨_, rfl⟩
      have hlen : LH.length ≤ 900000 := by have h8 := hexN_dlen (x := x) (n := m + 1) (by have := HL.out.2.1; omega) (k + 1); rw [← hLH] at h8; omega
      rw [← hLH] at HD
      have HLH : Hid (LH = hexN (x / B ^ (k + 1))) := hLH
      clear hLH
      clear y3 y5 hdw
      have hdw : IntKind.u64.wrap (dg x k : Int) = (dg x k : Int) := by have := HDg.out k; rw [IntKind.wrap_u64]; omega
      go_wp2_with fail
      refine k3.mono ?_
      rintro r w5 ⟨s5, rfl, hs5, hL5, hb5⟩
      have HD5 : Hid (Bd w1.heap.size w1.heap.size (Lib.byteCells ([] ++ LH)) w5 ∧ Below w1.heap.size w1 w5) := ⟨HD.out.1.later hb5, HD.out.2.trans (hb5.mono HD.out.2.size)⟩
      clear k3 hb5 y0 y1 y2 y6 HD
      obtain ⟨c5, hc5⟩ : ∃ c : Nat, c = 8 - s5.size := ⟨_, rfl⟩
      have hw5 : (8 : Int) - (s5.size : Int) = (c5 : Int) := by omega
      have hc7 : c5 ≤ 7 := by omega
      have HC5 : Hid (c5 = 8 - s5.size) := hc5
      clear hc5
      obtain ⟨z5, hz5⟩ : ∃ z : ByteArray, z = ⟨(List.replicate c5 (48 : UInt8)).toArray⟩ := ⟨_, rfl⟩
      have kr := repeat0 c5 hc7 w5
      rw [← hz5] at kr
      have hzs : z5.size = c5 := by rw [hz5]; simp [ByteArray.size]
      have HZ5 : Hid (z5 = ⟨(List.replicate c5 (48 : UInt8)).toArray⟩) := hz5
      clear hz5
      go_wp2_with fail
      refine kr.mono ?_
      rintro r w6 ⟨rfl, rfl⟩
      have k7 := c71 z5 HD5.out.1 (by rw [bc_len, List.length_append]; simp only [List.length_nil, List.length_cons]; omega) HD5.out.2.size
      clear kr
      go_wp2_with fail
      refine k7.mono ?_
      rintro r w7 ⟨rfl, hd7, hb7⟩
      have HD7 : Hid (Bd w1.heap.size w1.heap.size (Lib.byteCells ([] ++ LH) ++ Lib.strCells z5) w7 ∧ Below w1.heap.size w1 w7) := ⟨hd7, HD5.out.2.trans hb7⟩
      clear k7 hd7 hb7
      have k8 := c71 s5 HD7.out.1 (by rw [List.length_append, bc_len, List.length_append, Lib.strCells_length]; simp only [List.length_nil, List.length_cons]; omega) HD7.out.2.size
      go_wp2_with fail
      refine k8.mono ?_
      rintro r w8 ⟨rfl, hd8, hb8⟩
      have HD8 : Hid (Bd w1.heap.size w1.heap.size (Lib.byteCells ([] ++ hexN (x / B ^ k))) w8 ∧ Below w1.heap.size w1 w8) := ⟨by
        obtain ⟨L, hL, -, hL2⟩ := hL5.out
        rw [hexN_dg (div_ne HL.out.2.1 hj), ← hL2, ← HLH.out]
        have hcl : c5 = 8 - L.length := by have := HC5.out; rw [hL] at this; simpa [ByteArray.size] using this
        rw [← hcl]
        rw [hL, HZ5.out] at hd8
        have e : Lib.byteCells ([] ++ LH) ++ Lib.strCells ⟨(List.replicate c5 (48 : UInt8)).toArray⟩ ++ Lib.strCells ⟨L.toArray⟩ = Lib.byteCells ([] ++ (LH ++ (List.replicate c5 48 ++ L))) := by simp [Lib.byteCells, Lib.strCells]
        rwa [e] at hd8, HD7.out.2.trans hb8⟩
      clear k8 hd8 hb8 hL5 HD7 HD5
      go_wp2
      exact ⟨⟨k, by simp, by omega, HD8⟩, by simp [intOf]⟩
set_option maxHeartbeats 4000000 in
set_option maxRecDepth 200000 in
theorem show_neg (b o uc m x : Nat) (ea : Int) (T : List UInt8) (w : World) (hcell : ∀ i, i < m + 1 → w.cell? ⟨b, o + i, none⟩ = some (.int .u32 (dg x i : Nat))) (hx : dlen x = m + 1) (hm : m ≤ 100000) (hT : T.length ≤ 1000) (huc : m + 1 ≤ uc) (hI : Ie.Tab w)
    (k43 : ∀ W g, Below w.heap.size w W → W.heap[g]? = some (.cells #[.bool true, .slice (some ⟨b, o, none⟩) (m + 1) uc, .int .i64 ea] 25 (0, 0)) → Calls Tryz.prog 47 #[.slice (some ⟨g, 0, none⟩) 1 1] W fun r w' => r = .returned (.bool true) ∧ Below W.heap.size W w')
    (k74 : ∀ W, Below w.heap.size w W → Calls Tryz.prog 63 #[.int .i64 ea] W fun e w' => e = .returned (.string ⟨T.toArray⟩) ∧ Below W.heap.size W w') :
    Calls Tryz.prog 25 #[.agg #[.bool true, .slice (some ⟨b, o, none⟩) (m + 1) uc, .int .i64 ea]] w fun e w' => e = .returned (.string ⟨([45] ++ hexN x ++ 112 :: T).toArray⟩) ∧ Below w.heap.size w w' := by
  obtain ⟨W, hW⟩ : ∃ W, W = w.alloc (.cells #[.bool true, .slice (some ⟨b, o, none⟩) (m + 1) uc, .int .i64 ea] 25) := ⟨_, rfl⟩
  have hBW : Below w.heap.size w W := by rw [hW]; exact (Below.refl _ _).alloc (Nat.le_refl _) _
  have hsz : W.heap.size = w.heap.size + 1 := by rw [hW]; simp
  have hbx : W.heap[w.heap.size]? = some (.cells #[.bool true, .slice (some ⟨b, o, none⟩) (m + 1) uc, .int .i64 ea] 25 (0, 0)) := by rw [hW]; exact heap_alloc_new _ _
  have HX : Hid (Below w.heap.size w W) := hBW
  have HCL : Hid (∀ W', Below W.heap.size W W' → (W'.cell? ⟨w.heap.size, 0, none⟩ = some (.bool true) ∧ W'.cell? ⟨w.heap.size, 1, none⟩ = some (.slice (some ⟨b, o, none⟩) (m + 1) uc) ∧ W'.cell? ⟨w.heap.size, 2, none⟩ = some (.int .i64 ea)) ∧ (∀ i, i < m + 1 → W'.cell? ⟨b, o + i, none⟩ = some (.int .u32 (dg x i : Nat))) ∧ Below w.heap.size w W' ∧ Ie.Tab W') := fun W' h =>
    ⟨(box_cells (box_later hbx h (by omega))).1, fun i hi => by
      have hc := hcell i hi
      have hlt : b < w.heap.size := World.block_lt_of_cell? _ _ hc
      exact ((h.cell (p := ⟨b, o + i, none⟩) (by show b < W.heap.size; omega)).trans (hBW.cell hlt)).trans hc, hBW.trans (h.mono hBW.size), Tab.later hI (hBW.trans (h.mono hBW.size))⟩
  have k1 := k43 (W.alloc (.cells #[.bool true, .slice (some ⟨b, o, none⟩) (m + 1) uc, .int .i64 ea] 25)) (w.heap.size + 1) (hBW.alloc hBW.size _) (by rw [← hsz]; exact heap_alloc_new _ _)
  have HK74 : Hid (∀ W, Below w.heap.size w W → Calls Tryz.prog 63 #[.int .i64 ea] W fun e w' => e = .returned (.string ⟨T.toArray⟩) ∧ Below W.heap.size W w') := k74
  have HL : Hid (T.length ≤ 1000 ∧ dlen x = m + 1 ∧ m ≤ 100000) := ⟨hT, hx, hm⟩
  have HDg : Hid (∀ i, dg x i < 4294967296) := fun i => dg_lt x i
  have hdw : IntKind.u64.wrap (dg x m : Int) = (dg x m : Int) := by have := HDg.out m; rw [IntKind.wrap_u64]; omega
  clear hBW hsz hbx hcell k43 k74 hT hI hx
  go_enter Tryz.func25, Tryz.ntmps25
  go_wp2_with fail
  rw [← hW]
  clear hW
  refine k1.mono ?_
  rintro r w1 ⟨rfl, hb1⟩
  clear k1
  have HB1 : Hid (Below W.heap.size W w1) := ((Below.refl W.heap.size W).alloc (Nat.le_refl _) _).trans (hb1.mono (by simp))
  clear hb1
  obtain ⟨⟨x0, x1, x2⟩, x3, -⟩ := HCL.out w1 HB1.out
  have x4 := x3 m (by omega)
  clear x3
  obtain ⟨W2, hW2⟩ : ∃ W2, W2 = w1.alloc (.cells #[.pointer none, .slice none 0 0] 72) := ⟨_, rfl⟩
  have HD0 : Hid (Bd w1.heap.size w1.heap.size (Lib.byteCells []) W2 ∧ Below w1.heap.size w1 W2) := ⟨by rw [hW2]; exact Bd.new w1, by rw [hW2]; exact (Below.refl _ _).alloc (Nat.le_refl _) _⟩
  obtain ⟨⟨y0, y1, y2⟩, -⟩ := HCL.out W2 (HB1.out.trans (HD0.out.2.mono HB1.out.size))
  rw [hW2] at y0 y1 y2
  have k2 := c70 45 HD0.out.1 (by simp [Lib.byteCells]) HD0.out.2.size
  rw [show Lib.byteCells [] ++ [Value.int .u8 45] = Lib.byteCells [45] from rfl] at k2
  rw [hW2] at k2
  go_wp2_with fail
  refine k2.mono ?_
  rintro r w2 ⟨rfl, hd2, hb2⟩
  rw [← hW2] at hb2
  have HD2 : Hid (Bd w1.heap.size w1.heap.size (Lib.byteCells [45]) w2 ∧ Below w1.heap.size w1 w2) := ⟨hd2, HD0.out.2.trans hb2⟩
  clear k2 hd2 hb2 hW2 y0 y1 y2
  obtain ⟨⟨y0, y1, y2⟩, y3, y4, y5⟩ := HCL.out w2 (HB1.out.trans (HD2.out.2.mono HB1.out.size))
  have y6 := y3 m (by omega)
  have k3 := fmt16 (dg x m) w2 y5 (HDg.out m)
  clear y3 y4 y5
  go_wp2_with fail
  refine k3.mono ?_
  rintro r w3 ⟨s3, rfl, hs3, hL3, hb3⟩
  have HD3 : Hid (Bd w1.heap.size w1.heap.size (Lib.byteCells [45]) w3 ∧ Below w1.heap.size w1 w3) := ⟨HD2.out.1.later hb3, HD2.out.2.trans (hb3.mono HD2.out.2.size)⟩
  clear k3 hb3 y0 y1 y2 y6 x0 x1 x2 x4
  have k4 := c71 s3 HD3.out.1 (by simp [Lib.byteCells]; omega) HD3.out.2.size
  go_wp2_with fail
  refine k4.mono ?_
  rintro r w4 ⟨rfl, hd4, hb4⟩
  have HD4 : Hid (Bd w1.heap.size w1.heap.size (Lib.byteCells ([45] ++ hexN (x / B ^ m))) w4 ∧ Below w1.heap.size w1 w4) := ⟨by
    obtain ⟨L, hL, hL1, -⟩ := hL3.out
    have h5 := div_top HL.out.2.1
    rw [h5.1, ← hL1 h5.2]
    rw [hL] at hd4
    have e : Lib.byteCells [45] ++ Lib.strCells ⟨L.toArray⟩ = Lib.byteCells ([45] ++ L) := by simp [Lib.byteCells, Lib.strCells]
    rwa [e] at hd4, HD3.out.2.trans hb4⟩
  clear k4 hd4 hb4 hL3 hs3
  go_wp2_with fail
  go_loopw [5] (fun v wr => ∃ j : Nat, v = .int .i64 ((j : Int) - 1) ∧ j ≤ m ∧ Hid (Bd w1.heap.size w1.heap.size (Lib.byteCells ([45] ++ hexN (x / B ^ j))) wr ∧ Below w1.heap.size w1 wr)) (fun v _ => (intOf v + 1).toNat)
  case atStart => exact ⟨m, rfl, by omega, HD4.out⟩
  case round =>
    obtain ⟨j, rfl, hj, HD⟩ := hrel
    clear HD4 HD3 HD2 HD0
    by_cases hj0 : j = 0
    · subst hj0
      have HD4 : Hid (Bd w1.heap.size w1.heap.size (Lib.byteCells ([45] ++ hexN x)) wr ∧ Below w1.heap.size w1 wr) := by have := HD.out; rw [Nat.pow_zero, Nat.div_one] at this; exact this
      have hlen : (hexN x).length ≤ 900000 := by have := hexN_dlen (x := x) (n := m + 1) (by have := HL.out.2.1; omega) 0; rw [Nat.pow_zero, Nat.div_one] at this; omega
      have HLN : Hid ((hexN x).length ≤ 900000) := hlen
      clear HD hlen
      have k5 := c70 112 HD4.out.1 (by have := HLN.out; simp [Lib.byteCells]; omega) HD4.out.2.size
      go_wp2_with fail
      refine k5.mono ?_
      rintro r w5 ⟨rfl, hd5, hb5⟩
      have HD5 : Hid (Bd w1.heap.size w1.heap.size (Lib.byteCells ([45] ++ hexN x) ++ [.int .u8 112]) w5 ∧ Below w1.heap.size w1 w5) := ⟨hd5, HD4.out.2.trans hb5⟩
      clear k5 hd5 hb5
      obtain ⟨⟨z0, z1, z2⟩, z3, z4, -⟩ := HCL.out w5 (HB1.out.trans (HD5.out.2.mono HB1.out.size))
      have k6 := HK74.out w5 z4
      clear z3 z4
      go_wp2_with fail
      refine k6.mono ?_
      rintro r w6 ⟨rfl, hb6⟩
      have HD6 : Hid (Bd w1.heap.size w1.heap.size (Lib.byteCells ([45] ++ hexN x) ++ [.int .u8 112]) w6 ∧ Below w1.heap.size w1 w6) := ⟨HD5.out.1.later hb6, HD5.out.2.trans (hb6.mono HD5.out.2.size)⟩
      clear k6 hb6
      have k7 := c71 ⟨T.toArray⟩ HD6.out.1 (by have := HLN.out; have := HL.out.1; simp [Lib.byteCells, ByteArray.size]; omega) HD6.out.2.size
      go_wp2_with fail
      refine k7.mono ?_
      rintro r w7 ⟨rfl, hd7, hb7⟩
      have e7 : Lib.byteCells ([45] ++ hexN x) ++ [.int .u8 112] ++ Lib.strCells ⟨T.toArray⟩ = Lib.byteCells ([45] ++ hexN x ++ 112 :: T) := by simp [Lib.byteCells, Lib.strCells]
      rw [e7] at hd7
      have HB7 : Hid (Below w1.heap.size w1 w7) := HD6.out.2.trans hb7
      have k8 := Tryz.Builder_String _ _ _ _ hd7 (by simp)
      clear k7 hd7 hb7
      obtain ⟨R, hR⟩ : ∃ R : ByteArray, R = ⟨([45] ++ hexN x ++ 112 :: T).toArray⟩ := ⟨_, rfl⟩
      rw [← hR] at k8
      go_wp2_with fail
      refine k8.mono ?_
      rintro r w8 ⟨rfl, hb8⟩
      have HB8 : Hid (Below w.heap.size w w8) := (HCL.out w8 (HB1.out.trans ((HB7.out.trans hb8).mono HB1.out.size))).2.2.1
      have HR : Hid (R = ⟨([45] ++ hexN x ++ 112 :: T).toArray⟩) := hR
      clear k8 hb8 hR
      go_wp2_with fail
      go_ret
      exact ⟨congrArg (fun q => Ending.returned (Value.string q)) HR.out, HB8.out⟩
    · obtain ⟨k, rfl⟩ : ∃ k, j = k + 1 := ⟨j - 1, by omega⟩
      rw [show ((k + 1 : Nat) : Int) - 1 = (k : Int) by omega]
      clear hj0
      obtain ⟨⟨y0, y1, y2⟩, y3, -, y5⟩ := HCL.out wr (HB1.out.trans (HD.out.2.mono HB1.out.size))
      have y6 := y3 k (by omega)
      have k3 := fmt16 (dg x k) wr y5 (HDg.out k)
      obtain ⟨LH, hLH⟩ : ∃ L : List UInt8, L = hexN (x / B ^ (k + 1)) := ⟨_, rfl⟩
      have hlen : LH.length ≤ 900000 := by have h8 := hexN_dlen (x := x) (n := m + 1) (by have := HL.out.2.1; omega) (k + 1); rw [← hLH] at h8; omega
      rw [← hLH] at HD
      have HLH : Hid (LH = hexN (x / B ^ (k + 1))) := hLH
      clear hLH
      clear y3 y5 hdw
      have hdw : IntKind.u64.wrap (dg x k : Int) = (dg x k : Int) := by have := HDg.out k; rw [IntKind.wrap_u64]; omega
      go_wp2_with fail
      refine k3.mono ?_
      rintro r w5 ⟨s5, rfl, hs5, hL5, hb5⟩
      have HD5 : Hid (Bd w1.heap.size w1.heap.size (Lib.byteCells ([45] ++ LH)) w5 ∧ Below w1.heap.size w1 w5) := ⟨HD.out.1.later hb5, HD.out.2.trans (hb5.mono HD.out.2.size)⟩
      clear k3 hb5 y0 y1 y2 y6 HD
      obtain ⟨c5, hc5⟩ : ∃ c : Nat, c = 8 - s5.size := ⟨_, rfl⟩
      have hw5 : (8 : Int) - (s5.size : Int) = (c5 : Int) := by omega
      have hc7 : c5 ≤ 7 := by omega
      have HC5 : Hid (c5 = 8 - s5.size) := hc5
      clear hc5
      obtain ⟨z5, hz5⟩ : ∃ z : ByteArray, z = ⟨(List.replicate c5 (48 : UInt8)).toArray⟩ := ⟨_, rfl⟩
      have kr := repeat0 c5 hc7 w5
      rw [← hz5] at kr
      have hzs : z5.size = c5 := by rw [hz5]; simp [ByteArray.size]
      have HZ5 : Hid (z5 = ⟨(List.replicate c5 (48 : UInt8)).toArray⟩) := hz5
      clear hz5
      go_wp2_with fail
      refine kr.mono ?_
      rintro r w6 ⟨rfl, rfl⟩
      have k7 := c71 z5 HD5.out.1 (by rw [bc_len, List.length_append]; simp only [List.length_nil, List.length_cons]; omega) HD5.out.2.size
      clear kr
      go_wp2_with fail
      refine k7.mono ?_
      rintro r w7 ⟨rfl, hd7, hb7⟩
      have HD7 : Hid (Bd w1.heap.size w1.heap.size (Lib.byteCells ([45] ++ LH) ++ Lib.strCells z5) w7 ∧ Below w1.heap.size w1 w7) := ⟨hd7, HD5.out.2.trans hb7⟩
      clear k7 hd7 hb7
      have k8 := c71 s5 HD7.out.1 (by rw [List.length_append, bc_len, List.length_append, Lib.strCells_length]; simp only [List.length_nil, List.length_cons]; omega) HD7.out.2.size
      go_wp2_with fail
      refine k8.mono ?_
      rintro r w8 ⟨rfl, hd8, hb8⟩
      have HD8 : Hid (Bd w1.heap.size w1.heap.size (Lib.byteCells ([45] ++ hexN (x / B ^ k))) w8 ∧ Below w1.heap.size w1 w8) := ⟨by
        obtain ⟨L, hL, -, hL2⟩ := hL5.out
        rw [hexN_dg (div_ne HL.out.2.1 hj), ← hL2, ← HLH.out]
        have hcl : c5 = 8 - L.length := by have := HC5.out; rw [hL] at this; simpa [ByteArray.size] using this
        rw [← hcl]
        rw [hL, HZ5.out] at hd8
        have e : Lib.byteCells ([45] ++ LH) ++ Lib.strCells ⟨(List.replicate c5 (48 : UInt8)).toArray⟩ ++ Lib.strCells ⟨L.toArray⟩ = Lib.byteCells ([45] ++ (LH ++ (List.replicate c5 48 ++ L))) := by simp [Lib.byteCells, Lib.strCells]
        rwa [e] at hd8, HD7.out.2.trans hb8⟩
      clear k8 hd8 hb8 hL5 HD7 HD5
      go_wp2
      exact ⟨⟨k, by simp, by omega, HD8⟩, by simp [intOf]⟩
end Go.Proofs.YtmhpicccfaklcaaGreatDoor

/- The document's and the program's Add, Sub, Mul, Shift, of all numbers. -/
namespace Go.Proofs.YtmhpicccfaklcaaGreatDoor
set_option linter.unusedVariables false
set_option linter.unusedSimpArgs false
open Go.RowKit

theorem okN_len {s : Bool} {n z : Nat} {e : Int} (hz : dlen z ≤ n) (h : okN s n z e = true) : dlen z = n := by
  refine dlen_here hz ?_
  by_cases h0 : n = 0
  · exact .inl h0
  · right
    unfold okN at h
    rw [if_neg h0] at h
    simp only [Bool.and_eq_true, bne_iff_ne, ne_eq] at h
    exact h.1.1.1.2

/-- the second number turned -/
def ngT (nb : Bool) (y : Nat) : Bool := !nb && decide (0 < dlen y)
theorem ok_ng {nb : Bool} {y : Nat} {eb : Int} (h : Ok (nb, y, eb)) : Ok (ngT nb y, y, eb) := by
  have f := h.facts
  simp only at f
  unfold Ok okN ngT at *
  simp only at h ⊢
  by_cases h0 : dlen y = 0
  · rw [if_pos h0] at h ⊢
    have : ¬ 0 < dlen y := by omega
    simp [this] at h ⊢
    exact h.1
  · rw [if_neg h0] at h ⊢
    exact h

end Go.Proofs.YtmhpicccfaklcaaGreatDoor

/- DyadSums. -/
namespace Go.Proofs.YtmhpicccfaklcaaGreatDoor
set_option linter.unusedVariables false
set_option linter.unusedSimpArgs false
open Go.RowKit

/-- mayBe of two numbers, that may be or not -/
theorem maybe2_at {na nb : Bool} {ua va : Option Addr} {un uc vn vc x y g : Nat} {ea eb : Int} {W : World} (hg : W.heap[g]? = some (.cells #[.bool na, .slice ua un uc, .int .i64 ea, .bool nb, .slice va vn vc, .int .i64 eb] 25 (0, 0)))
    (h1 : At W ua un x) (h2 : At W va vn y) (hx : un ≤ 35184372088832) (hy : vn ≤ 35184372088832) :
    Calls Tryz.prog 47 #[.slice (some ⟨g, 0, none⟩) 2 2] W fun r w' => r = .returned (.bool (okN na un x ea && okN nb vn y eb)) ∧ Below W.heap.size W w' := by
  have k := c67 g 2 (fun i => if i = 0 then na else nb) (fun i => if i = 0 then ua else va) (fun i => if i = 0 then un else vn) (fun i => if i = 0 then uc else vc) (fun i => if i = 0 then x else y) (fun i => if i = 0 then ea else eb) W (by omega)
    (fun i hi => by rcases (show i = 0 ∨ i = 1 by omega) with rfl | rfl <;> simp [World.cell?, hg])
    (fun i hi => by rcases (show i = 0 ∨ i = 1 by omega) with rfl | rfl <;> simp [World.cell?, hg])
    (fun i hi => by rcases (show i = 0 ∨ i = 1 by omega) with rfl | rfl <;> simp [World.cell?, hg])
    (fun i hi => by rcases (show i = 0 ∨ i = 1 by omega) with rfl | rfl <;> simp <;> assumption)
    (fun i hi => by rcases (show i = 0 ∨ i = 1 by omega) with rfl | rfl <;> simp <;> omega)
  refine k.mono ?_
  rintro r w' ⟨rfl, hb⟩
  refine ⟨congrArg Ending.returned (congrArg Value.bool ?_), hb⟩
  rw [Bool.eq_iff_iff]
  simp only [decide_eq_true_eq, Bool.and_eq_true]
  constructor
  · intro h
    have h0 := h 0 (by omega)
    have h1 := h 1 (by omega)
    simp at h0 h1
    exact ⟨h0, h1⟩
  · rintro ⟨h0, h1⟩ i hi
    rcases (show i = 0 ∨ i = 1 by omega) with rfl | rfl
    · simpa using h0
    · simpa using h1
theorem maybe1_at {na : Bool} {ua : Option Addr} {un uc x g : Nat} {ea : Int} {W : World} (hg : W.heap[g]? = some (.cells #[.bool na, .slice ua un uc, .int .i64 ea] 25 (0, 0)))
    (h1 : At W ua un x) (hx : un ≤ 35184372088832) :
    Calls Tryz.prog 47 #[.slice (some ⟨g, 0, none⟩) 1 1] W fun r w' => r = .returned (.bool (okN na un x ea)) ∧ Below W.heap.size W w' := by
  have k := c67 g 1 (fun _ => na) (fun _ => ua) (fun _ => un) (fun _ => uc) (fun _ => x) (fun _ => ea) W (by omega)
    (fun i hi => by obtain rfl : i = 0 := by omega
                    simp [World.cell?, hg])
    (fun i hi => by obtain rfl : i = 0 := by omega
                    simp [World.cell?, hg])
    (fun i hi => by obtain rfl : i = 0 := by omega
                    simp [World.cell?, hg])
    (fun i hi => h1) (fun i hi => hx)
  refine k.mono ?_
  rintro r w' ⟨rfl, hb⟩
  refine ⟨congrArg Ending.returned (congrArg Value.bool ?_), hb⟩
  rw [Bool.eq_iff_iff]
  simp only [decide_eq_true_eq]
  exact ⟨fun h => h 0 (by omega), fun h i _ => h⟩

/-- digits that give laid -/
def PI (s : Bool) (n z : Nat) (e : Int) (W : World) (A : Value) : Prop := ∃ v b, A = .agg #[.bool s, v, .int .i64 e] ∧ Dn W b v n z
theorem PI.lasts (s : Bool) (n z : Nat) (e : Int) : Lasts (PI s n z e) := fun W W' A hb ⟨v, b, h1, h2⟩ => ⟨v, b, h1, h2.later hb⟩
theorem PN.lasts (t : Bool × Nat × Int) : Lasts (fun W A => PN W A t) := fun W W' A hb h => h.later hb
theorem RN.lasts (t : Bool × Nat × Int) : Lasts (fun W A => ∃ b, RN W b A t) := fun W W' A hb ⟨b, h⟩ => ⟨b, h.later hb⟩
theorem pn_nil (w : World) : PN w (.agg #[.bool false, .slice none 0 0, .int .i64 0]) (false, 0, 0) := ⟨none, 0, by rw [dlen_zero], by rw [dlen_zero]; exact is_nil w⟩

theorem held_out {w : World} {s : Bool} {z : Nat} {e : Int} {r : Ending} {w' : World} (h : Held w s z e r w') : Out w (fun W A => PN W A (Ans (okR s z e) (cn s z e))) (if okR s z e then 0 else 2) r w' := by
  obtain ⟨A, rfl, hN, hb⟩ := h
  have hp := hN.pn
  cases hV : okR s z e
  · exact ⟨_, _, _, _, _, rfl, pn_nil w', hb⟩
  · obtain ⟨s', ao, n, cap, e', rfl⟩ := hp.shape
    exact ⟨s', ao, n, cap, e', rfl, hp, hb⟩
theorem ansR_out {w : World} {V : Bool} {t : Bool × Nat × Int} {r : Ending} {w' : World} (h : AnsR w V t r w') : Out w (fun W A => ∃ b, RN W b A (Ans V t)) (if V then 0 else 2) r w' := by
  obtain ⟨A, rfl, hN, hb⟩ := h
  obtain ⟨s', ao, n, cap, e', rfl⟩ := hN.shape
  exact ⟨s', ao, n, cap, e', rfl, ⟨_, hN⟩, hb⟩
theorem Ans.len {V : Bool} {t : Bool × Nat × Int} (h : V = true → dlen t.2.1 ≤ 35184372088832) : dlen (Ans V t).2.1 ≤ 35184372088832 := by
  unfold Ans
  cases V
  · rw [if_neg (by simp)]; show dlen 0 ≤ _; rw [dlen_zero]; omega
  · rw [if_pos rfl]; exact h rfl
theorem ok_len {s : Bool} {z : Nat} {e : Int} (h : okR s z e = true) : dlen (cn s z e).2.1 ≤ 35184372088832 := by
  have := (ok_cn h).facts.1
  omega

theorem same_pr {W : World} {A C : Value} {t : Bool × Nat × Int} (hl : dlen t.2.1 ≤ 35184372088832) (h1 : PN W A t) (h2 : ∃ b, RN W b C t) :
    Calls Tryz.prog 12 #[A, C] W fun r w' => r = .returned (.bool true) ∧ Below W.heap.size W w' := by
  obtain ⟨ua, uc, rfl, i1⟩ := h1
  obtain ⟨b, va, vc, rfl, -, i2⟩ := h2
  obtain ⟨ao, cap, e1, -, -, at1⟩ := i1
  simp only [Value.slice.injEq] at e1
  obtain ⟨rfl, -, rfl⟩ := e1
  exact same_1 t.1 t.2.2 ua va _ uc vc t.2.1 W at1 i2 hl
theorem same_in {W : World} {X : Value} {s : Bool} {ua : Option Addr} {n uc z : Nat} {e : Int} (h1 : PI s n z e W X) (h2 : Arg W ua n uc z) :
    Calls Tryz.prog 12 #[X, .agg #[.bool s, .slice ua n uc, .int .i64 e]] W fun r w' => r = .returned (.bool true) ∧ Below W.heap.size W w' := by
  obtain ⟨v, b, rfl, d1⟩ := h1
  obtain ⟨pa, pc, rfl, p1, p2⟩ := d1.at
  exact same_1 s e pa ua n pc uc z W p2 h2.at_ h2.small

end Go.Proofs.YtmhpicccfaklcaaGreatDoor

/- Sign, Bits, Top, Cmp, Show: refused; Bits, Top; Show of nought. -/
namespace Go.Proofs.YtmhpicccfaklcaaGreatDoor
set_option linter.unusedVariables false
set_option linter.unusedSimpArgs false
open Go.RowKit

set_option maxHeartbeats 4000000 in
set_option maxRecDepth 200000 in
theorem pSign_no (na : Bool) (ua : Option Addr) (un uc : Nat) (ea : Int) (w : World)
    (k43 : ∀ W g, Below w.heap.size w W → W.heap[g]? = some (.cells #[.bool na, .slice ua un uc, .int .i64 ea] 25 (0, 0)) → Calls Tryz.prog 47 #[.slice (some ⟨g, 0, none⟩) 1 1] W fun r w' => r = .returned (.bool false) ∧ Below W.heap.size W w') :
    Calls Tryz.prog 17 #[.agg #[.bool na, .slice ua un uc, .int .i64 ea]] w fun r w' => r = .returned (.int .i64 0) ∧ Below w.heap.size w w' := by
  obtain ⟨W, hW⟩ : ∃ W, W = w.alloc (.cells #[.bool na, .slice ua un uc, .int .i64 ea] 25) := ⟨_, rfl⟩
  have hBW : Below w.heap.size w W := by rw [hW]; exact (Below.refl _ _).alloc (Nat.le_refl _) _
  have hsz : W.heap.size = w.heap.size + 1 := by rw [hW]; simp
  have hbx : W.heap[w.heap.size]? = some (.cells #[.bool na, .slice ua un uc, .int .i64 ea] 25 (0, 0)) := by rw [hW]; exact heap_alloc_new _ _
  have k1 := k43 (W.alloc (.cells #[.bool na, .slice ua un uc, .int .i64 ea] 25)) (w.heap.size + 1) (hBW.alloc hBW.size _) (by rw [← hsz]; exact heap_alloc_new _ _)
  have HX : Hid (Below w.heap.size w W ∧ W.heap.size = w.heap.size + 1 ∧ W.heap[w.heap.size]? = some (.cells #[.bool na, .slice ua un uc, .int .i64 ea] 25 (0, 0))) := ⟨hBW, hsz, hbx⟩
  clear hBW hsz hbx k43
  go_enter Tryz.func17, Tryz.ntmps17
  go_wp2_with fail
  rw [← hW]
  clear hW
  refine k1.mono ?_
  rintro r w1 ⟨rfl, hb1⟩
  have HB1 : Hid (Below W.heap.size W w1) := ((Below.refl W.heap.size W).alloc (Nat.le_refl _) _).trans (hb1.mono (by simp))
  clear k1 hb1
  obtain ⟨⟨x0, x1, x2⟩, -⟩ := box_cells (box_later HX.out.2.2 HB1.out (by have := HX.out.2.1; omega))
  have HB2 : Hid (Below w.heap.size w w1) := HX.out.1.trans (HB1.out.mono HX.out.1.size)
  go_wp2
  go_ret
  exact ⟨rfl, HB2.out⟩
set_option maxHeartbeats 4000000 in
set_option maxRecDepth 200000 in
theorem pBits_no (na : Bool) (ua : Option Addr) (un uc : Nat) (ea : Int) (w : World)
    (k43 : ∀ W g, Below w.heap.size w W → W.heap[g]? = some (.cells #[.bool na, .slice ua un uc, .int .i64 ea] 25 (0, 0)) → Calls Tryz.prog 47 #[.slice (some ⟨g, 0, none⟩) 1 1] W fun r w' => r = .returned (.bool false) ∧ Below W.heap.size W w') :
    Calls Tryz.prog 19 #[.agg #[.bool na, .slice ua un uc, .int .i64 ea]] w fun r w' => r = .returned (.int .i64 0) ∧ Below w.heap.size w w' := by
  obtain ⟨W, hW⟩ : ∃ W, W = w.alloc (.cells #[.bool na, .slice ua un uc, .int .i64 ea] 25) := ⟨_, rfl⟩
  have hBW : Below w.heap.size w W := by rw [hW]; exact (Below.refl _ _).alloc (Nat.le_refl _) _
  have hsz : W.heap.size = w.heap.size + 1 := by rw [hW]; simp
  have hbx : W.heap[w.heap.size]? = some (.cells #[.bool na, .slice ua un uc, .int .i64 ea] 25 (0, 0)) := by rw [hW]; exact heap_alloc_new _ _
  have k1 := k43 (W.alloc (.cells #[.bool na, .slice ua un uc, .int .i64 ea] 25)) (w.heap.size + 1) (hBW.alloc hBW.size _) (by rw [← hsz]; exact heap_alloc_new _ _)
  have HX : Hid (Below w.heap.size w W ∧ W.heap.size = w.heap.size + 1 ∧ W.heap[w.heap.size]? = some (.cells #[.bool na, .slice ua un uc, .int .i64 ea] 25 (0, 0))) := ⟨hBW, hsz, hbx⟩
  clear hBW hsz hbx k43
  go_enter Tryz.func19, Tryz.ntmps19
  go_wp2_with fail
  rw [← hW]
  clear hW
  refine k1.mono ?_
  rintro r w1 ⟨rfl, hb1⟩
  have HB1 : Hid (Below W.heap.size W w1) := ((Below.refl W.heap.size W).alloc (Nat.le_refl _) _).trans (hb1.mono (by simp))
  clear k1 hb1
  obtain ⟨⟨x0, x1, x2⟩, -⟩ := box_cells (box_later HX.out.2.2 HB1.out (by have := HX.out.2.1; omega))
  have HB2 : Hid (Below w.heap.size w w1) := HX.out.1.trans (HB1.out.mono HX.out.1.size)
  go_wp2
  go_ret
  exact ⟨rfl, HB2.out⟩
set_option maxHeartbeats 4000000 in
set_option maxRecDepth 200000 in
theorem pTop_no (na : Bool) (ua : Option Addr) (un uc : Nat) (ea : Int) (w : World)
    (k43 : ∀ W g, Below w.heap.size w W → W.heap[g]? = some (.cells #[.bool na, .slice ua un uc, .int .i64 ea] 25 (0, 0)) → Calls Tryz.prog 47 #[.slice (some ⟨g, 0, none⟩) 1 1] W fun r w' => r = .returned (.bool false) ∧ Below W.heap.size W w') :
    Calls Tryz.prog 21 #[.agg #[.bool na, .slice ua un uc, .int .i64 ea]] w fun r w' => r = .returned (.int .i64 0) ∧ Below w.heap.size w w' := by
  obtain ⟨W, hW⟩ : ∃ W, W = w.alloc (.cells #[.bool na, .slice ua un uc, .int .i64 ea] 25) := ⟨_, rfl⟩
  have hBW : Below w.heap.size w W := by rw [hW]; exact (Below.refl _ _).alloc (Nat.le_refl _) _
  have hsz : W.heap.size = w.heap.size + 1 := by rw [hW]; simp
  have hbx : W.heap[w.heap.size]? = some (.cells #[.bool na, .slice ua un uc, .int .i64 ea] 25 (0, 0)) := by rw [hW]; exact heap_alloc_new _ _
  have k1 := k43 (W.alloc (.cells #[.bool na, .slice ua un uc, .int .i64 ea] 25)) (w.heap.size + 1) (hBW.alloc hBW.size _) (by rw [← hsz]; exact heap_alloc_new _ _)
  have HX : Hid (Below w.heap.size w W ∧ W.heap.size = w.heap.size + 1 ∧ W.heap[w.heap.size]? = some (.cells #[.bool na, .slice ua un uc, .int .i64 ea] 25 (0, 0))) := ⟨hBW, hsz, hbx⟩
  clear hBW hsz hbx k43
  go_enter Tryz.func21, Tryz.ntmps21
  go_wp2_with fail
  rw [← hW]
  clear hW
  refine k1.mono ?_
  rintro r w1 ⟨rfl, hb1⟩
  have HB1 : Hid (Below W.heap.size W w1) := ((Below.refl W.heap.size W).alloc (Nat.le_refl _) _).trans (hb1.mono (by simp))
  clear k1 hb1
  obtain ⟨⟨x0, x1, x2⟩, -⟩ := box_cells (box_later HX.out.2.2 HB1.out (by have := HX.out.2.1; omega))
  have HB2 : Hid (Below w.heap.size w w1) := HX.out.1.trans (HB1.out.mono HX.out.1.size)
  go_wp2
  go_ret
  exact ⟨rfl, HB2.out⟩
set_option maxHeartbeats 4000000 in
set_option maxRecDepth 200000 in
theorem pShow_no (na : Bool) (ua : Option Addr) (un uc : Nat) (ea : Int) (w : World)
    (k43 : ∀ W g, Below w.heap.size w W → W.heap[g]? = some (.cells #[.bool na, .slice ua un uc, .int .i64 ea] 25 (0, 0)) → Calls Tryz.prog 47 #[.slice (some ⟨g, 0, none⟩) 1 1] W fun r w' => r = .returned (.bool false) ∧ Below W.heap.size W w') :
    Calls Tryz.prog 25 #[.agg #[.bool na, .slice ua un uc, .int .i64 ea]] w fun r w' => r = .returned (.string ⟨#[]⟩) ∧ Below w.heap.size w w' := by
  obtain ⟨W, hW⟩ : ∃ W, W = w.alloc (.cells #[.bool na, .slice ua un uc, .int .i64 ea] 25) := ⟨_, rfl⟩
  have hBW : Below w.heap.size w W := by rw [hW]; exact (Below.refl _ _).alloc (Nat.le_refl _) _
  have hsz : W.heap.size = w.heap.size + 1 := by rw [hW]; simp
  have hbx : W.heap[w.heap.size]? = some (.cells #[.bool na, .slice ua un uc, .int .i64 ea] 25 (0, 0)) := by rw [hW]; exact heap_alloc_new _ _
  have k1 := k43 (W.alloc (.cells #[.bool na, .slice ua un uc, .int .i64 ea] 25)) (w.heap.size + 1) (hBW.alloc hBW.size _) (by rw [← hsz]; exact heap_alloc_new _ _)
  have HX : Hid (Below w.heap.size w W ∧ W.heap.size = w.heap.size + 1 ∧ W.heap[w.heap.size]? = some (.cells #[.bool na, .slice ua un uc, .int .i64 ea] 25 (0, 0))) := ⟨hBW, hsz, hbx⟩
  clear hBW hsz hbx k43
  go_enter Tryz.func25, Tryz.ntmps25
  go_wp2_with fail
  rw [← hW]
  clear hW
  refine k1.mono ?_
  rintro r w1 ⟨rfl, hb1⟩
  have HB1 : Hid (Below W.heap.size W w1) := ((Below.refl W.heap.size W).alloc (Nat.le_refl _) _).trans (hb1.mono (by simp))
  clear k1 hb1
  obtain ⟨⟨x0, x1, x2⟩, -⟩ := box_cells (box_later HX.out.2.2 HB1.out (by have := HX.out.2.1; omega))
  have HB2 : Hid (Below w.heap.size w w1) := HX.out.1.trans (HB1.out.mono HX.out.1.size)
  go_wp2
  go_ret
  exact ⟨rfl, HB2.out⟩
set_option maxHeartbeats 4000000 in
set_option maxRecDepth 200000 in
theorem pBits_1 (na : Bool) (ua : Option Addr) (un uc : Nat) (ea c : Int) (w : World)
    (k43 : ∀ W g, Below w.heap.size w W → W.heap[g]? = some (.cells #[.bool na, .slice ua un uc, .int .i64 ea] 25 (0, 0)) → Calls Tryz.prog 47 #[.slice (some ⟨g, 0, none⟩) 1 1] W fun r w' => r = .returned (.bool true) ∧ Below W.heap.size W w')
    (kC : ∀ W, Below w.heap.size w W → Calls Tryz.prog 54 #[.slice ua un uc] W fun r w' => r = .returned (.int .i64 c) ∧ Below W.heap.size W w') :
    Calls Tryz.prog 19 #[.agg #[.bool na, .slice ua un uc, .int .i64 ea]] w fun r w' => r = .returned (.int .i64 c) ∧ Below w.heap.size w w' := by
  have HKC : Hid (∀ W, Below w.heap.size w W → Calls Tryz.prog 54 #[.slice ua un uc] W fun r w' => r = .returned (.int .i64 c) ∧ Below W.heap.size W w') := kC
  clear kC
  obtain ⟨W, hW⟩ : ∃ W, W = w.alloc (.cells #[.bool na, .slice ua un uc, .int .i64 ea] 25) := ⟨_, rfl⟩
  have hBW : Below w.heap.size w W := by rw [hW]; exact (Below.refl _ _).alloc (Nat.le_refl _) _
  have hsz : W.heap.size = w.heap.size + 1 := by rw [hW]; simp
  have hbx : W.heap[w.heap.size]? = some (.cells #[.bool na, .slice ua un uc, .int .i64 ea] 25 (0, 0)) := by rw [hW]; exact heap_alloc_new _ _
  have k1 := k43 (W.alloc (.cells #[.bool na, .slice ua un uc, .int .i64 ea] 25)) (w.heap.size + 1) (hBW.alloc hBW.size _) (by rw [← hsz]; exact heap_alloc_new _ _)
  have HX : Hid (Below w.heap.size w W ∧ W.heap.size = w.heap.size + 1 ∧ W.heap[w.heap.size]? = some (.cells #[.bool na, .slice ua un uc, .int .i64 ea] 25 (0, 0))) := ⟨hBW, hsz, hbx⟩
  clear hBW hsz hbx k43
  go_enter Tryz.func19, Tryz.ntmps19
  go_wp2_with fail
  rw [← hW]
  clear hW
  refine k1.mono ?_
  rintro r w1 ⟨rfl, hb1⟩
  have HB1 : Hid (Below W.heap.size W w1) := ((Below.refl W.heap.size W).alloc (Nat.le_refl _) _).trans (hb1.mono (by simp))
  clear k1 hb1
  obtain ⟨⟨x0, x1, x2⟩, -⟩ := box_cells (box_later HX.out.2.2 HB1.out (by have := HX.out.2.1; omega))
  have HB2 : Hid (Below w.heap.size w w1) := HX.out.1.trans (HB1.out.mono HX.out.1.size)
  have k3 := HKC.out w1 HB2.out
  go_wp2_with fail
  refine k3.mono ?_
  rintro r w3 ⟨rfl, hb3⟩
  have HB3 : Hid (Below w.heap.size w w3) := HB2.out.trans (hb3.mono HB2.out.size)
  clear k3 hb3 x0 x1 x2
  go_wp2_with fail
  go_ret
  exact ⟨rfl, HB3.out⟩
set_option maxHeartbeats 4000000 in
set_option maxRecDepth 200000 in
theorem pTop_1 (na : Bool) (ua : Option Addr) (un uc : Nat) (ea c : Int) (w : World)
    (k43 : ∀ W g, Below w.heap.size w W → W.heap[g]? = some (.cells #[.bool na, .slice ua un uc, .int .i64 ea] 25 (0, 0)) → Calls Tryz.prog 47 #[.slice (some ⟨g, 0, none⟩) 1 1] W fun r w' => r = .returned (.bool true) ∧ Below W.heap.size W w')
    (kC : ∀ W, Below w.heap.size w W → Calls Tryz.prog 55 #[.agg #[.bool na, .slice ua un uc, .int .i64 ea]] W fun r w' => r = .returned (.int .i64 c) ∧ Below W.heap.size W w') :
    Calls Tryz.prog 21 #[.agg #[.bool na, .slice ua un uc, .int .i64 ea]] w fun r w' => r = .returned (.int .i64 c) ∧ Below w.heap.size w w' := by
  have HKC : Hid (∀ W, Below w.heap.size w W → Calls Tryz.prog 55 #[.agg #[.bool na, .slice ua un uc, .int .i64 ea]] W fun r w' => r = .returned (.int .i64 c) ∧ Below W.heap.size W w') := kC
  clear kC
  obtain ⟨W, hW⟩ : ∃ W, W = w.alloc (.cells #[.bool na, .slice ua un uc, .int .i64 ea] 25) := ⟨_, rfl⟩
  have hBW : Below w.heap.size w W := by rw [hW]; exact (Below.refl _ _).alloc (Nat.le_refl _) _
  have hsz : W.heap.size = w.heap.size + 1 := by rw [hW]; simp
  have hbx : W.heap[w.heap.size]? = some (.cells #[.bool na, .slice ua un uc, .int .i64 ea] 25 (0, 0)) := by rw [hW]; exact heap_alloc_new _ _
  have k1 := k43 (W.alloc (.cells #[.bool na, .slice ua un uc, .int .i64 ea] 25)) (w.heap.size + 1) (hBW.alloc hBW.size _) (by rw [← hsz]; exact heap_alloc_new _ _)
  have HX : Hid (Below w.heap.size w W ∧ W.heap.size = w.heap.size + 1 ∧ W.heap[w.heap.size]? = some (.cells #[.bool na, .slice ua un uc, .int .i64 ea] 25 (0, 0))) := ⟨hBW, hsz, hbx⟩
  clear hBW hsz hbx k43
  go_enter Tryz.func21, Tryz.ntmps21
  go_wp2_with fail
  rw [← hW]
  clear hW
  refine k1.mono ?_
  rintro r w1 ⟨rfl, hb1⟩
  have HB1 : Hid (Below W.heap.size W w1) := ((Below.refl W.heap.size W).alloc (Nat.le_refl _) _).trans (hb1.mono (by simp))
  clear k1 hb1
  obtain ⟨⟨x0, x1, x2⟩, -⟩ := box_cells (box_later HX.out.2.2 HB1.out (by have := HX.out.2.1; omega))
  have HB2 : Hid (Below w.heap.size w w1) := HX.out.1.trans (HB1.out.mono HX.out.1.size)
  have k3 := HKC.out w1 HB2.out
  go_wp2_with fail
  refine k3.mono ?_
  rintro r w3 ⟨rfl, hb3⟩
  have HB3 : Hid (Below w.heap.size w w3) := HB2.out.trans (hb3.mono HB2.out.size)
  clear k3 hb3 x0 x1 x2
  go_wp2_with fail
  go_ret
  exact ⟨rfl, HB3.out⟩
set_option maxHeartbeats 4000000 in
set_option maxRecDepth 200000 in
theorem pShow_0 (na : Bool) (ua : Option Addr) (uc : Nat) (ea : Int) (w : World)
    (k43 : ∀ W g, Below w.heap.size w W → W.heap[g]? = some (.cells #[.bool na, .slice ua 0 uc, .int .i64 ea] 25 (0, 0)) → Calls Tryz.prog 47 #[.slice (some ⟨g, 0, none⟩) 1 1] W fun r w' => r = .returned (.bool true) ∧ Below W.heap.size W w') :
    Calls Tryz.prog 25 #[.agg #[.bool na, .slice ua 0 uc, .int .i64 ea]] w fun r w' => r = .returned (.string ⟨#[48, 112, 48]⟩) ∧ Below w.heap.size w w' := by
  obtain ⟨W, hW⟩ : ∃ W, W = w.alloc (.cells #[.bool na, .slice ua 0 uc, .int .i64 ea] 25) := ⟨_, rfl⟩
  have hBW : Below w.heap.size w W := by rw [hW]; exact (Below.refl _ _).alloc (Nat.le_refl _) _
  have hsz : W.heap.size = w.heap.size + 1 := by rw [hW]; simp
  have hbx : W.heap[w.heap.size]? = some (.cells #[.bool na, .slice ua 0 uc, .int .i64 ea] 25 (0, 0)) := by rw [hW]; exact heap_alloc_new _ _
  have k1 := k43 (W.alloc (.cells #[.bool na, .slice ua 0 uc, .int .i64 ea] 25)) (w.heap.size + 1) (hBW.alloc hBW.size _) (by rw [← hsz]; exact heap_alloc_new _ _)
  have HX : Hid (Below w.heap.size w W ∧ W.heap.size = w.heap.size + 1 ∧ W.heap[w.heap.size]? = some (.cells #[.bool na, .slice ua 0 uc, .int .i64 ea] 25 (0, 0))) := ⟨hBW, hsz, hbx⟩
  clear hBW hsz hbx k43
  go_enter Tryz.func25, Tryz.ntmps25
  go_wp2_with fail
  rw [← hW]
  clear hW
  refine k1.mono ?_
  rintro r w1 ⟨rfl, hb1⟩
  have HB1 : Hid (Below W.heap.size W w1) := ((Below.refl W.heap.size W).alloc (Nat.le_refl _) _).trans (hb1.mono (by simp))
  clear k1 hb1
  obtain ⟨⟨x0, x1, x2⟩, -⟩ := box_cells (box_later HX.out.2.2 HB1.out (by have := HX.out.2.1; omega))
  have HB2 : Hid (Below w.heap.size w w1) := HX.out.1.trans (HB1.out.mono HX.out.1.size)
  go_wp2
  go_ret
  exact ⟨rfl, HB2.out⟩
set_option maxHeartbeats 4000000 in
set_option maxRecDepth 200000 in
theorem pCmp_no (na nb : Bool) (ua va : Option Addr) (un uc vn vc : Nat) (ea eb : Int) (w : World)
    (k67 : ∀ W g, Below w.heap.size w W → W.heap[g]? = some (.cells #[.bool na, .slice ua un uc, .int .i64 ea, .bool nb, .slice va vn vc, .int .i64 eb] 25 (0, 0)) → Calls Tryz.prog 47 #[.slice (some ⟨g, 0, none⟩) 2 2] W fun r w' => r = .returned (.bool false) ∧ Below W.heap.size W w') :
    Calls Tryz.prog 23 #[.agg #[.bool na, .slice ua un uc, .int .i64 ea], .agg #[.bool nb, .slice va vn vc, .int .i64 eb]] w fun r w' => r = .returned (.int .i64 0) ∧ Below w.heap.size w w' := by
  obtain ⟨W, hW⟩ : ∃ W, W = ((w.alloc (.cells #[.bool na, .slice ua un uc, .int .i64 ea] 25)).alloc (.cells #[.bool nb, .slice va vn vc, .int .i64 eb] 25)).alloc (.cells #[.bool na, .slice ua un uc, .int .i64 ea, .bool nb, .slice va vn vc, .int .i64 eb] 25) := ⟨_, rfl⟩
  obtain ⟨hA, hBb, hC, hsz, hBW⟩ := boxes3 _ _ _ hW
  have k1 := k67 W (w.heap.size + 1 + 1) hBW hC
  have HH : Hid ((W.heap[w.heap.size]? = some (.cells #[.bool na, .slice ua un uc, .int .i64 ea] 25 (0, 0)) ∧ W.heap[w.heap.size + 1]? = some (.cells #[.bool nb, .slice va vn vc, .int .i64 eb] 25 (0, 0))) ∧ W.heap.size = w.heap.size + 1 + 1 + 1 ∧ Below w.heap.size w W) := ⟨⟨hA, hBb⟩, hsz, hBW⟩
  clear hA hBb hC hsz hBW k67
  go_enter Tryz.func23, Tryz.ntmps23
  go_wp2_with fail
  rw [← hW]
  clear hW
  refine k1.mono ?_
  rintro r w1 ⟨rfl, hB1⟩
  clear k1
  have HB1 : Hid (Below w.heap.size w w1) := HH.out.2.2.trans (hB1.mono HH.out.2.2.size)
  obtain ⟨⟨a0, a1, a2⟩, -⟩ := box_cells (box_later HH.out.1.1 hB1 (by have := HH.out.2.1; omega))
  obtain ⟨⟨b0, b1, b2⟩, -⟩ := box_cells (box_later HH.out.1.2 hB1 (by have := HH.out.2.1; omega))
  clear hB1
  go_wp2
  go_ret
  exact ⟨rfl, HB1.out⟩
end Go.Proofs.YtmhpicccfaklcaaGreatDoor
