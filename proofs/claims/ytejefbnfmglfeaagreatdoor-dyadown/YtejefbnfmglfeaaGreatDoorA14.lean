/- Own work: contracts of the program's functions, part 14: L9 RC5 L10 O1. -/
import Derived.Test.YtejefbnfmglfeaaGreatDoorA11
import Derived.Test.YtejefbnfmglfeaaGreatDoorA13
import Derived.Test.YtejefbnfmglfeaaGreatDoorA12
import Derived.Test.YtejefbnfmglfeaaGreatDoorA7
import Derived.Test.YtejefbnfmglfeaaGreatDoorA10

/- DyadSums: the law's walk. -/
namespace Go.Proofs.YtejefbnfmglfeaaGreatDoor
set_option linter.unusedVariables false
set_option linter.unusedSimpArgs false
open Go.RowKit

/-- an answer: a number that keeps P, and an error -/
def Out (W : World) (P : World → Value → Prop) (E : Int) (r : Ending) (w' : World) : Prop := ∃ s ao n cap e, r = .returned (.tuple #[.agg #[.bool s, .slice ao n cap, .int .i64 e], .int .i64 E]) ∧ P w' (.agg #[.bool s, .slice ao n cap, .int .i64 e]) ∧ Below W.heap.size W w'
/-- a box, and what it holds -/
def BB (ty : TypeId) (P : World → Value → Prop) (w : World) (g : Nat) (s : Bool) (ao : Option Addr) (n cap : Nat) (e : Int) : Prop :=
  w.heap[g]? = some (.cells #[.bool s, .slice ao n cap, .int .i64 e] ty (0, 0)) ∧ P w (.agg #[.bool s, .slice ao n cap, .int .i64 e])
def Lasts (P : World → Value → Prop) : Prop := ∀ W W' A, Below W.heap.size W W' → P W A → P W' A
theorem BB.later {ty : TypeId} {P : World → Value → Prop} (hP : Lasts P) {w w' : World} {g : Nat} {s : Bool} {ao : Option Addr} {n cap : Nat} {e : Int} (h : BB ty P w g s ao n cap e) (hb : Below w.heap.size w w') : BB ty P w' g s ao n cap e :=
  ⟨box_later h.1 hb (Array.getElem?_eq_some_iff.1 h.1).1, hP _ _ _ hb h.2⟩
theorem BB.new {ty : TypeId} {P : World → Value → Prop} (hP : Lasts P) {w : World} {s : Bool} {ao : Option Addr} {n cap : Nat} {e : Int} (h : P w (.agg #[.bool s, .slice ao n cap, .int .i64 e])) : BB ty P (w.alloc (.cells #[.bool s, .slice ao n cap, .int .i64 e] ty)) w.heap.size s ao n cap e :=
  ⟨heap_alloc_new _ _, hP _ _ _ ((Below.refl _ _).alloc (Nat.le_refl _) _) h⟩
def Any (w : World) (A : Value) : Prop := True
theorem Any.lasts : Lasts Any := fun _ _ _ _ h => h

structure SumsK (w : World) (A0 A1 : Value) (NG0 NG1 : Bool) (LN0 Z0 LN1 Z1 : Nat) (E0 E01 : Int) (k0 : Int) (PX PY P1 P2 P3 P4 R1 R2 R3 R4 : World → Value → Prop) (E1 E2 E3 E4 : Int) : Prop where
  lPX : Lasts PX
  lPY : Lasts PY
  lP1 : Lasts P1
  lP2 : Lasts P2
  lP3 : Lasts P3
  lP4 : Lasts P4
  lR1 : Lasts R1
  lR2 : Lasts R2
  lR3 : Lasts R3
  lR4 : Lasts R4
  k1 : ∀ W X Y, Below w.heap.size w W → PX W X → PY W Y → Calls Tryz.prog 28 #[X, Y] W fun r w' => Out W P1 E1 r w'
  q1 : ∀ W, Below w.heap.size w W → Calls Tryz.prog 29 #[A0, A1] W fun r w' => Out W R1 E1 r w'
  s1 : ∀ W A C, P1 W A → R1 W C → Calls Tryz.prog 12 #[A, C] W fun r w' => r = .returned (.bool true) ∧ Below W.heap.size W w'
  k2 : ∀ W X Y, Below w.heap.size w W → PX W X → PY W Y → Calls Tryz.prog 30 #[X, Y] W fun r w' => Out W P2 E2 r w'
  q2 : ∀ W, Below w.heap.size w W → Calls Tryz.prog 31 #[A0, A1] W fun r w' => Out W R2 E2 r w'
  s2 : ∀ W A C, P2 W A → R2 W C → Calls Tryz.prog 12 #[A, C] W fun r w' => r = .returned (.bool true) ∧ Below W.heap.size W w'
  k3 : ∀ W X Y, Below w.heap.size w W → PX W X → PY W Y → Calls Tryz.prog 32 #[X, Y] W fun r w' => Out W P3 E3 r w'
  q3 : ∀ W, Below w.heap.size w W → Calls Tryz.prog 33 #[A0, A1] W fun r w' => Out W R3 E3 r w'
  s3 : ∀ W A C, P3 W A → R3 W C → Calls Tryz.prog 12 #[A, C] W fun r w' => r = .returned (.bool true) ∧ Below W.heap.size W w'
  k4 : ∀ W X, Below w.heap.size w W → PX W X → Calls Tryz.prog 34 #[X, .int .i64 k0] W fun r w' => Out W P4 E4 r w'
  q4 : ∀ W, Below w.heap.size w W → Calls Tryz.prog 35 #[A0, .int .i64 k0] W fun r w' => Out W R4 E4 r w'
  s4 : ∀ W A C, P4 W A → R4 W C → Calls Tryz.prog 12 #[A, C] W fun r w' => r = .returned (.bool true) ∧ Below W.heap.size W w'
  s5 : ∀ W X, Below w.heap.size w W → PX W X → Calls Tryz.prog 12 #[X, A0] W fun r w' => r = .returned (.bool true) ∧ Below W.heap.size W w'
  s6 : ∀ W Y, Below w.heap.size w W → PY W Y → Calls Tryz.prog 12 #[Y, A1] W fun r w' => r = .returned (.bool true) ∧ Below W.heap.size W w'
  gx : ∀ W v, Below w.heap.size w W → (∃ b, Dn W b v (LN0) (Z0)) → PX W (.agg #[.bool NG0, v, .int .i64 E0])
  gy : ∀ W v, Below w.heap.size w W → (∃ b, Dn W b v (LN1) (Z1)) → PY W (.agg #[.bool NG1, v, .int .i64 E01])
  works : ∀ W, Below w.heap.size w W → Calls Tryz.prog 27 #[] W fun r w' => r = .returned (.bool true) ∧ Below W.heap.size W w'

set_option maxHeartbeats 8000000 in
set_option maxRecDepth 200000 in
theorem law9_1 (ng : Nat → Bool) (ao : Nat → Option Addr) (ln cp z : Nat → Nat) (e : Nat → Int) (k0 : Int) (w : World) (hA : ∀ i, i < 2 → Arg w (ao i) (ln i) (cp i) (z i))
    {PX PY P1 P2 P3 P4 R1 R2 R3 R4 : World → Value → Prop} {E1 E2 E3 E4 : Int} (K : SumsK w (.agg #[.bool (ng 0), .slice (ao 0) (ln 0) (cp 0), .int .i64 (e 0)]) (.agg #[.bool (ng 1), .slice (ao 1) (ln 1) (cp 1), .int .i64 (e 1)]) (ng 0) (ng 1) (ln 0) (z 0) (ln 1) (z 1) (e 0) (e 1) k0 PX PY P1 P2 P3 P4 R1 R2 R3 R4 E1 E2 E3 E4) :
    Calls Tryz.prog 4 #[.agg #[.bool (ng 0), .slice (ao 0) (ln 0) (cp 0), .int .i64 (e 0)], .agg #[.bool (ng 1), .slice (ao 1) (ln 1) (cp 1), .int .i64 (e 1)], .int .i64 k0] w fun r w' => r = .returned (.bool true) ∧ Below w.heap.size w w' := by
  obtain ⟨W, hW⟩ : ∃ W, W = (w.alloc (.cells #[.bool (ng 0), .slice (ao 0) (ln 0) (cp 0), .int .i64 (e 0)] 24)).alloc (.cells #[.bool (ng 1), .slice (ao 1) (ln 1) (cp 1), .int .i64 (e 1)] 24) := ⟨_, rfl⟩
  obtain ⟨hs0, hs1, hsz, hBW⟩ := two29 _ _ hW
  have HBW : Hid (Below w.heap.size w W) := hBW
  have HA3 : ∀ i, i < 2 → Arg W (ao i) (ln i) (cp i) (z i) := fun i hi => (hA i hi).later hBW
  clear hBW hA hsz
  go_enter Tryz.func4, Tryz.ntmps4
  go_upto_region 1 with fail
  rw [← hW]
  clear hW
  go_cut [7, 8] from 25 to 28 (fun p q wx => ∃ (g : Nat → Nat) (v : Nat → Value), p = .pointer (some ⟨g 0, 0, none⟩) ∧ q = .pointer (some ⟨g 1, 0, none⟩) ∧ Hid (Given W wx 2 ng ln z e g v))
  case first =>
    refine give_region 2 (fun k => 3 + k) (fun k => 25 + 2 * k) (fun k => 26 + 2 * k) (fun k => 7 + k) (fun k => w.heap.size + k) ng ao ln cp z e W _ rfl (ord_of (by kernel_rfl)) ?_ ?_ ?_ ?_ ?_ ?_ ?_ ?_ ?_ ?_ ?_ ?_
    · intro k hk
      rcases lt2 hk with rfl | rfl
      · exact ⟨rfl, hs0, HA3 0 hk⟩
      · exact ⟨rfl, hs1, HA3 1 hk⟩
    · intro k hk
      rcases lt2 hk with rfl | rfl <;> decide
    · intro k hk
      rcases lt2 hk with rfl | rfl <;> exact ⟨_, rfl, rfl, rfl, rfl⟩
    · intro k hk
      rcases lt2 hk with rfl | rfl <;> exact ⟨_, rfl, rfl, ⟨_, rfl⟩, rfl, ⟨_, .data⟩, by simp, rfl, rfl⟩
    · intro k hk
      rcases lt2 hk with rfl | rfl <;> exact ⟨_, rfl, rfl, rfl, rfl⟩
    · intro k hk
      rcases lt2 hk with rfl | rfl <;> exact ⟨_, rfl, rfl, rfl, rfl, ⟨⟨_, .data⟩, by simp, rfl, rfl⟩, ⟨_, .data⟩, by simp, rfl, rfl⟩
    · show ∀ j, j < 2 * 2 → gslot (fun k => 25 + 2 * k) (fun k => 26 + 2 * k) j < 128
      decide
    · show ∀ k, k < 2 → 7 + k < 128
      decide
    · decide
    · decide
    · decide
    · intro u v g wx hb hk
      simp only [putL, gslot, show List.range (2 * 2) = [0, 1, 2, 3] from rfl, show List.range 2 = [0, 1] from rfl, List.map_cons, List.map_nil, List.cons_append, List.nil_append, List.foldl_cons, List.foldl_nil, Nat.reduceMod, Nat.reduceDiv, Nat.reduceMul, Nat.reduceAdd, reduceIte, Nat.one_ne_zero, Act.put, List.setIfInBounds_toArray, List.set_cons_zero, List.set_cons_succ]
      go_wp2_with fail
      go_meet
      exact ⟨g, v, rfl, rfl, hb, hk⟩
  case rest =>
    obtain ⟨w8, hw8⟩ : ∃ w8 : World, w8 = wc := ⟨_, rfl⟩
    subst hw8
    obtain ⟨g, v, rfl, rfl, HG⟩ := hcut
    have hB8 : Below w.heap.size w w8 := HBW.out.trans (HG.out.1.mono HBW.out.size)
    have b0 : ∃ ak ck, BB 25 PX w8 (g 0) (ng 0) ak (ln 0) ck (e 0) := by
      obtain ⟨h1, h2, h3⟩ := HG.out.2 0 (by omega)
      have hp := K.gx w8 _ hB8 ⟨_, h1⟩
      obtain ⟨ak, ck, hv, -, -⟩ := h1.at
      rw [hv] at hp h3
      exact ⟨ak, ck, h3, hp⟩
    have b1 : ∃ ak ck, BB 25 PY w8 (g 1) (ng 1) ak (ln 1) ck (e 1) := by
      obtain ⟨h1, h2, h3⟩ := HG.out.2 1 (by omega)
      have hp := K.gy w8 _ hB8 ⟨_, h1⟩
      obtain ⟨ak, ck, hv, -, -⟩ := h1.at
      rw [hv] at hp h3
      exact ⟨ak, ck, h3, hp⟩
    obtain ⟨xa, xc, X0⟩ := b0
    obtain ⟨ya, yc, X1⟩ := b1
    replace X0 : Hid (BB 25 PX w8 (g 0) (ng 0) xa (ln 0) xc (e 0)) := X0
    replace X1 : Hid (BB 25 PY w8 (g 1) (ng 1) ya (ln 1) yc (e 1)) := X1
    have X2 : Hid (BB 24 Any w8 (w.heap.size) (ng 0) (ao 0) (ln 0) (cp 0) (e 0)) := ⟨box_later hs0 HG.out.1 (Array.getElem?_eq_some_iff.1 hs0).1, trivial⟩
    have X3 : Hid (BB 24 Any w8 (w.heap.size + 1) (ng 1) (ao 1) (ln 1) (cp 1) (e 1)) := ⟨box_later hs1 HG.out.1 (Array.getElem?_eq_some_iff.1 hs1).1, trivial⟩
    have HB8 : Hid (Below w.heap.size w w8) := hB8
    clear HG hs0 hs1 HA3 hB8
    obtain ⟨⟨p0, p1, p2⟩, -⟩ := box_cells X0.out.1
    obtain ⟨⟨q0, q1, q2⟩, -⟩ := box_cells X1.out.1
    have kc := K.k1 w8 _ _ HB8.out X0.out.2 X1.out.2
    go_wp2_with fail
    refine kc.mono ?_
    rintro r v9 ⟨s9, a9, n9, c9, e9, rfl, hp, hb⟩
    obtain ⟨w9, hW9⟩ : ∃ w9, w9 = v9.alloc (.cells #[.bool s9, .slice a9 n9 c9, .int .i64 e9] 25) := ⟨_, rfl⟩
    have hb' : Below w8.heap.size w8 w9 := by rw [hW9]; exact hb.alloc hb.size _
    have X4 : Hid (BB 25 P1 w9 (v9.heap.size) (s9) a9 (n9) c9 (e9)) := (by rw [hW9]; exact BB.new K.lP1 hp : BB 25 P1 w9 (v9.heap.size) (s9) a9 (n9) c9 (e9))
    replace X0 : Hid (BB 25 PX w9 (g 0) (ng 0) xa (ln 0) xc (e 0)) := X0.out.later K.lPX hb'
    replace X1 : Hid (BB 25 PY w9 (g 1) (ng 1) ya (ln 1) yc (e 1)) := X1.out.later K.lPY hb'
    replace X2 : Hid (BB 24 Any w9 (w.heap.size) (ng 0) (ao 0) (ln 0) (cp 0) (e 0)) := X2.out.later Any.lasts hb'
    replace X3 : Hid (BB 24 Any w9 (w.heap.size + 1) (ng 1) (ao 1) (ln 1) (cp 1) (e 1)) := X3.out.later Any.lasts hb'
    have HB9 : Hid (Below w.heap.size w w9) := HB8.out.trans (hb'.mono HB8.out.size)
    clear kc hb hb' hp p0 p1 p2 q0 q1 q2 HB8
    obtain ⟨⟨p0, p1, p2⟩, -⟩ := box_cells29 X2.out.1
    obtain ⟨⟨q0, q1, q2⟩, -⟩ := box_cells29 X3.out.1
    have kc := K.q1 w9 HB9.out
    rw [hW9] at p0 p1 p2 q0 q1 q2
    go_wp2_with fail
    rw [← hW9]
    clear hW9
    refine kc.mono ?_
    rintro r v10 ⟨s10, a10, n10, c10, e10, rfl, hp, hb⟩
    obtain ⟨w10, hW10⟩ : ∃ w10, w10 = v10.alloc (.cells #[.bool s10, .slice a10 n10 c10, .int .i64 e10] 24) := ⟨_, rfl⟩
    have hb' : Below w9.heap.size w9 w10 := by rw [hW10]; exact hb.alloc hb.size _
    have X5 : Hid (BB 24 R1 w10 (v10.heap.size) (s10) a10 (n10) c10 (e10)) := (by rw [hW10]; exact BB.new K.lR1 hp : BB 24 R1 w10 (v10.heap.size) (s10) a10 (n10) c10 (e10))
    replace X0 : Hid (BB 25 PX w10 (g 0) (ng 0) xa (ln 0) xc (e 0)) := X0.out.later K.lPX hb'
    replace X1 : Hid (BB 25 PY w10 (g 1) (ng 1) ya (ln 1) yc (e 1)) := X1.out.later K.lPY hb'
    replace X2 : Hid (BB 24 Any w10 (w.heap.size) (ng 0) (ao 0) (ln 0) (cp 0) (e 0)) := X2.out.later Any.lasts hb'
    replace X3 : Hid (BB 24 Any w10 (w.heap.size + 1) (ng 1) (ao 1) (ln 1) (cp 1) (e 1)) := X3.out.later Any.lasts hb'
    replace X4 : Hid (BB 25 P1 w10 (v9.heap.size) (s9) a9 (n9) c9 (e9)) := X4.out.later K.lP1 hb'
    have HB10 : Hid (Below w.heap.size w w10) := HB9.out.trans (hb'.mono HB9.out.size)
    clear kc hb hb' hp p0 p1 p2 q0 q1 q2 HB9
    obtain ⟨⟨p0, p1, p2⟩, -⟩ := box_cells X0.out.1
    obtain ⟨⟨q0, q1, q2⟩, -⟩ := box_cells X1.out.1
    have kc := K.k2 w10 _ _ HB10.out X0.out.2 X1.out.2
    rw [hW10] at p0 p1 p2 q0 q1 q2
    go_wp2_with fail
    rw [← hW10]
    clear hW10
    refine kc.mono ?_
    rintro r v11 ⟨s11, a11, n11, c11, e11, rfl, hp, hb⟩
    obtain ⟨w11, hW11⟩ : ∃ w11, w11 = v11.alloc (.cells #[.bool s11, .slice a11 n11 c11, .int .i64 e11] 25) := ⟨_, rfl⟩
    have hb' : Below w10.heap.size w10 w11 := by rw [hW11]; exact hb.alloc hb.size _
    have X6 : Hid (BB 25 P2 w11 (v11.heap.size) (s11) a11 (n11) c11 (e11)) := (by rw [hW11]; exact BB.new K.lP2 hp : BB 25 P2 w11 (v11.heap.size) (s11) a11 (n11) c11 (e11))
    replace X0 : Hid (BB 25 PX w11 (g 0) (ng 0) xa (ln 0) xc (e 0)) := X0.out.later K.lPX hb'
    replace X1 : Hid (BB 25 PY w11 (g 1) (ng 1) ya (ln 1) yc (e 1)) := X1.out.later K.lPY hb'
    replace X2 : Hid (BB 24 Any w11 (w.heap.size) (ng 0) (ao 0) (ln 0) (cp 0) (e 0)) := X2.out.later Any.lasts hb'
    replace X3 : Hid (BB 24 Any w11 (w.heap.size + 1) (ng 1) (ao 1) (ln 1) (cp 1) (e 1)) := X3.out.later Any.lasts hb'
    replace X4 : Hid (BB 25 P1 w11 (v9.heap.size) (s9) a9 (n9) c9 (e9)) := X4.out.later K.lP1 hb'
    replace X5 : Hid (BB 24 R1 w11 (v10.heap.size) (s10) a10 (n10) c10 (e10)) := X5.out.later K.lR1 hb'
    have HB11 : Hid (Below w.heap.size w w11) := HB10.out.trans (hb'.mono HB10.out.size)
    clear kc hb hb' hp p0 p1 p2 q0 q1 q2 HB10
    obtain ⟨⟨p0, p1, p2⟩, -⟩ := box_cells29 X2.out.1
    obtain ⟨⟨q0, q1, q2⟩, -⟩ := box_cells29 X3.out.1
    have kc := K.q2 w11 HB11.out
    rw [hW11] at p0 p1 p2 q0 q1 q2
    go_wp2_with fail
    rw [← hW11]
    clear hW11
    refine kc.mono ?_
    rintro r v12 ⟨s12, a12, n12, c12, e12, rfl, hp, hb⟩
    obtain ⟨w12, hW12⟩ : ∃ w12, w12 = v12.alloc (.cells #[.bool s12, .slice a12 n12 c12, .int .i64 e12] 24) := ⟨_, rfl⟩
    have hb' : Below w11.heap.size w11 w12 := by rw [hW12]; exact hb.alloc hb.size _
    have X7 : Hid (BB 24 R2 w12 (v12.heap.size) (s12) a12 (n12) c12 (e12)) := (by rw [hW12]; exact BB.new K.lR2 hp : BB 24 R2 w12 (v12.heap.size) (s12) a12 (n12) c12 (e12))
    replace X0 : Hid (BB 25 PX w12 (g 0) (ng 0) xa (ln 0) xc (e 0)) := X0.out.later K.lPX hb'
    replace X1 : Hid (BB 25 PY w12 (g 1) (ng 1) ya (ln 1) yc (e 1)) := X1.out.later K.lPY hb'
    replace X2 : Hid (BB 24 Any w12 (w.heap.size) (ng 0) (ao 0) (ln 0) (cp 0) (e 0)) := X2.out.later Any.lasts hb'
    replace X3 : Hid (BB 24 Any w12 (w.heap.size + 1) (ng 1) (ao 1) (ln 1) (cp 1) (e 1)) := X3.out.later Any.lasts hb'
    replace X4 : Hid (BB 25 P1 w12 (v9.heap.size) (s9) a9 (n9) c9 (e9)) := X4.out.later K.lP1 hb'
    replace X5 : Hid (BB 24 R1 w12 (v10.heap.size) (s10) a10 (n10) c10 (e10)) := X5.out.later K.lR1 hb'
    replace X6 : Hid (BB 25 P2 w12 (v11.heap.size) (s11) a11 (n11) c11 (e11)) := X6.out.later K.lP2 hb'
    have HB12 : Hid (Below w.heap.size w w12) := HB11.out.trans (hb'.mono HB11.out.size)
    clear kc hb hb' hp p0 p1 p2 q0 q1 q2 HB11
    obtain ⟨⟨p0, p1, p2⟩, -⟩ := box_cells X0.out.1
    obtain ⟨⟨q0, q1, q2⟩, -⟩ := box_cells X1.out.1
    have kc := K.k3 w12 _ _ HB12.out X0.out.2 X1.out.2
    rw [hW12] at p0 p1 p2 q0 q1 q2
    go_wp2_with fail
    rw [← hW12]
    clear hW12
    refine kc.mono ?_
    rintro r v13 ⟨s13, a13, n13, c13, e13, rfl, hp, hb⟩
    obtain ⟨w13, hW13⟩ : ∃ w13, w13 = v13.alloc (.cells #[.bool s13, .slice a13 n13 c13, .int .i64 e13] 25) := ⟨_, rfl⟩
    have hb' : Below w12.heap.size w12 w13 := by rw [hW13]; exact hb.alloc hb.size _
    have X8 : Hid (BB 25 P3 w13 (v13.heap.size) (s13) a13 (n13) c13 (e13)) := (by rw [hW13]; exact BB.new K.lP3 hp : BB 25 P3 w13 (v13.heap.size) (s13) a13 (n13) c13 (e13))
    replace X0 : Hid (BB 25 PX w13 (g 0) (ng 0) xa (ln 0) xc (e 0)) := X0.out.later K.lPX hb'
    replace X1 : Hid (BB 25 PY w13 (g 1) (ng 1) ya (ln 1) yc (e 1)) := X1.out.later K.lPY hb'
    replace X2 : Hid (BB 24 Any w13 (w.heap.size) (ng 0) (ao 0) (ln 0) (cp 0) (e 0)) := X2.out.later Any.lasts hb'
    replace X3 : Hid (BB 24 Any w13 (w.heap.size + 1) (ng 1) (ao 1) (ln 1) (cp 1) (e 1)) := X3.out.later Any.lasts hb'
    replace X4 : Hid (BB 25 P1 w13 (v9.heap.size) (s9) a9 (n9) c9 (e9)) := X4.out.later K.lP1 hb'
    replace X5 : Hid (BB 24 R1 w13 (v10.heap.size) (s10) a10 (n10) c10 (e10)) := X5.out.later K.lR1 hb'
    replace X6 : Hid (BB 25 P2 w13 (v11.heap.size) (s11) a11 (n11) c11 (e11)) := X6.out.later K.lP2 hb'
    replace X7 : Hid (BB 24 R2 w13 (v12.heap.size) (s12) a12 (n12) c12 (e12)) := X7.out.later K.lR2 hb'
    have HB13 : Hid (Below w.heap.size w w13) := HB12.out.trans (hb'.mono HB12.out.size)
    clear kc hb hb' hp p0 p1 p2 q0 q1 q2 HB12
    obtain ⟨⟨p0, p1, p2⟩, -⟩ := box_cells29 X2.out.1
    obtain ⟨⟨q0, q1, q2⟩, -⟩ := box_cells29 X3.out.1
    have kc := K.q3 w13 HB13.out
    rw [hW13] at p0 p1 p2 q0 q1 q2
    go_wp2_with fail
    rw [← hW13]
    clear hW13
    refine kc.mono ?_
    rintro r v14 ⟨s14, a14, n14, c14, e14, rfl, hp, hb⟩
    obtain ⟨w14, hW14⟩ : ∃ w14, w14 = v14.alloc (.cells #[.bool s14, .slice a14 n14 c14, .int .i64 e14] 24) := ⟨_, rfl⟩
    have hb' : Below w13.heap.size w13 w14 := by rw [hW14]; exact hb.alloc hb.size _
    have X9 : Hid (BB 24 R3 w14 (v14.heap.size) (s14) a14 (n14) c14 (e14)) := (by rw [hW14]; exact BB.new K.lR3 hp : BB 24 R3 w14 (v14.heap.size) (s14) a14 (n14) c14 (e14))
    replace X0 : Hid (BB 25 PX w14 (g 0) (ng 0) xa (ln 0) xc (e 0)) := X0.out.later K.lPX hb'
    replace X1 : Hid (BB 25 PY w14 (g 1) (ng 1) ya (ln 1) yc (e 1)) := X1.out.later K.lPY hb'
    replace X2 : Hid (BB 24 Any w14 (w.heap.size) (ng 0) (ao 0) (ln 0) (cp 0) (e 0)) := X2.out.later Any.lasts hb'
    replace X3 : Hid (BB 24 Any w14 (w.heap.size + 1) (ng 1) (ao 1) (ln 1) (cp 1) (e 1)) := X3.out.later Any.lasts hb'
    replace X4 : Hid (BB 25 P1 w14 (v9.heap.size) (s9) a9 (n9) c9 (e9)) := X4.out.later K.lP1 hb'
    replace X5 : Hid (BB 24 R1 w14 (v10.heap.size) (s10) a10 (n10) c10 (e10)) := X5.out.later K.lR1 hb'
    replace X6 : Hid (BB 25 P2 w14 (v11.heap.size) (s11) a11 (n11) c11 (e11)) := X6.out.later K.lP2 hb'
    replace X7 : Hid (BB 24 R2 w14 (v12.heap.size) (s12) a12 (n12) c12 (e12)) := X7.out.later K.lR2 hb'
    replace X8 : Hid (BB 25 P3 w14 (v13.heap.size) (s13) a13 (n13) c13 (e13)) := X8.out.later K.lP3 hb'
    have HB14 : Hid (Below w.heap.size w w14) := HB13.out.trans (hb'.mono HB13.out.size)
    clear kc hb hb' hp p0 p1 p2 q0 q1 q2 HB13
    obtain ⟨⟨p0, p1, p2⟩, -⟩ := box_cells X0.out.1
    have kc := K.k4 w14 _ HB14.out X0.out.2
    rw [hW14] at p0 p1 p2
    go_wp2_with fail
    rw [← hW14]
    clear hW14
    refine kc.mono ?_
    rintro r v15 ⟨s15, a15, n15, c15, e15, rfl, hp, hb⟩
    obtain ⟨w15, hW15⟩ : ∃ w15, w15 = v15.alloc (.cells #[.bool s15, .slice a15 n15 c15, .int .i64 e15] 25) := ⟨_, rfl⟩
    have hb' : Below w14.heap.size w14 w15 := by rw [hW15]; exact hb.alloc hb.size _
    have X10 : Hid (BB 25 P4 w15 (v15.heap.size) (s15) a15 (n15) c15 (e15)) := (by rw [hW15]; exact BB.new K.lP4 hp : BB 25 P4 w15 (v15.heap.size) (s15) a15 (n15) c15 (e15))
    replace X0 : Hid (BB 25 PX w15 (g 0) (ng 0) xa (ln 0) xc (e 0)) := X0.out.later K.lPX hb'
    replace X1 : Hid (BB 25 PY w15 (g 1) (ng 1) ya (ln 1) yc (e 1)) := X1.out.later K.lPY hb'
    replace X2 : Hid (BB 24 Any w15 (w.heap.size) (ng 0) (ao 0) (ln 0) (cp 0) (e 0)) := X2.out.later Any.lasts hb'
    replace X3 : Hid (BB 24 Any w15 (w.heap.size + 1) (ng 1) (ao 1) (ln 1) (cp 1) (e 1)) := X3.out.later Any.lasts hb'
    replace X4 : Hid (BB 25 P1 w15 (v9.heap.size) (s9) a9 (n9) c9 (e9)) := X4.out.later K.lP1 hb'
    replace X5 : Hid (BB 24 R1 w15 (v10.heap.size) (s10) a10 (n10) c10 (e10)) := X5.out.later K.lR1 hb'
    replace X6 : Hid (BB 25 P2 w15 (v11.heap.size) (s11) a11 (n11) c11 (e11)) := X6.out.later K.lP2 hb'
    replace X7 : Hid (BB 24 R2 w15 (v12.heap.size) (s12) a12 (n12) c12 (e12)) := X7.out.later K.lR2 hb'
    replace X8 : Hid (BB 25 P3 w15 (v13.heap.size) (s13) a13 (n13) c13 (e13)) := X8.out.later K.lP3 hb'
    replace X9 : Hid (BB 24 R3 w15 (v14.heap.size) (s14) a14 (n14) c14 (e14)) := X9.out.later K.lR3 hb'
    have HB15 : Hid (Below w.heap.size w w15) := HB14.out.trans (hb'.mono HB14.out.size)
    clear kc hb hb' hp p0 p1 p2 HB14
    obtain ⟨⟨p0, p1, p2⟩, -⟩ := box_cells29 X2.out.1
    have kc := K.q4 w15 HB15.out
    rw [hW15] at p0 p1 p2
    go_wp2_with fail
    rw [← hW15]
    clear hW15
    refine kc.mono ?_
    rintro r v16 ⟨s16, a16, n16, c16, e16, rfl, hp, hb⟩
    obtain ⟨w16, hW16⟩ : ∃ w16, w16 = v16.alloc (.cells #[.bool s16, .slice a16 n16 c16, .int .i64 e16] 24) := ⟨_, rfl⟩
    have hb' : Below w15.heap.size w15 w16 := by rw [hW16]; exact hb.alloc hb.size _
    have X11 : Hid (BB 24 R4 w16 (v16.heap.size) (s16) a16 (n16) c16 (e16)) := (by rw [hW16]; exact BB.new K.lR4 hp : BB 24 R4 w16 (v16.heap.size) (s16) a16 (n16) c16 (e16))
    replace X0 : Hid (BB 25 PX w16 (g 0) (ng 0) xa (ln 0) xc (e 0)) := X0.out.later K.lPX hb'
    replace X1 : Hid (BB 25 PY w16 (g 1) (ng 1) ya (ln 1) yc (e 1)) := X1.out.later K.lPY hb'
    replace X2 : Hid (BB 24 Any w16 (w.heap.size) (ng 0) (ao 0) (ln 0) (cp 0) (e 0)) := X2.out.later Any.lasts hb'
    replace X3 : Hid (BB 24 Any w16 (w.heap.size + 1) (ng 1) (ao 1) (ln 1) (cp 1) (e 1)) := X3.out.later Any.lasts hb'
    replace X4 : Hid (BB 25 P1 w16 (v9.heap.size) (s9) a9 (n9) c9 (e9)) := X4.out.later K.lP1 hb'
    replace X5 : Hid (BB 24 R1 w16 (v10.heap.size) (s10) a10 (n10) c10 (e10)) := X5.out.later K.lR1 hb'
    replace X6 : Hid (BB 25 P2 w16 (v11.heap.size) (s11) a11 (n11) c11 (e11)) := X6.out.later K.lP2 hb'
    replace X7 : Hid (BB 24 R2 w16 (v12.heap.size) (s12) a12 (n12) c12 (e12)) := X7.out.later K.lR2 hb'
    replace X8 : Hid (BB 25 P3 w16 (v13.heap.size) (s13) a13 (n13) c13 (e13)) := X8.out.later K.lP3 hb'
    replace X9 : Hid (BB 24 R3 w16 (v14.heap.size) (s14) a14 (n14) c14 (e14)) := X9.out.later K.lR3 hb'
    replace X10 : Hid (BB 25 P4 w16 (v15.heap.size) (s15) a15 (n15) c15 (e15)) := X10.out.later K.lP4 hb'
    have HB16 : Hid (Below w.heap.size w w16) := HB15.out.trans (hb'.mono HB15.out.size)
    clear kc hb hb' hp p0 p1 p2 HB15
    obtain ⟨⟨p0, p1, p2⟩, -⟩ := box_cells X4.out.1
    obtain ⟨⟨q0, q1, q2⟩, -⟩ := box_cells29 X5.out.1
    have kc := K.s1 w16 _ _ X4.out.2 X5.out.2
    rw [hW16] at p0 p1 p2 q0 q1 q2
    go_wp2_with fail
    rw [← hW16]
    clear hW16
    refine kc.mono ?_
    rintro r w20 ⟨rfl, hb'⟩
    replace X0 : Hid (BB 25 PX w20 (g 0) (ng 0) xa (ln 0) xc (e 0)) := X0.out.later K.lPX hb'
    replace X1 : Hid (BB 25 PY w20 (g 1) (ng 1) ya (ln 1) yc (e 1)) := X1.out.later K.lPY hb'
    replace X2 : Hid (BB 24 Any w20 (w.heap.size) (ng 0) (ao 0) (ln 0) (cp 0) (e 0)) := X2.out.later Any.lasts hb'
    replace X3 : Hid (BB 24 Any w20 (w.heap.size + 1) (ng 1) (ao 1) (ln 1) (cp 1) (e 1)) := X3.out.later Any.lasts hb'
    replace X4 : Hid (BB 25 P1 w20 (v9.heap.size) (s9) a9 (n9) c9 (e9)) := X4.out.later K.lP1 hb'
    replace X5 : Hid (BB 24 R1 w20 (v10.heap.size) (s10) a10 (n10) c10 (e10)) := X5.out.later K.lR1 hb'
    replace X6 : Hid (BB 25 P2 w20 (v11.heap.size) (s11) a11 (n11) c11 (e11)) := X6.out.later K.lP2 hb'
    replace X7 : Hid (BB 24 R2 w20 (v12.heap.size) (s12) a12 (n12) c12 (e12)) := X7.out.later K.lR2 hb'
    replace X8 : Hid (BB 25 P3 w20 (v13.heap.size) (s13) a13 (n13) c13 (e13)) := X8.out.later K.lP3 hb'
    replace X9 : Hid (BB 24 R3 w20 (v14.heap.size) (s14) a14 (n14) c14 (e14)) := X9.out.later K.lR3 hb'
    replace X10 : Hid (BB 25 P4 w20 (v15.heap.size) (s15) a15 (n15) c15 (e15)) := X10.out.later K.lP4 hb'
    replace X11 : Hid (BB 24 R4 w20 (v16.heap.size) (s16) a16 (n16) c16 (e16)) := X11.out.later K.lR4 hb'
    have HB20 : Hid (Below w.heap.size w w20) := HB16.out.trans (hb'.mono HB16.out.size)
    clear kc hb' p0 p1 p2 q0 q1 q2 HB16
    obtain ⟨⟨p0, p1, p2⟩, -⟩ := box_cells X6.out.1
    obtain ⟨⟨q0, q1, q2⟩, -⟩ := box_cells29 X7.out.1
    have kc := K.s2 w20 _ _ X6.out.2 X7.out.2
    go_wp2_with fail
    refine kc.mono ?_
    rintro r w21 ⟨rfl, hb'⟩
    replace X0 : Hid (BB 25 PX w21 (g 0) (ng 0) xa (ln 0) xc (e 0)) := X0.out.later K.lPX hb'
    replace X1 : Hid (BB 25 PY w21 (g 1) (ng 1) ya (ln 1) yc (e 1)) := X1.out.later K.lPY hb'
    replace X2 : Hid (BB 24 Any w21 (w.heap.size) (ng 0) (ao 0) (ln 0) (cp 0) (e 0)) := X2.out.later Any.lasts hb'
    replace X3 : Hid (BB 24 Any w21 (w.heap.size + 1) (ng 1) (ao 1) (ln 1) (cp 1) (e 1)) := X3.out.later Any.lasts hb'
    replace X4 : Hid (BB 25 P1 w21 (v9.heap.size) (s9) a9 (n9) c9 (e9)) := X4.out.later K.lP1 hb'
    replace X5 : Hid (BB 24 R1 w21 (v10.heap.size) (s10) a10 (n10) c10 (e10)) := X5.out.later K.lR1 hb'
    replace X6 : Hid (BB 25 P2 w21 (v11.heap.size) (s11) a11 (n11) c11 (e11)) := X6.out.later K.lP2 hb'
    replace X7 : Hid (BB 24 R2 w21 (v12.heap.size) (s12) a12 (n12) c12 (e12)) := X7.out.later K.lR2 hb'
    replace X8 : Hid (BB 25 P3 w21 (v13.heap.size) (s13) a13 (n13) c13 (e13)) := X8.out.later K.lP3 hb'
    replace X9 : Hid (BB 24 R3 w21 (v14.heap.size) (s14) a14 (n14) c14 (e14)) := X9.out.later K.lR3 hb'
    replace X10 : Hid (BB 25 P4 w21 (v15.heap.size) (s15) a15 (n15) c15 (e15)) := X10.out.later K.lP4 hb'
    replace X11 : Hid (BB 24 R4 w21 (v16.heap.size) (s16) a16 (n16) c16 (e16)) := X11.out.later K.lR4 hb'
    have HB21 : Hid (Below w.heap.size w w21) := HB20.out.trans (hb'.mono HB20.out.size)
    clear kc hb' p0 p1 p2 q0 q1 q2 HB20
    obtain ⟨⟨p0, p1, p2⟩, -⟩ := box_cells X8.out.1
    obtain ⟨⟨q0, q1, q2⟩, -⟩ := box_cells29 X9.out.1
    have kc := K.s3 w21 _ _ X8.out.2 X9.out.2
    go_wp2_with fail
    refine kc.mono ?_
    rintro r w22 ⟨rfl, hb'⟩
    replace X0 : Hid (BB 25 PX w22 (g 0) (ng 0) xa (ln 0) xc (e 0)) := X0.out.later K.lPX hb'
    replace X1 : Hid (BB 25 PY w22 (g 1) (ng 1) ya (ln 1) yc (e 1)) := X1.out.later K.lPY hb'
    replace X2 : Hid (BB 24 Any w22 (w.heap.size) (ng 0) (ao 0) (ln 0) (cp 0) (e 0)) := X2.out.later Any.lasts hb'
    replace X3 : Hid (BB 24 Any w22 (w.heap.size + 1) (ng 1) (ao 1) (ln 1) (cp 1) (e 1)) := X3.out.later Any.lasts hb'
    replace X4 : Hid (BB 25 P1 w22 (v9.heap.size) (s9) a9 (n9) c9 (e9)) := X4.out.later K.lP1 hb'
    replace X5 : Hid (BB 24 R1 w22 (v10.heap.size) (s10) a10 (n10) c10 (e10)) := X5.out.later K.lR1 hb'
    replace X6 : Hid (BB 25 P2 w22 (v11.heap.size) (s11) a11 (n11) c11 (e11)) := X6.out.later K.lP2 hb'
    replace X7 : Hid (BB 24 R2 w22 (v12.heap.size) (s12) a12 (n12) c12 (e12)) := X7.out.later K.lR2 hb'
    replace X8 : Hid (BB 25 P3 w22 (v13.heap.size) (s13) a13 (n13) c13 (e13)) := X8.out.later K.lP3 hb'
    replace X9 : Hid (BB 24 R3 w22 (v14.heap.size) (s14) a14 (n14) c14 (e14)) := X9.out.later K.lR3 hb'
    replace X10 : Hid (BB 25 P4 w22 (v15.heap.size) (s15) a15 (n15) c15 (e15)) := X10.out.later K.lP4 hb'
    replace X11 : Hid (BB 24 R4 w22 (v16.heap.size) (s16) a16 (n16) c16 (e16)) := X11.out.later K.lR4 hb'
    have HB22 : Hid (Below w.heap.size w w22) := HB21.out.trans (hb'.mono HB21.out.size)
    clear kc hb' p0 p1 p2 q0 q1 q2 HB21
    obtain ⟨⟨p0, p1, p2⟩, -⟩ := box_cells X10.out.1
    obtain ⟨⟨q0, q1, q2⟩, -⟩ := box_cells29 X11.out.1
    have kc := K.s4 w22 _ _ X10.out.2 X11.out.2
    go_wp2_with fail
    refine kc.mono ?_
    rintro r w23 ⟨rfl, hb'⟩
    replace X0 : Hid (BB 25 PX w23 (g 0) (ng 0) xa (ln 0) xc (e 0)) := X0.out.later K.lPX hb'
    replace X1 : Hid (BB 25 PY w23 (g 1) (ng 1) ya (ln 1) yc (e 1)) := X1.out.later K.lPY hb'
    replace X2 : Hid (BB 24 Any w23 (w.heap.size) (ng 0) (ao 0) (ln 0) (cp 0) (e 0)) := X2.out.later Any.lasts hb'
    replace X3 : Hid (BB 24 Any w23 (w.heap.size + 1) (ng 1) (ao 1) (ln 1) (cp 1) (e 1)) := X3.out.later Any.lasts hb'
    replace X4 : Hid (BB 25 P1 w23 (v9.heap.size) (s9) a9 (n9) c9 (e9)) := X4.out.later K.lP1 hb'
    replace X5 : Hid (BB 24 R1 w23 (v10.heap.size) (s10) a10 (n10) c10 (e10)) := X5.out.later K.lR1 hb'
    replace X6 : Hid (BB 25 P2 w23 (v11.heap.size) (s11) a11 (n11) c11 (e11)) := X6.out.later K.lP2 hb'
    replace X7 : Hid (BB 24 R2 w23 (v12.heap.size) (s12) a12 (n12) c12 (e12)) := X7.out.later K.lR2 hb'
    replace X8 : Hid (BB 25 P3 w23 (v13.heap.size) (s13) a13 (n13) c13 (e13)) := X8.out.later K.lP3 hb'
    replace X9 : Hid (BB 24 R3 w23 (v14.heap.size) (s14) a14 (n14) c14 (e14)) := X9.out.later K.lR3 hb'
    replace X10 : Hid (BB 25 P4 w23 (v15.heap.size) (s15) a15 (n15) c15 (e15)) := X10.out.later K.lP4 hb'
    replace X11 : Hid (BB 24 R4 w23 (v16.heap.size) (s16) a16 (n16) c16 (e16)) := X11.out.later K.lR4 hb'
    have HB23 : Hid (Below w.heap.size w w23) := HB22.out.trans (hb'.mono HB22.out.size)
    clear kc hb' p0 p1 p2 q0 q1 q2 HB22
    obtain ⟨⟨p0, p1, p2⟩, -⟩ := box_cells X0.out.1
    obtain ⟨⟨q0, q1, q2⟩, -⟩ := box_cells29 X2.out.1
    have kc := K.s5 w23 _ HB23.out X0.out.2
    go_wp2_with fail
    refine kc.mono ?_
    rintro r w24 ⟨rfl, hb'⟩
    replace X0 : Hid (BB 25 PX w24 (g 0) (ng 0) xa (ln 0) xc (e 0)) := X0.out.later K.lPX hb'
    replace X1 : Hid (BB 25 PY w24 (g 1) (ng 1) ya (ln 1) yc (e 1)) := X1.out.later K.lPY hb'
    replace X2 : Hid (BB 24 Any w24 (w.heap.size) (ng 0) (ao 0) (ln 0) (cp 0) (e 0)) := X2.out.later Any.lasts hb'
    replace X3 : Hid (BB 24 Any w24 (w.heap.size + 1) (ng 1) (ao 1) (ln 1) (cp 1) (e 1)) := X3.out.later Any.lasts hb'
    replace X4 : Hid (BB 25 P1 w24 (v9.heap.size) (s9) a9 (n9) c9 (e9)) := X4.out.later K.lP1 hb'
    replace X5 : Hid (BB 24 R1 w24 (v10.heap.size) (s10) a10 (n10) c10 (e10)) := X5.out.later K.lR1 hb'
    replace X6 : Hid (BB 25 P2 w24 (v11.heap.size) (s11) a11 (n11) c11 (e11)) := X6.out.later K.lP2 hb'
    replace X7 : Hid (BB 24 R2 w24 (v12.heap.size) (s12) a12 (n12) c12 (e12)) := X7.out.later K.lR2 hb'
    replace X8 : Hid (BB 25 P3 w24 (v13.heap.size) (s13) a13 (n13) c13 (e13)) := X8.out.later K.lP3 hb'
    replace X9 : Hid (BB 24 R3 w24 (v14.heap.size) (s14) a14 (n14) c14 (e14)) := X9.out.later K.lR3 hb'
    replace X10 : Hid (BB 25 P4 w24 (v15.heap.size) (s15) a15 (n15) c15 (e15)) := X10.out.later K.lP4 hb'
    replace X11 : Hid (BB 24 R4 w24 (v16.heap.size) (s16) a16 (n16) c16 (e16)) := X11.out.later K.lR4 hb'
    have HB24 : Hid (Below w.heap.size w w24) := HB23.out.trans (hb'.mono HB23.out.size)
    clear kc hb' p0 p1 p2 q0 q1 q2 HB23
    obtain ⟨⟨p0, p1, p2⟩, -⟩ := box_cells X1.out.1
    obtain ⟨⟨q0, q1, q2⟩, -⟩ := box_cells29 X3.out.1
    have kc := K.s6 w24 _ HB24.out X1.out.2
    go_wp2_with fail
    refine kc.mono ?_
    rintro r w25 ⟨rfl, hb'⟩
    replace X0 : Hid (BB 25 PX w25 (g 0) (ng 0) xa (ln 0) xc (e 0)) := X0.out.later K.lPX hb'
    replace X1 : Hid (BB 25 PY w25 (g 1) (ng 1) ya (ln 1) yc (e 1)) := X1.out.later K.lPY hb'
    replace X2 : Hid (BB 24 Any w25 (w.heap.size) (ng 0) (ao 0) (ln 0) (cp 0) (e 0)) := X2.out.later Any.lasts hb'
    replace X3 : Hid (BB 24 Any w25 (w.heap.size + 1) (ng 1) (ao 1) (ln 1) (cp 1) (e 1)) := X3.out.later Any.lasts hb'
    replace X4 : Hid (BB 25 P1 w25 (v9.heap.size) (s9) a9 (n9) c9 (e9)) := X4.out.later K.lP1 hb'
    replace X5 : Hid (BB 24 R1 w25 (v10.heap.size) (s10) a10 (n10) c10 (e10)) := X5.out.later K.lR1 hb'
    replace X6 : Hid (BB 25 P2 w25 (v11.heap.size) (s11) a11 (n11) c11 (e11)) := X6.out.later K.lP2 hb'
    replace X7 : Hid (BB 24 R2 w25 (v12.heap.size) (s12) a12 (n12) c12 (e12)) := X7.out.later K.lR2 hb'
    replace X8 : Hid (BB 25 P3 w25 (v13.heap.size) (s13) a13 (n13) c13 (e13)) := X8.out.later K.lP3 hb'
    replace X9 : Hid (BB 24 R3 w25 (v14.heap.size) (s14) a14 (n14) c14 (e14)) := X9.out.later K.lR3 hb'
    replace X10 : Hid (BB 25 P4 w25 (v15.heap.size) (s15) a15 (n15) c15 (e15)) := X10.out.later K.lP4 hb'
    replace X11 : Hid (BB 24 R4 w25 (v16.heap.size) (s16) a16 (n16) c16 (e16)) := X11.out.later K.lR4 hb'
    have HB25 : Hid (Below w.heap.size w w25) := HB24.out.trans (hb'.mono HB24.out.size)
    clear kc hb' p0 p1 p2 q0 q1 q2 HB24
    have kc := K.works w25 HB25.out
    go_wp2_with fail
    refine kc.mono ?_
    rintro r w26 ⟨rfl, hb'⟩
    have HB26 : Hid (Below w.heap.size w w26) := HB25.out.trans (hb'.mono HB25.out.size)
    clear kc hb'
    go_wp2_with fail
    go_ret
    exact ⟨rfl, HB26.out⟩
end Go.Proofs.YtejefbnfmglfeaaGreatDoor

/- The document's and the program's Add, Sub, Mul, Shift, of all numbers. -/
namespace Go.Proofs.YtejefbnfmglfeaaGreatDoor
set_option linter.unusedVariables false
set_option linter.unusedSimpArgs false
open Go.RowKit

theorem okN_len {s : Bool} {n z : Nat} {e : Int} (hz : dlen z ≤ n) (h : okN s n z e = true) : dlen z = n := by
  refine dlen_here hz ?_
  by_cases h0 : n = 0
  · exact .inl h0
  · right
    unfold okN at h
    rw [if_neg h0] at h
    simp only [Bool.and_eq_true, bne_iff_ne, ne_eq] at h
    exact h.1.1.1.2

/-- the second number turned -/
def ngT (nb : Bool) (y : Nat) : Bool := !nb && decide (0 < dlen y)
theorem ok_ng {nb : Bool} {y : Nat} {eb : Int} (h : Ok (nb, y, eb)) : Ok (ngT nb y, y, eb) := by
  have f := h.facts
  simp only at f
  unfold Ok okN ngT at *
  simp only at h ⊢
  by_cases h0 : dlen y = 0
  · rw [if_pos h0] at h ⊢
    have : ¬ 0 < dlen y := by omega
    simp [this] at h ⊢
    exact h.1
  · rw [if_neg h0] at h ⊢
    exact h

theorem rsub {na nb : Bool} {ua va : Option Addr} {uc vc x y : Nat} {ea eb : Int} {w : World} (h1 : Arg w ua (dlen x) uc x) (h2 : Arg w va (dlen y) vc y) (ok1 : Ok (na, x, ea)) (ok2 : Ok (nb, y, eb)) :
    Calls Tryz.prog 31 #[.agg #[.bool na, .slice ua (dlen x) uc, .int .i64 ea], .agg #[.bool nb, .slice va (dlen y) vc, .int .i64 eb]] w fun r w' => AnsR w (okR (sumN na x ea (ngT nb y) y eb).1 (sumN na x ea (ngT nb y) y eb).2.1 (sumN na x ea (ngT nb y) y eb).2.2) (cn (sumN na x ea (ngT nb y) y eb).1 (sumN na x ea (ngT nb y) y eb).2.1 (sumN na x ea (ngT nb y) y eb).2.2) r w' := by
  have f2 := ok2.facts
  simp only at f2
  have k67 : ∀ W g, Below w.heap.size w W → W.heap[g]? = some (.cells #[.bool na, .slice ua (dlen x) uc, .int .i64 ea, .bool nb, .slice va (dlen y) vc, .int .i64 eb] 24 (0, 0)) → Calls Tryz.prog 68 #[.slice (some ⟨g, 0, none⟩) 2 2] W fun r w' => r = .returned (.bool true) ∧ Below W.heap.size W w' := fun W g hW hg => by
    have := rknown2 hg (h1.later hW) (h2.later hW)
    rw [show okN na (dlen x) x ea = true from ok1, show okN nb (dlen y) y eb = true from ok2] at this
    exact this
  have ok3 := ok_ng ok2
  by_cases y0 : y = 0
  · have e0 := f2.2.2.2.1 y0
    simp only [Prod.mk.injEq] at e0
    obtain ⟨rfl, -, rfl⟩ := e0
    subst y0
    have e1 : ngT false 0 = false := by unfold ngT; rw [dlen_zero]; rfl
    rw [e1]
    refine rsub_1 na false ua va _ uc _ vc ea 0 false none 0 0 0 _ _ w k67 (fun W => by rw [dlen_zero]; exact rminus_0 false va vc 0 W) (fun W hW => ?_)
    have := radd (na := na) (nb := false) (ua := ua) (va := none) (uc := uc) (vc := 0) (x := x) (y := 0) (ea := ea) (eb := 0) (h1.later hW) (by rw [dlen_zero]; exact ⟨fun _ => .inr ⟨rfl, rfl⟩, ⟨0, 0, fun h => by omega, fun i hi => by omega⟩, Nat.le_refl _, by omega⟩) ok1 ok2
    rw [dlen_zero] at this
    exact this
  · have e1 : ngT nb y = !nb := by
      unfold ngT
      rw [decide_eq_true (Nat.pos_of_ne_zero fun e => y0 (dlen_eq_zero.1 e)), Bool.and_true]
    rw [e1] at ok3 ⊢
    exact rsub_1 na nb ua va _ uc _ vc ea eb (!nb) va _ vc eb _ _ w k67 (fun W => rminus_1 nb va _ vc eb W (by omega) (len_ne (n := 0) y0)) (fun W hW => radd (h1.later hW) (h2.later hW) ok1 ok3)

theorem rmul {na nb : Bool} {ua va : Option Addr} {uc vc x y : Nat} {ea eb : Int} {w : World} (h1 : Arg w ua (dlen x) uc x) (h2 : Arg w va (dlen y) vc y) (ok1 : Ok (na, x, ea)) (ok2 : Ok (nb, y, eb)) :
    Calls Tryz.prog 33 #[.agg #[.bool na, .slice ua (dlen x) uc, .int .i64 ea], .agg #[.bool nb, .slice va (dlen y) vc, .int .i64 eb]] w fun r w' => AnsR w (okR (!(na == nb)) (x * y) (ea + eb)) (cn (!(na == nb)) (x * y) (ea + eb)) r w' := by
  have f1 := ok1.facts
  have f2 := ok2.facts
  simp only at f1 f2
  refine (rmul_ok (na := na) (nb := nb) (x := x) (y := y) (ea := ea) (eb := eb) h1 h2 (by omega) (by omega) (by omega) (by omega) ok1 ok2).mono ?_
  rintro r w' ⟨A, rfl, hN, hb⟩
  cases okR (!(na == nb)) (x * y) (ea + eb)
  · exact ⟨_, rfl, rn_nil w' _, hb⟩
  · exact ⟨A, rfl, hN.rn, hb⟩
end Go.Proofs.YtejefbnfmglfeaaGreatDoor

/- DyadSums. -/
namespace Go.Proofs.YtejefbnfmglfeaaGreatDoor
set_option linter.unusedVariables false
set_option linter.unusedSimpArgs false
open Go.RowKit

/-- mayBe of two numbers, that may be or not -/
theorem maybe2_at {na nb : Bool} {ua va : Option Addr} {un uc vn vc x y g : Nat} {ea eb : Int} {W : World} (hg : W.heap[g]? = some (.cells #[.bool na, .slice ua un uc, .int .i64 ea, .bool nb, .slice va vn vc, .int .i64 eb] 25 (0, 0)))
    (h1 : At W ua un x) (h2 : At W va vn y) (hx : un ≤ 35184372088832) (hy : vn ≤ 35184372088832) :
    Calls Tryz.prog 42 #[.slice (some ⟨g, 0, none⟩) 2 2] W fun r w' => r = .returned (.bool (okN na un x ea && okN nb vn y eb)) ∧ Below W.heap.size W w' := by
  have k := c67 g 2 (fun i => if i = 0 then na else nb) (fun i => if i = 0 then ua else va) (fun i => if i = 0 then un else vn) (fun i => if i = 0 then uc else vc) (fun i => if i = 0 then x else y) (fun i => if i = 0 then ea else eb) W (by omega)
    (fun i hi => by rcases (show i = 0 ∨ i = 1 by omega) with rfl | rfl <;> simp [World.cell?, hg])
    (fun i hi => by rcases (show i = 0 ∨ i = 1 by omega) with rfl | rfl <;> simp [World.cell?, hg])
    (fun i hi => by rcases (show i = 0 ∨ i = 1 by omega) with rfl | rfl <;> simp [World.cell?, hg])
    (fun i hi => by rcases (show i = 0 ∨ i = 1 by omega) with rfl | rfl <;> simp <;> assumption)
    (fun i hi => by rcases (show i = 0 ∨ i = 1 by omega) with rfl | rfl <;> simp <;> omega)
  refine k.mono ?_
  rintro r w' ⟨rfl, hb⟩
  refine ⟨congrArg Ending.returned (congrArg Value.bool ?_), hb⟩
  rw [Bool.eq_iff_iff]
  simp only [decide_eq_true_eq, Bool.and_eq_true]
  constructor
  · intro h
    have h0 := h 0 (by omega)
    have h1 := h 1 (by omega)
    simp at h0 h1
    exact ⟨h0, h1⟩
  · rintro ⟨h0, h1⟩ i hi
    rcases (show i = 0 ∨ i = 1 by omega) with rfl | rfl
    · simpa using h0
    · simpa using h1
theorem maybe1_at {na : Bool} {ua : Option Addr} {un uc x g : Nat} {ea : Int} {W : World} (hg : W.heap[g]? = some (.cells #[.bool na, .slice ua un uc, .int .i64 ea] 25 (0, 0)))
    (h1 : At W ua un x) (hx : un ≤ 35184372088832) :
    Calls Tryz.prog 42 #[.slice (some ⟨g, 0, none⟩) 1 1] W fun r w' => r = .returned (.bool (okN na un x ea)) ∧ Below W.heap.size W w' := by
  have k := c67 g 1 (fun _ => na) (fun _ => ua) (fun _ => un) (fun _ => uc) (fun _ => x) (fun _ => ea) W (by omega)
    (fun i hi => by obtain rfl : i = 0 := by omega
                    simp [World.cell?, hg])
    (fun i hi => by obtain rfl : i = 0 := by omega
                    simp [World.cell?, hg])
    (fun i hi => by obtain rfl : i = 0 := by omega
                    simp [World.cell?, hg])
    (fun i hi => h1) (fun i hi => hx)
  refine k.mono ?_
  rintro r w' ⟨rfl, hb⟩
  refine ⟨congrArg Ending.returned (congrArg Value.bool ?_), hb⟩
  rw [Bool.eq_iff_iff]
  simp only [decide_eq_true_eq]
  exact ⟨fun h => h 0 (by omega), fun h i _ => h⟩

/-- digits that give laid -/
def PI (s : Bool) (n z : Nat) (e : Int) (W : World) (A : Value) : Prop := ∃ v b, A = .agg #[.bool s, v, .int .i64 e] ∧ Dn W b v n z
theorem PI.lasts (s : Bool) (n z : Nat) (e : Int) : Lasts (PI s n z e) := fun W W' A hb ⟨v, b, h1, h2⟩ => ⟨v, b, h1, h2.later hb⟩
theorem PN.lasts (t : Bool × Nat × Int) : Lasts (fun W A => PN W A t) := fun W W' A hb h => h.later hb
theorem RN.lasts (t : Bool × Nat × Int) : Lasts (fun W A => ∃ b, RN W b A t) := fun W W' A hb ⟨b, h⟩ => ⟨b, h.later hb⟩
theorem pn_nil (w : World) : PN w (.agg #[.bool false, .slice none 0 0, .int .i64 0]) (false, 0, 0) := ⟨none, 0, by rw [dlen_zero], by rw [dlen_zero]; exact is_nil w⟩

theorem held_out {w : World} {s : Bool} {z : Nat} {e : Int} {r : Ending} {w' : World} (h : Held w s z e r w') : Out w (fun W A => PN W A (Ans (okR s z e) (cn s z e))) (if okR s z e then 0 else 2) r w' := by
  obtain ⟨A, rfl, hN, hb⟩ := h
  have hp := hN.pn
  cases hV : okR s z e
  · exact ⟨_, _, _, _, _, rfl, pn_nil w', hb⟩
  · obtain ⟨s', ao, n, cap, e', rfl⟩ := hp.shape
    exact ⟨s', ao, n, cap, e', rfl, hp, hb⟩
theorem ansR_out {w : World} {V : Bool} {t : Bool × Nat × Int} {r : Ending} {w' : World} (h : AnsR w V t r w') : Out w (fun W A => ∃ b, RN W b A (Ans V t)) (if V then 0 else 2) r w' := by
  obtain ⟨A, rfl, hN, hb⟩ := h
  obtain ⟨s', ao, n, cap, e', rfl⟩ := hN.shape
  exact ⟨s', ao, n, cap, e', rfl, ⟨_, hN⟩, hb⟩
theorem Ans.len {V : Bool} {t : Bool × Nat × Int} (h : V = true → dlen t.2.1 ≤ 35184372088832) : dlen (Ans V t).2.1 ≤ 35184372088832 := by
  unfold Ans
  cases V
  · rw [if_neg (by simp)]; show dlen 0 ≤ _; rw [dlen_zero]; omega
  · rw [if_pos rfl]; exact h rfl
theorem ok_len {s : Bool} {z : Nat} {e : Int} (h : okR s z e = true) : dlen (cn s z e).2.1 ≤ 35184372088832 := by
  have := (ok_cn h).facts.1
  omega

theorem join_Add {na nb : Bool} {ua va : Option Addr} {un uc vn vc x y : Nat} {ea eb : Int} {w : World} (hT : Tab32 w) (h1 : Arg w ua un uc x) (h2 : Arg w va vn vc y) (hx : dlen x ≤ un) (hy : dlen y ≤ vn) :
    ∃ t E, dlen t.2.1 ≤ 35184372088832 ∧
      (∀ W X Y, Below w.heap.size w W → PI na un x ea W X → PI nb vn y eb W Y → Calls Tryz.prog 28 #[X, Y] W fun r w' => Out W (fun W A => PN W A t) E r w') ∧
      (∀ W, Below w.heap.size w W → Calls Tryz.prog 29 #[.agg #[.bool na, .slice ua un uc, .int .i64 ea], .agg #[.bool nb, .slice va vn vc, .int .i64 eb]] W fun r w' => Out W (fun W A => ∃ b, RN W b A t) E r w') := by
  cases hok : (okN na un x ea && okN nb vn y eb)
  · refine ⟨(false, 0, 0), 1, by rw [dlen_zero]; omega, fun W X Y hW hX hY => ?_, fun W hW => ?_⟩
    · obtain ⟨v, b, rfl, d1⟩ := hX
      obtain ⟨v', b', rfl, d2⟩ := hY
      obtain ⟨pa, pc, rfl, p1, p2⟩ := d1.at
      obtain ⟨qa, qc, rfl, q1, q2⟩ := d2.at
      refine (c34_2 na nb pa qa un pc vn qc ea eb W (fun W' g hW' hg => by
        have := maybe2_at hg (p2.later hW') (q2.later hW') h1.small h2.small
        rw [hok] at this
        exact this)).mono ?_
      rintro r w' ⟨rfl, hb⟩
      exact ⟨_, _, _, _, _, rfl, pn_nil w', hb⟩
    · refine (radd_no na nb ua va un uc vn vc ea eb W (fun W' g hW' hg => by
        have := rknown2 hg ((h1.later hW).later hW') ((h2.later hW).later hW')
        rw [hok] at this
        exact this)).mono ?_
      rintro r w' ⟨rfl, hb⟩
      exact ⟨_, _, _, _, _, rfl, ⟨0, rn_nil w' 0⟩, hb⟩
  · rw [Bool.and_eq_true] at hok
    obtain ⟨o1, o2⟩ := hok
    obtain rfl := okN_len hx o1
    obtain rfl := okN_len hy o2
    have ok1 : Ok (na, x, ea) := o1
    have ok2 : Ok (nb, y, eb) := o2
    have f1 := ok1.facts
    have f2 := ok2.facts
    simp only at f1 f2
    refine ⟨Ans (okR (sumN na x ea (nb) y eb).1 (sumN na x ea (nb) y eb).2.1 (sumN na x ea (nb) y eb).2.2) (cn (sumN na x ea (nb) y eb).1 (sumN na x ea (nb) y eb).2.1 (sumN na x ea (nb) y eb).2.2), if okR (sumN na x ea (nb) y eb).1 (sumN na x ea (nb) y eb).2.1 (sumN na x ea (nb) y eb).2.2 then 0 else 2, Ans.len ok_len, fun W X Y hW hX hY => ?_, fun W hW => ?_⟩
    · obtain ⟨v, b, rfl, d1⟩ := hX
      obtain ⟨v', b', rfl, d2⟩ := hY
      obtain ⟨pa, pc, e1, i1⟩ := dn_pn (s := na) (e := ea) d1
      obtain ⟨qa, qc, e2, i2⟩ := dn_pn (s := nb) (e := eb) d2
      simp only at e1 i1 e2 i2
      rw [e1, e2]
      have hTW := hT.later hW
      exact (c34_1 na nb pa qa _ pc _ qc x y _ ea eb _ _ W (by have := sumN_len ok1 ok2; omega) (fun W' g hW hg => by
        have := maybe2 hg (i1.later hW) (i2.later hW) (by omega) (by omega)
        rw [show okN na (dlen x) x ea = true from ok1, show okN nb (dlen y) y eb = true from ok2] at this
        exact this) (fun W' hW => c87 (i1.later hW) (i2.later hW) (by omega) (by omega) (by omega) (by omega) (hTW.later hW))).mono fun r w' h => held_out h
    · exact (radd (h1.later hW) (h2.later hW) ok1 ok2).mono fun r w' h => ansR_out h

theorem join_Sub {na nb : Bool} {ua va : Option Addr} {un uc vn vc x y : Nat} {ea eb : Int} {w : World} (hT : Tab32 w) (h1 : Arg w ua un uc x) (h2 : Arg w va vn vc y) (hx : dlen x ≤ un) (hy : dlen y ≤ vn) :
    ∃ t E, dlen t.2.1 ≤ 35184372088832 ∧
      (∀ W X Y, Below w.heap.size w W → PI na un x ea W X → PI nb vn y eb W Y → Calls Tryz.prog 30 #[X, Y] W fun r w' => Out W (fun W A => PN W A t) E r w') ∧
      (∀ W, Below w.heap.size w W → Calls Tryz.prog 31 #[.agg #[.bool na, .slice ua un uc, .int .i64 ea], .agg #[.bool nb, .slice va vn vc, .int .i64 eb]] W fun r w' => Out W (fun W A => ∃ b, RN W b A t) E r w') := by
  cases hok : (okN na un x ea && okN nb vn y eb)
  · refine ⟨(false, 0, 0), 1, by rw [dlen_zero]; omega, fun W X Y hW hX hY => ?_, fun W hW => ?_⟩
    · obtain ⟨v, b, rfl, d1⟩ := hX
      obtain ⟨v', b', rfl, d2⟩ := hY
      obtain ⟨pa, pc, rfl, p1, p2⟩ := d1.at
      obtain ⟨qa, qc, rfl, q1, q2⟩ := d2.at
      refine (sub_no na nb pa qa un pc vn qc ea eb W (fun W' g hW' hg => by
        have := maybe2_at hg (p2.later hW') (q2.later hW') h1.small h2.small
        rw [hok] at this
        exact this)).mono ?_
      rintro r w' ⟨rfl, hb⟩
      exact ⟨_, _, _, _, _, rfl, pn_nil w', hb⟩
    · refine (rsub_no na nb ua va un uc vn vc ea eb W (fun W' g hW' hg => by
        have := rknown2 hg ((h1.later hW).later hW') ((h2.later hW).later hW')
        rw [hok] at this
        exact this)).mono ?_
      rintro r w' ⟨rfl, hb⟩
      exact ⟨_, _, _, _, _, rfl, ⟨0, rn_nil w' 0⟩, hb⟩
  · rw [Bool.and_eq_true] at hok
    obtain ⟨o1, o2⟩ := hok
    obtain rfl := okN_len hx o1
    obtain rfl := okN_len hy o2
    have ok1 : Ok (na, x, ea) := o1
    have ok2 : Ok (nb, y, eb) := o2
    have f1 := ok1.facts
    have f2 := ok2.facts
    simp only at f1 f2
    refine ⟨Ans (okR (sumN na x ea (ngT nb y) y eb).1 (sumN na x ea (ngT nb y) y eb).2.1 (sumN na x ea (ngT nb y) y eb).2.2) (cn (sumN na x ea (ngT nb y) y eb).1 (sumN na x ea (ngT nb y) y eb).2.1 (sumN na x ea (ngT nb y) y eb).2.2), if okR (sumN na x ea (ngT nb y) y eb).1 (sumN na x ea (ngT nb y) y eb).2.1 (sumN na x ea (ngT nb y) y eb).2.2 then 0 else 2, Ans.len ok_len, fun W X Y hW hX hY => ?_, fun W hW => ?_⟩
    · obtain ⟨v, b, rfl, d1⟩ := hX
      obtain ⟨v', b', rfl, d2⟩ := hY
      obtain ⟨pa, pc, e1, i1⟩ := dn_pn (s := na) (e := ea) d1
      obtain ⟨qa, qc, e2, i2⟩ := dn_pn (s := nb) (e := eb) d2
      simp only at e1 i1 e2 i2
      rw [e1, e2]
      have hTW := hT.later hW
      exact (sub_ok (na := na) (nb := nb) (x := x) (y := y) (ea := ea) (eb := eb) i1 i2 (by omega) (by omega) (by omega) (by omega) ok1 ok2 hTW).mono fun r w' h => held_out h
    · exact (rsub (h1.later hW) (h2.later hW) ok1 ok2).mono fun r w' h => ansR_out h

theorem join_Mul {na nb : Bool} {ua va : Option Addr} {un uc vn vc x y : Nat} {ea eb : Int} {w : World} (hT : Tab32 w) (h1 : Arg w ua un uc x) (h2 : Arg w va vn vc y) (hx : dlen x ≤ un) (hy : dlen y ≤ vn) :
    ∃ t E, dlen t.2.1 ≤ 35184372088832 ∧
      (∀ W X Y, Below w.heap.size w W → PI na un x ea W X → PI nb vn y eb W Y → Calls Tryz.prog 32 #[X, Y] W fun r w' => Out W (fun W A => PN W A t) E r w') ∧
      (∀ W, Below w.heap.size w W → Calls Tryz.prog 33 #[.agg #[.bool na, .slice ua un uc, .int .i64 ea], .agg #[.bool nb, .slice va vn vc, .int .i64 eb]] W fun r w' => Out W (fun W A => ∃ b, RN W b A t) E r w') := by
  cases hok : (okN na un x ea && okN nb vn y eb)
  · refine ⟨(false, 0, 0), 1, by rw [dlen_zero]; omega, fun W X Y hW hX hY => ?_, fun W hW => ?_⟩
    · obtain ⟨v, b, rfl, d1⟩ := hX
      obtain ⟨v', b', rfl, d2⟩ := hY
      obtain ⟨pa, pc, rfl, p1, p2⟩ := d1.at
      obtain ⟨qa, qc, rfl, q1, q2⟩ := d2.at
      refine (mul_no na nb pa qa un pc vn qc ea eb W (fun W' g hW' hg => by
        have := maybe2_at hg (p2.later hW') (q2.later hW') h1.small h2.small
        rw [hok] at this
        exact this)).mono ?_
      rintro r w' ⟨rfl, hb⟩
      exact ⟨_, _, _, _, _, rfl, pn_nil w', hb⟩
    · refine (rmul_no na nb ua va un uc vn vc ea eb W (fun W' g hW' hg => by
        have := rknown2 hg ((h1.later hW).later hW') ((h2.later hW).later hW')
        rw [hok] at this
        exact this)).mono ?_
      rintro r w' ⟨rfl, hb⟩
      exact ⟨_, _, _, _, _, rfl, ⟨0, rn_nil w' 0⟩, hb⟩
  · rw [Bool.and_eq_true] at hok
    obtain ⟨o1, o2⟩ := hok
    obtain rfl := okN_len hx o1
    obtain rfl := okN_len hy o2
    have ok1 : Ok (na, x, ea) := o1
    have ok2 : Ok (nb, y, eb) := o2
    have f1 := ok1.facts
    have f2 := ok2.facts
    simp only at f1 f2
    refine ⟨Ans (okR (!(na == nb)) (x * y) (ea + eb)) (cn (!(na == nb)) (x * y) (ea + eb)), if okR (!(na == nb)) (x * y) (ea + eb) then 0 else 2, Ans.len ok_len, fun W X Y hW hX hY => ?_, fun W hW => ?_⟩
    · obtain ⟨v, b, rfl, d1⟩ := hX
      obtain ⟨v', b', rfl, d2⟩ := hY
      obtain ⟨pa, pc, e1, i1⟩ := dn_pn (s := na) (e := ea) d1
      obtain ⟨qa, qc, e2, i2⟩ := dn_pn (s := nb) (e := eb) d2
      simp only at e1 i1 e2 i2
      rw [e1, e2]
      have hTW := hT.later hW
      exact (mul_ok (na := na) (nb := nb) (x := x) (y := y) (ea := ea) (eb := eb) i1 i2 (by omega) (by omega) (by omega) (by omega) ok1 ok2 hTW).mono fun r w' h => held_out h
    · exact (rmul (h1.later hW) (h2.later hW) ok1 ok2).mono fun r w' h => ansR_out h

theorem join_Shift {na : Bool} {ua : Option Addr} {un uc x : Nat} {ea k0 : Int} {w : World} (hT : Tab32 w) (h1 : Arg w ua un uc x) (hx : dlen x ≤ un) (hk : -9223372036854775808 ≤ k0 ∧ k0 ≤ 9223372036854775807) :
    ∃ t E, dlen t.2.1 ≤ 35184372088832 ∧
      (∀ W X, Below w.heap.size w W → PI na un x ea W X → Calls Tryz.prog 34 #[X, .int .i64 k0] W fun r w' => Out W (fun W A => PN W A t) E r w') ∧
      (∀ W, Below w.heap.size w W → Calls Tryz.prog 35 #[.agg #[.bool na, .slice ua un uc, .int .i64 ea], .int .i64 k0] W fun r w' => Out W (fun W A => ∃ b, RN W b A t) E r w') := by
  have kV : ∀ V, okN na un x ea = V → ∀ W, Below w.heap.size w W → ∀ W', Below W.heap.size W W' → Calls Tryz.prog 11 #[.agg #[.bool na, .slice ua un uc, .int .i64 ea]] W' fun r w' => r = .returned (.bool V) ∧ Below W'.heap.size W' w' := fun V hV W hW W' hW' => by
    have := rvalid (s := na) (e := ea) ((h1.later hW).later hW')
    rw [hV] at this
    exact this
  have hsm := h1.small
  cases hok : okN na un x ea
  · refine ⟨(false, 0, 0), 1, by rw [dlen_zero]; omega, fun W X hW hX => ?_, fun W hW => ?_⟩
    · obtain ⟨v, b, rfl, d1⟩ := hX
      obtain ⟨pa, pc, rfl, p1, p2⟩ := d1.at
      refine (shift_0 na pa un pc ea k0 W (fun W' g hW' hg => by
        have := maybe1_at hg (p2.later hW') hsm
        rw [hok] at this
        exact this)).mono ?_
      rintro r w' ⟨rfl, hb⟩
      exact ⟨_, _, _, _, _, rfl, pn_nil w', hb⟩
    · refine (rshift_0 na ua un uc ea k0 W (kV _ hok W hW)).mono ?_
      rintro r w' ⟨rfl, hb⟩
      exact ⟨_, _, _, _, _, rfl, ⟨0, rn_nil w' 0⟩, hb⟩
  · obtain rfl := okN_len hx hok
    have ok1 : Ok (na, x, ea) := hok
    have f1 := ok1.facts
    simp only at f1
    have kM : ∀ W pa pc, Is W (.slice pa (dlen x) pc) x → ∀ W' g, Below W.heap.size W W' → W'.heap[g]? = some (.cells #[.bool na, .slice pa (dlen x) pc, .int .i64 ea] 25 (0, 0)) → Calls Tryz.prog 42 #[.slice (some ⟨g, 0, none⟩) 1 1] W' fun r w' => r = .returned (.bool true) ∧ Below W'.heap.size W' w' := fun W pa pc i1 W' g hW' hg => by
      have := maybe1 hg (i1.later hW') (by omega)
      rw [hok] at this
      exact this
    by_cases x0 : x = 0
    · have e0 := f1.2.2.2.1 x0
      simp only [Prod.mk.injEq] at e0
      obtain ⟨rfl, -, rfl⟩ := e0
      subst x0
      refine ⟨(false, 0, 0), 0, by rw [dlen_zero]; omega, fun W X hW hX => ?_, fun W hW => ?_⟩
      · obtain ⟨v, b, rfl, d1⟩ := hX
        obtain ⟨pa, pc, e1, i1⟩ := dn_pn (s := false) (e := 0) d1
        simp only at e1 i1
        rw [e1]
        have kM' := kM W pa pc i1
        rw [dlen_zero] at kM' ⊢
        refine (shift_1 false pa pc 0 k0 W kM').mono ?_
        rintro r w' ⟨rfl, hb⟩
        exact ⟨_, _, _, _, _, rfl, pn_nil w', hb⟩
      · have kV' := kV _ hok W hW
        rw [dlen_zero] at kV' ⊢
        refine (rshift_1 false ua 0 uc 0 k0 W kV').mono ?_
        rintro r w' ⟨rfl, hb⟩
        exact ⟨_, _, _, _, _, rfl, ⟨0, ua, uc, by rw [dlen_zero], fun _ _ _ => Nat.zero_le _, 0, 0, fun h => by rw [dlen_zero] at h; omega, fun i hi => by rw [dlen_zero] at hi; omega⟩, hb⟩
    · have hn0 : ((dlen x : Int) == 0) = false := len_ne (n := 0) x0
      by_cases hin : -65536 ≤ ea + k0 ∧ ea + k0 ≤ 65536
      · have okk : okN na (dlen x) x (ea + k0) = true := by
          have h := hok
          have hl0 : dlen x ≠ 0 := fun e => x0 (dlen_eq_zero.1 e)
          unfold okN at h ⊢
          rw [if_neg hl0] at h ⊢
          simp only [Bool.and_eq_true, decide_eq_true_eq] at h ⊢
          exact ⟨⟨h.1.1, hin.1⟩, hin.2⟩
        refine ⟨(na, x, ea + k0), 0, by show dlen x ≤ _; omega, fun W X hW hX => ?_, fun W hW => ?_⟩
        · obtain ⟨v, b, rfl, d1⟩ := hX
          obtain ⟨pa, pc, e1, i1⟩ := dn_pn (s := na) (e := ea) d1
          simp only at e1 i1
          rw [e1]
          refine (shift_3 na pa _ pc ea k0 W x i1 (by omega) (by omega) hn0 f1.2.1 f1.2.2.1 (by omega) (by omega) (kM W pa pc i1)).mono ?_
          rintro r w' ⟨v', rfl, ho, hb⟩
          obtain ⟨ao', cap', rfl, o1, o2, o3⟩ := ho.is
          exact ⟨_, _, _, _, _, rfl, ⟨ao', cap', rfl, ao', cap', rfl, o1, o2, o3⟩, hb⟩
        · refine (rshift_3 na ua _ uc ea k0 W x (h1.later hW) hn0 ⟨f1.2.1, f1.2.2.1⟩ (by omega) (by omega) (kV _ hok W hW) true okk).mono ?_
          rintro r w' ⟨ao', cap', rfl, hd, hb⟩
          exact ⟨_, _, _, _, _, rfl, ⟨0, ao', cap', rfl, fun _ _ _ => Nat.zero_le _, hd.at_⟩, hb⟩
      · refine ⟨(false, 0, 0), 2, by rw [dlen_zero]; omega, fun W X hW hX => ?_, fun W hW => ?_⟩
        · obtain ⟨v, b, rfl, d1⟩ := hX
          obtain ⟨pa, pc, e1, i1⟩ := dn_pn (s := na) (e := ea) d1
          simp only at e1 i1
          rw [e1]
          refine (shift_2 na pa _ pc ea k0 W (by omega) hn0 f1.2.1 f1.2.2.1 (by omega) (kM W pa pc i1)).mono ?_
          rintro r w' ⟨rfl, hb⟩
          exact ⟨_, _, _, _, _, rfl, pn_nil w', hb⟩
        · by_cases hkk : k0 < -131072 ∨ 131072 < k0
          · refine (rshift_2 na ua _ uc ea k0 W (by omega) hn0 hkk (kV _ hok W hW)).mono ?_
            rintro r w' ⟨rfl, hb⟩
            exact ⟨_, _, _, _, _, rfl, ⟨0, rn_nil w' 0⟩, hb⟩
          · have okk : okN na (dlen x) x (ea + k0) = false := by
              have hl0 : dlen x ≠ 0 := fun e => x0 (dlen_eq_zero.1 e)
              unfold okN
              rw [if_neg hl0]
              by_cases hlo : -65536 ≤ ea + k0
              · rw [decide_eq_false (show ¬ ea + k0 ≤ 65536 by omega)]; simp
              · rw [decide_eq_false hlo]; simp
            refine (rshift_3 na ua _ uc ea k0 W x (h1.later hW) hn0 ⟨f1.2.1, f1.2.2.1⟩ (by omega) (by omega) (kV _ hok W hW) false okk).mono ?_
            rintro r w' ⟨ao', cap', rfl, hd, hb⟩
            exact ⟨_, _, _, _, _, rfl, ⟨0, rn_nil w' 0⟩, hb⟩

theorem same_pr {W : World} {A C : Value} {t : Bool × Nat × Int} (hl : dlen t.2.1 ≤ 35184372088832) (h1 : PN W A t) (h2 : ∃ b, RN W b C t) :
    Calls Tryz.prog 12 #[A, C] W fun r w' => r = .returned (.bool true) ∧ Below W.heap.size W w' := by
  obtain ⟨ua, uc, rfl, i1⟩ := h1
  obtain ⟨b, va, vc, rfl, -, i2⟩ := h2
  obtain ⟨ao, cap, e1, -, -, at1⟩ := i1
  simp only [Value.slice.injEq] at e1
  obtain ⟨rfl, -, rfl⟩ := e1
  exact same_1 t.1 t.2.2 ua va _ uc vc t.2.1 W at1 i2 hl
theorem same_in {W : World} {X : Value} {s : Bool} {ua : Option Addr} {n uc z : Nat} {e : Int} (h1 : PI s n z e W X) (h2 : Arg W ua n uc z) :
    Calls Tryz.prog 12 #[X, .agg #[.bool s, .slice ua n uc, .int .i64 e]] W fun r w' => r = .returned (.bool true) ∧ Below W.heap.size W w' := by
  obtain ⟨v, b, rfl, d1⟩ := h1
  obtain ⟨pa, pc, rfl, p1, p2⟩ := d1.at
  exact same_1 s e pa ua n pc uc z W p2 h2.at_ h2.small

theorem dyadSums_ok (ng : Nat → Bool) (ao : Nat → Option Addr) (ln cp z : Nat → Nat) (e : Nat → Int) (P0 : Int) (w : World) (hA : ∀ i, i < 2 → Arg w (ao i) (ln i) (cp i) (z i)) (he : ∀ i, -9223372036854775808 ≤ e i ∧ e i ≤ 9223372036854775807) (hzl : ∀ i, i < 2 → dlen (z i) ≤ ln i) (hP0 : -9223372036854775808 ≤ P0 ∧ P0 ≤ 9223372036854775807)
    (hT : Tab32 w) (hI : Ie.Tab w) (h10 : Tab10 w) :
    Calls Tryz.prog 4 #[.agg #[.bool (ng 0), .slice (ao 0) (ln 0) (cp 0), .int .i64 (e 0)], .agg #[.bool (ng 1), .slice (ao 1) (ln 1) (cp 1), .int .i64 (e 1)], .int .i64 P0] w fun r w' => r = .returned (.bool true) ∧ Below w.heap.size w w' := by
  obtain ⟨t1, E1, l1, k1, q1⟩ := join_Add (na := ng 0) (nb := ng 1) (ea := e 0) (eb := e 1) hT (hA 0 (by omega)) (hA 1 (by omega)) (hzl 0 (by omega)) (hzl 1 (by omega))
  obtain ⟨t2, E2, l2, k2, q2⟩ := join_Sub (na := ng 0) (nb := ng 1) (ea := e 0) (eb := e 1) hT (hA 0 (by omega)) (hA 1 (by omega)) (hzl 0 (by omega)) (hzl 1 (by omega))
  obtain ⟨t3, E3, l3, k3, q3⟩ := join_Mul (na := ng 0) (nb := ng 1) (ea := e 0) (eb := e 1) hT (hA 0 (by omega)) (hA 1 (by omega)) (hzl 0 (by omega)) (hzl 1 (by omega))
  obtain ⟨t4, E4, l4, k4, q4⟩ := join_Shift (na := ng 0) (ea := e 0) hT (hA 0 (by omega)) (hzl 0 (by omega)) hP0
  exact law9_1 ng ao ln cp z e P0 w hA (PX := PI (ng 0) (ln 0) (z 0) (e 0)) (PY := PI (ng 1) (ln 1) (z 1) (e 1)) (P1 := fun W A => PN W A t1) (P2 := fun W A => PN W A t2) (P3 := fun W A => PN W A t3) (P4 := fun W A => PN W A t4) (R1 := fun W A => ∃ b, RN W b A t1) (R2 := fun W A => ∃ b, RN W b A t2) (R3 := fun W A => ∃ b, RN W b A t3) (R4 := fun W A => ∃ b, RN W b A t4) (E1 := E1) (E2 := E2) (E3 := E3) (E4 := E4)
    { lPX := PI.lasts _ _ _ _, lPY := PI.lasts _ _ _ _, lP1 := PN.lasts t1, lP2 := PN.lasts t2, lP3 := PN.lasts t3, lP4 := PN.lasts t4, lR1 := RN.lasts t1, lR2 := RN.lasts t2, lR3 := RN.lasts t3, lR4 := RN.lasts t4,
      k1 := k1, q1 := q1, s1 := fun W A C a c => same_pr l1 a c, k2 := k2, q2 := q2, s2 := fun W A C a c => same_pr l2 a c, k3 := k3, q3 := q3, s3 := fun W A C a c => same_pr l3 a c, k4 := k4, q4 := q4, s4 := fun W A C a c => same_pr l4 a c,
      s5 := fun W X hW hX => same_in hX ((hA 0 (by omega)).later hW), s6 := fun W X hW hX => same_in hX ((hA 1 (by omega)).later hW),
      gx := fun W v hW ⟨b, h⟩ => ⟨v, b, rfl, h⟩, gy := fun W v hW ⟨b, h⟩ => ⟨v, b, rfl, h⟩,
      works := fun W hW => works_ok W (hT.later hW) (Tab.later hI hW) (h10.later hW) }
end Go.Proofs.YtejefbnfmglfeaaGreatDoor

/- DyadOwn: the answers lie in memory of their own. -/
namespace Go.Proofs.YtejefbnfmglfeaaGreatDoor
set_option linter.unusedVariables false
set_option linter.unusedSimpArgs false
open Go.RowKit

/-- a row of n digits above base, that may be written -/
def FW (w : World) (base : Nat) (ao : Option Addr) (n : Nat) : Prop := n ≤ 35184372088832 ∧ (n = 0 ∨ ∃ g c, ao = some ⟨g, 0, none⟩ ∧ base ≤ g ∧ w.heap[g]? = some (.cells c 55 (0, 0)) ∧ n ≤ c.size)
theorem FW.nil (w : World) (base : Nat) : FW w base none 0 := ⟨by omega, .inl rfl⟩
theorem FW.later {w w' : World} {base : Nat} {ao : Option Addr} {n : Nat} (h : FW w base ao n) (hb : Below w.heap.size w w') : FW w' base ao n := by
  obtain ⟨h0, h | ⟨g, c, h1, h2, h3, h4⟩⟩ := h
  · exact ⟨h0, .inl h⟩
  · exact ⟨h0, .inr ⟨g, c, h1, h2, box_later h3 hb (Array.getElem?_eq_some_iff.1 h3).1, h4⟩⟩
theorem FW.mono {w : World} {base base' : Nat} {ao : Option Addr} {n : Nat} (h : FW w base ao n) (hb : base' ≤ base) : FW w base' ao n := by
  obtain ⟨h0, h | ⟨g, c, h1, h2, h3, h4⟩⟩ := h
  · exact ⟨h0, .inl h⟩
  · exact ⟨h0, .inr ⟨g, c, h1, Nat.le_trans hb h2, h3, h4⟩⟩
theorem own_fw {w : World} {base x n cap : Nat} {ao : Option Addr} (h : Own w base (.slice ao n cap) x) (hx : dlen x ≤ 35184372088832) : FW w base ao n := by
  rcases h with ⟨h1, -⟩ | ⟨g, cap', f, h1, h2, h3, h4, ⟨c, hc, hn, -⟩, -⟩
  · simp only [Value.slice.injEq] at h1
    obtain ⟨rfl, rfl, rfl⟩ := h1
    exact FW.nil w base
  · simp only [Value.slice.injEq] at h1
    obtain ⟨rfl, rfl, rfl⟩ := h1
    exact ⟨hx, .inr ⟨g, c, rfl, h2, hc, by omega⟩⟩

/-- a number, an error, memory of its own -/
def OutF (W : World) (P : World → Value → Prop) (E : Int) (r : Ending) (w' : World) : Prop := ∃ s ao n cap e, r = .returned (.tuple #[.agg #[.bool s, .slice ao n cap, .int .i64 e], .int .i64 E]) ∧ P w' (.agg #[.bool s, .slice ao n cap, .int .i64 e]) ∧ FW w' W.heap.size ao n ∧ Below W.heap.size W w'
def OutG (W : World) (r : Ending) (w' : World) : Prop := ∃ s ao n cap e, r = .returned (.agg #[.bool s, .slice ao n cap, .int .i64 e]) ∧ FW w' W.heap.size ao n ∧ Below W.heap.size W w'

theorem held_outF {w : World} {s : Bool} {z : Nat} {e : Int} {r : Ending} {w' : World} (h : Held w s z e r w') : OutF w (fun W A => PN W A (Ans (okR s z e) (cn s z e))) (if okR s z e then 0 else 2) r w' := by
  obtain ⟨A, rfl, hN, hb⟩ := h
  have hp := hN.pn
  cases hV : okR s z e
  · exact ⟨_, _, _, _, _, rfl, pn_nil w', FW.nil _ _, hb⟩
  · have hl := ok_len hV
    unfold cn at hl
    rcases hN with ⟨rfl, rfl⟩ | ⟨h0, v, rfl, ho⟩
    · exact ⟨_, _, _, _, _, rfl, hp, FW.nil _ _, hb⟩
    · rw [if_neg h0] at hl
      obtain ⟨ao, cap, rfl, -, -, -⟩ := ho.is
      exact ⟨_, _, _, _, _, rfl, hp, own_fw ho hl, hb⟩

theorem joinF_Add {na nb : Bool} {ua va : Option Addr} {un uc vn vc x y : Nat} {ea eb : Int} {w : World} (hT : Tab32 w) (h1 : Arg w ua un uc x) (h2 : Arg w va vn vc y) (hx : dlen x ≤ un) (hy : dlen y ≤ vn) :
    ∃ t E, dlen t.2.1 ≤ 35184372088832 ∧
      (∀ W X Y, Below w.heap.size w W → PI na un x ea W X → PI nb vn y eb W Y → Calls Tryz.prog 28 #[X, Y] W fun r w' => OutF W (fun W A => PN W A t) E r w') ∧
      (∀ W, Below w.heap.size w W → Calls Tryz.prog 29 #[.agg #[.bool na, .slice ua un uc, .int .i64 ea], .agg #[.bool nb, .slice va vn vc, .int .i64 eb]] W fun r w' => ∃ s ao n cap e, r = .returned (.tuple #[.agg #[.bool s, .slice ao n cap, .int .i64 e], .int .i64 E]) ∧ RN w' W.heap.size (.agg #[.bool s, .slice ao n cap, .int .i64 e]) t ∧ Below W.heap.size W w') := by
  cases hok : (okN na un x ea && okN nb vn y eb)
  · refine ⟨(false, 0, 0), 1, by rw [dlen_zero]; omega, fun W X Y hW hX hY => ?_, fun W hW => ?_⟩
    · obtain ⟨v, b, rfl, d1⟩ := hX
      obtain ⟨v', b', rfl, d2⟩ := hY
      obtain ⟨pa, pc, rfl, p1, p2⟩ := d1.at
      obtain ⟨qa, qc, rfl, q1, q2⟩ := d2.at
      refine (c34_2 na nb pa qa un pc vn qc ea eb W (fun W' g hW' hg => by
        have := maybe2_at hg (p2.later hW') (q2.later hW') h1.small h2.small
        rw [hok] at this
        exact this)).mono ?_
      rintro r w' ⟨rfl, hb⟩
      exact ⟨_, _, _, _, _, rfl, pn_nil w', FW.nil _ _, hb⟩
    · refine (radd_no na nb ua va un uc vn vc ea eb W (fun W' g hW' hg => by
        have := rknown2 hg ((h1.later hW).later hW') ((h2.later hW).later hW')
        rw [hok] at this
        exact this)).mono ?_
      rintro r w' ⟨rfl, hb⟩
      exact ⟨_, _, _, _, _, rfl, rn_nil w' _, hb⟩
  · rw [Bool.and_eq_true] at hok
    obtain ⟨o1, o2⟩ := hok
    obtain rfl := okN_len hx o1
    obtain rfl := okN_len hy o2
    have ok1 : Ok (na, x, ea) := o1
    have ok2 : Ok (nb, y, eb) := o2
    have f1 := ok1.facts
    have f2 := ok2.facts
    simp only at f1 f2
    refine ⟨Ans (okR (sumN na x ea nb y eb).1 (sumN na x ea nb y eb).2.1 (sumN na x ea nb y eb).2.2) (cn (sumN na x ea nb y eb).1 (sumN na x ea nb y eb).2.1 (sumN na x ea nb y eb).2.2), if okR (sumN na x ea nb y eb).1 (sumN na x ea nb y eb).2.1 (sumN na x ea nb y eb).2.2 then 0 else 2, Ans.len ok_len, fun W X Y hW hX hY => ?_, fun W hW => ?_⟩
    rotate_left
    · refine (radd (h1.later hW) (h2.later hW) ok1 ok2).mono ?_
      rintro r w' ⟨A, rfl, hN, hb⟩
      obtain ⟨s', ao, n, cap, e', rfl⟩ := hN.shape
      exact ⟨s', ao, n, cap, e', rfl, hN, hb⟩
    · obtain ⟨v, b, rfl, d1⟩ := hX
      obtain ⟨v', b', rfl, d2⟩ := hY
      obtain ⟨pa, pc, e1, i1⟩ := dn_pn (s := na) (e := ea) d1
      obtain ⟨qa, qc, e2, i2⟩ := dn_pn (s := nb) (e := eb) d2
      simp only at e1 i1 e2 i2
      rw [e1, e2]
      have hTW := hT.later hW
      exact (c34_1 na nb pa qa _ pc _ qc x y _ ea eb _ _ W (by have := sumN_len ok1 ok2; omega) (fun W' g hW hg => by
        have := maybe2 hg (i1.later hW) (i2.later hW) (by omega) (by omega)
        rw [show okN na (dlen x) x ea = true from ok1, show okN nb (dlen y) y eb = true from ok2] at this
        exact this) (fun W' hW => c87 (i1.later hW) (i2.later hW) (by omega) (by omega) (by omega) (by omega) (hTW.later hW))).mono fun r w' h => held_outF h

/-- Neg, Abs, Shift by 3 -/
theorem joinF_one {na : Bool} {un x : Nat} {ea : Int} {w : World} (hs : un ≤ 35184372088832) (hx : dlen x ≤ un) :
    ∃ E, 0 ≤ E ∧ (∀ W X, PI na un x ea W X → Calls Tryz.prog 13 #[X] W fun r w' => OutG W r w') ∧ (∀ W X, PI na un x ea W X → Calls Tryz.prog 15 #[X] W fun r w' => OutG W r w') ∧ (∀ W X, PI na un x ea W X → Calls Tryz.prog 34 #[X, .int .i64 3] W fun r w' => OutF W Any E r w') := by
  cases hok : okN na un x ea
  · have kM : ∀ W pa pc, At W pa un x → ∀ W' g, Below W.heap.size W W' → W'.heap[g]? = some (.cells #[.bool na, .slice pa un pc, .int .i64 ea] 25 (0, 0)) → Calls Tryz.prog 42 #[.slice (some ⟨g, 0, none⟩) 1 1] W' fun r w' => r = .returned (.bool false) ∧ Below W'.heap.size W' w' := fun W pa pc i1 W' g hW' hg => by
      have := maybe1_at hg (i1.later hW') hs
      rw [hok] at this
      exact this
    refine ⟨1, by omega, ?_, ?_, ?_⟩
    · rintro W X ⟨v, b, rfl, d1⟩
      obtain ⟨pa, pc, rfl, p1, p2⟩ := d1.at
      refine (neg_no na pa un pc ea W (kM W pa pc p2)).mono ?_
      rintro r w' ⟨rfl, hb⟩
      exact ⟨_, _, _, _, _, rfl, FW.nil _ _, hb⟩
    · rintro W X ⟨v, b, rfl, d1⟩
      obtain ⟨pa, pc, rfl, p1, p2⟩ := d1.at
      refine (abs_no na pa un pc ea W (kM W pa pc p2)).mono ?_
      rintro r w' ⟨rfl, hb⟩
      exact ⟨_, _, _, _, _, rfl, FW.nil _ _, hb⟩
    · rintro W X ⟨v, b, rfl, d1⟩
      obtain ⟨pa, pc, rfl, p1, p2⟩ := d1.at
      refine (shift_0 na pa un pc ea 3 W (kM W pa pc p2)).mono ?_
      rintro r w' ⟨rfl, hb⟩
      exact ⟨_, _, _, _, _, rfl, trivial, FW.nil _ _, hb⟩
  · obtain rfl := okN_len hx hok
    have ok1 : Ok (na, x, ea) := hok
    have f1 := ok1.facts
    simp only at f1
    have kM : ∀ W pa pc, Is W (.slice pa (dlen x) pc) x → ∀ W' g, Below W.heap.size W W' → W'.heap[g]? = some (.cells #[.bool na, .slice pa (dlen x) pc, .int .i64 ea] 25 (0, 0)) → Calls Tryz.prog 42 #[.slice (some ⟨g, 0, none⟩) 1 1] W' fun r w' => r = .returned (.bool true) ∧ Below W'.heap.size W' w' := fun W pa pc i1 W' g hW' hg => by
      have := maybe1 hg (i1.later hW') (by omega)
      rw [hok] at this
      exact this
    have hS : ∃ E, 0 ≤ E ∧ (∀ W X, PI na (dlen x) x ea W X → Calls Tryz.prog 34 #[X, .int .i64 3] W fun r w' => OutF W Any E r w') := by
      by_cases x0 : x = 0
      · subst x0
        refine ⟨0, by omega, ?_⟩
        rintro W X ⟨v, b, rfl, d1⟩
        obtain ⟨pa, pc, e1, i1⟩ := dn_pn (s := na) (e := ea) d1
        simp only at e1 i1
        rw [e1]
        have kM' := kM W pa pc i1
        rw [dlen_zero] at kM' ⊢
        refine (shift_1 na pa pc ea 3 W kM').mono ?_
        rintro r w' ⟨rfl, hb⟩
        exact ⟨_, _, _, _, _, rfl, trivial, FW.nil _ _, hb⟩
      · have hn0 : ((dlen x : Int) == 0) = false := len_ne (n := 0) x0
        by_cases hin : ea + 3 ≤ 65536
        · refine ⟨0, by omega, ?_⟩
          rintro W X ⟨v, b, rfl, d1⟩
          obtain ⟨pa, pc, e1, i1⟩ := dn_pn (s := na) (e := ea) d1
          simp only at e1 i1
          rw [e1]
          refine (shift_3 na pa _ pc ea 3 W x i1 (by omega) (by omega) hn0 f1.2.1 f1.2.2.1 (by omega) (by omega) (kM W pa pc i1)).mono ?_
          rintro r w' ⟨v', rfl, ho, hb⟩
          obtain ⟨ao', cap', rfl, -, -, -⟩ := ho.is
          exact ⟨_, _, _, _, _, rfl, trivial, own_fw ho (by omega), hb⟩
        · refine ⟨2, by omega, ?_⟩
          rintro W X ⟨v, b, rfl, d1⟩
          obtain ⟨pa, pc, e1, i1⟩ := dn_pn (s := na) (e := ea) d1
          simp only at e1 i1
          rw [e1]
          refine (shift_2 na pa _ pc ea 3 W (by omega) hn0 f1.2.1 f1.2.2.1 (by omega) (kM W pa pc i1)).mono ?_
          rintro r w' ⟨rfl, hb⟩
          exact ⟨_, _, _, _, _, rfl, trivial, FW.nil _ _, hb⟩
    obtain ⟨E, hE, kS⟩ := hS
    refine ⟨E, hE, ?_, ?_, kS⟩
    · rintro W X ⟨v, b, rfl, d1⟩
      obtain ⟨pa, pc, e1, i1⟩ := dn_pn (s := na) (e := ea) d1
      simp only at e1 i1
      rw [e1]
      refine (negw_ok i1 (by omega) hok).mono ?_
      rintro r w' ⟨v', rfl, ho, hb⟩
      obtain ⟨ao', cap', rfl, -, -, -⟩ := ho.is
      exact ⟨_, _, _, _, _, rfl, own_fw ho (by omega), hb⟩
    · rintro W X ⟨v, b, rfl, d1⟩
      obtain ⟨pa, pc, e1, i1⟩ := dn_pn (s := na) (e := ea) d1
      simp only at e1 i1
      rw [e1]
      refine (abs_ok i1 (by omega) hok).mono ?_
      rintro r w' ⟨v', rfl, ho, hb⟩
      obtain ⟨ao', cap', rfl, -, -, -⟩ := ho.is
      exact ⟨_, _, _, _, _, rfl, own_fw ho (by omega), hb⟩
end Go.Proofs.YtejefbnfmglfeaaGreatDoor
