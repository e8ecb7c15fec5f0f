/- Own work: contracts of the program's functions, part 16: L14 W51 W52 FM FM2 F1 F2 F6. -/
import Derived.Test.YtmhpicccfaklcaaGreatDoorA10
import Derived.Test.YtmhpicccfaklcaaGreatDoorA15
import Derived.Test.YtmhpicccfaklcaaGreatDoorA1
import Derived.Test.YtmhpicccfaklcaaGreatDoorA5
import Derived.Test.YtmhpicccfaklcaaGreatDoorA4
import Derived.Laws.FloatArith
import Derived.Test.YtmhpicccfaklcaaGreatDoorA8
import Derived.Test.YtmhpicccfaklcaaGreatDoorA7

/- DyadOrder: the law's walk. -/
namespace Go.Proofs.YtmhpicccfaklcaaGreatDoor
set_option linter.unusedVariables false
set_option linter.unusedSimpArgs false
open Go.RowKit

structure OrderK (w : World) (A0 A1 : Value) (NG0 NG1 : Bool) (LN0 Z0 LN1 Z1 : Nat) (E0 E01 : Int) (PX PY PP PQ : World → Value → Prop) (F G : Int → Nat) (eP eQ cP cQ c : Int) : Prop where
  lPX : Lasts PX
  lPY : Lasts PY
  lPP : Lasts PP
  lPQ : Lasts PQ
  v0 : ∀ W, Below w.heap.size w W → Calls Tryz.prog 11 #[A0] W fun r w' => r = .returned (.bool true) ∧ Below W.heap.size W w'
  v1 : ∀ W, Below w.heap.size w W → Calls Tryz.prog 11 #[A1] W fun r w' => r = .returned (.bool true) ∧ Below W.heap.size W w'
  kX : ∀ W X (m : Int), Below w.heap.size w W → PX W X → 1 ≤ m → m ≤ 3 → Calls Tryz.prog 28 #[X, .int .i64 m] W fun r w' => r = .returned (.tuple #[.float .f64 (F m), .int .i64 0]) ∧ Below W.heap.size W w'
  kY : ∀ W X (m : Int), Below w.heap.size w W → PY W X → 1 ≤ m → m ≤ 3 → Calls Tryz.prog 28 #[X, .int .i64 m] W fun r w' => r = .returned (.tuple #[.float .f64 (G m), .int .i64 0]) ∧ Below W.heap.size W w'
  kP : ∀ W, Below w.heap.size w W → Calls Tryz.prog 29 #[.float .f64 (F 1)] W fun r w' => Out W PP eP r w'
  kQ : ∀ W, Below w.heap.size w W → Calls Tryz.prog 29 #[.float .f64 (F 3)] W fun r w' => Out W PQ eQ r w'
  kCP : eP = 0 → ∀ W A X, Below w.heap.size w W → PP W A → PX W X → Calls Tryz.prog 23 #[A, X] W fun r w' => r = .returned (.int .i64 cP) ∧ Below W.heap.size W w'
  kCQ : eQ = 0 → ∀ W A X, Below w.heap.size w W → PQ W A → PX W X → Calls Tryz.prog 23 #[A, X] W fun r w' => r = .returned (.int .i64 cQ) ∧ Below W.heap.size W w'
  kC : ∀ W X Y, Below w.heap.size w W → PX W X → PY W Y → Calls Tryz.prog 23 #[X, Y] W fun r w' => r = .returned (.int .i64 c) ∧ Below W.heap.size W w'
  o12 : (FloatKind.f64.format.order (F 1) (F 2) == some Ordering.gt) = false
  o23 : (FloatKind.f64.format.order (F 2) (F 3) == some Ordering.gt) = false
  oP : eP = 0 → cP ≤ 0
  oQ : eQ = 0 → 0 ≤ cQ
  oE : (FloatKind.f64.format.order (F 1) (F 3) == some Ordering.eq) = true → eP = 0 → cP = 0
  oL : ∀ m : Int, 1 ≤ m → m ≤ 3 → c < 0 → (FloatKind.f64.format.order (F m) (G m) == some Ordering.gt) = false
  oG : ∀ m : Int, 1 ≤ m → m ≤ 3 → 0 < c → (FloatKind.f64.format.order (F m) (G m) == some Ordering.lt) = false
  gx : ∀ W v, Below w.heap.size w W → (∃ b, Dn W b v (LN0) (Z0)) → PX W (.agg #[.bool NG0, v, .int .i64 E0])
  gy : ∀ W v, Below w.heap.size w W → (∃ b, Dn W b v (LN1) (Z1)) → PY W (.agg #[.bool NG1, v, .int .i64 E01])
  works : ∀ W, Below w.heap.size w W → Calls Tryz.prog 27 #[] W fun r w' => r = .returned (.bool true) ∧ Below W.heap.size W w'

set_option maxHeartbeats 16000000 in
set_option maxRecDepth 200000 in
theorem law12_no1 (ng : Nat → Bool) (ao : Nat → Option Addr) (ln cp : Nat → Nat) (e : Nat → Int) (w : World) (v0 : ∀ W, Below w.heap.size w W → Calls Tryz.prog 11 #[(.agg #[.bool (ng 0), .slice (ao 0) (ln 0) (cp 0), .int .i64 (e 0)])] W fun r w' => r = .returned (.bool false) ∧ Below W.heap.size W w') (kW : ∀ W, Below w.heap.size w W → Calls Tryz.prog 27 #[] W fun r w' => r = .returned (.bool true) ∧ Below W.heap.size W w') :
    Calls Tryz.prog 4 #[.agg #[.bool (ng 0), .slice (ao 0) (ln 0) (cp 0), .int .i64 (e 0)], .agg #[.bool (ng 1), .slice (ao 1) (ln 1) (cp 1), .int .i64 (e 1)]] w fun r w' => r = .returned (.bool true) ∧ Below w.heap.size w w' := by
  obtain ⟨W, hW⟩ : ∃ W, W = (w.alloc (.cells #[.bool (ng 0), .slice (ao 0) (ln 0) (cp 0), .int .i64 (e 0)] 24)).alloc (.cells #[.bool (ng 1), .slice (ao 1) (ln 1) (cp 1), .int .i64 (e 1)] 24) := ⟨_, rfl⟩
  obtain ⟨hs0, hs1, hsz, hBW⟩ := two29 _ _ hW
  have HS : Hid (W.heap[w.heap.size]? = some (.cells #[.bool (ng 0), .slice (ao 0) (ln 0) (cp 0), .int .i64 (e 0)] 24 (0, 0)) ∧ W.heap[w.heap.size + 1]? = some (.cells #[.bool (ng 1), .slice (ao 1) (ln 1) (cp 1), .int .i64 (e 1)] 24 (0, 0)) ∧ Below w.heap.size w W) := ⟨hs0, hs1, hBW⟩
  clear hsz hBW hs0 hs1
  have k1 := v0 W HS.out.2.2
  go_enter Tryz.func4, Tryz.ntmps4
  go_wp2_with fail
  rw [← hW]
  clear hW
  refine k1.mono ?_
  rintro r W1 ⟨rfl, hb1⟩
  have HS1 : Hid (W1.heap[w.heap.size]? = some (.cells #[.bool (ng 0), .slice (ao 0) (ln 0) (cp 0), .int .i64 (e 0)] 24 (0, 0)) ∧ W1.heap[w.heap.size + 1]? = some (.cells #[.bool (ng 1), .slice (ao 1) (ln 1) (cp 1), .int .i64 (e 1)] 24 (0, 0)) ∧ Below w.heap.size w W1) := ⟨box_later HS.out.1 hb1 (Array.getElem?_eq_some_iff.1 HS.out.1).1, box_later HS.out.2.1 hb1 (Array.getElem?_eq_some_iff.1 HS.out.2.1).1, HS.out.2.2.trans (hb1.mono HS.out.2.2.size)⟩
  clear k1 hb1 HS
  have k3 := kW W1 HS1.out.2.2
  go_wp2_with fail
  refine k3.mono ?_
  rintro r W3 ⟨rfl, hb3⟩
  have HB : Hid (Below w.heap.size w W3) := HS1.out.2.2.trans (hb3.mono HS1.out.2.2.size)
  clear k3 hb3
  go_wp2_with fail
  go_ret
  exact ⟨rfl, HB.out⟩
set_option maxHeartbeats 16000000 in
set_option maxRecDepth 200000 in
theorem law12_no2 (ng : Nat → Bool) (ao : Nat → Option Addr) (ln cp : Nat → Nat) (e : Nat → Int) (w : World) (v0 : ∀ W, Below w.heap.size w W → Calls Tryz.prog 11 #[(.agg #[.bool (ng 0), .slice (ao 0) (ln 0) (cp 0), .int .i64 (e 0)])] W fun r w' => r = .returned (.bool true) ∧ Below W.heap.size W w') (v1 : ∀ W, Below w.heap.size w W → Calls Tryz.prog 11 #[(.agg #[.bool (ng 1), .slice (ao 1) (ln 1) (cp 1), .int .i64 (e 1)])] W fun r w' => r = .returned (.bool false) ∧ Below W.heap.size W w') (kW : ∀ W, Below w.heap.size w W → Calls Tryz.prog 27 #[] W fun r w' => r = .returned (.bool true) ∧ Below W.heap.size W w') :
    Calls Tryz.prog 4 #[.agg #[.bool (ng 0), .slice (ao 0) (ln 0) (cp 0), .int .i64 (e 0)], .agg #[.bool (ng 1), .slice (ao 1) (ln 1) (cp 1), .int .i64 (e 1)]] w fun r w' => r = .returned (.bool true) ∧ Below w.heap.size w w' := by
  obtain ⟨W, hW⟩ : ∃ W, W = (w.alloc (.cells #[.bool (ng 0), .slice (ao 0) (ln 0) (cp 0), .int .i64 (e 0)] 24)).alloc (.cells #[.bool (ng 1), .slice (ao 1) (ln 1) (cp 1), .int .i64 (e 1)] 24) := ⟨_, rfl⟩
  obtain ⟨hs0, hs1, hsz, hBW⟩ := two29 _ _ hW
  have HS : Hid (W.heap[w.heap.size]? = some (.cells #[.bool (ng 0), .slice (ao 0) (ln 0) (cp 0), .int .i64 (e 0)] 24 (0, 0)) ∧ W.heap[w.heap.size + 1]? = some (.cells #[.bool (ng 1), .slice (ao 1) (ln 1) (cp 1), .int .i64 (e 1)] 24 (0, 0)) ∧ Below w.heap.size w W) := ⟨hs0, hs1, hBW⟩
  clear hsz hBW hs0 hs1
  have k1 := v0 W HS.out.2.2
  go_enter Tryz.func4, Tryz.ntmps4
  go_wp2_with fail
  rw [← hW]
  clear hW
  refine k1.mono ?_
  rintro r W1 ⟨rfl, hb1⟩
  have HS1 : Hid (W1.heap[w.heap.size]? = some (.cells #[.bool (ng 0), .slice (ao 0) (ln 0) (cp 0), .int .i64 (e 0)] 24 (0, 0)) ∧ W1.heap[w.heap.size + 1]? = some (.cells #[.bool (ng 1), .slice (ao 1) (ln 1) (cp 1), .int .i64 (e 1)] 24 (0, 0)) ∧ Below w.heap.size w W1) := ⟨box_later HS.out.1 hb1 (Array.getElem?_eq_some_iff.1 HS.out.1).1, box_later HS.out.2.1 hb1 (Array.getElem?_eq_some_iff.1 HS.out.2.1).1, HS.out.2.2.trans (hb1.mono HS.out.2.2.size)⟩
  clear k1 hb1 HS
  obtain ⟨⟨q0, q1, q2⟩, -⟩ := box_cells29 HS1.out.2.1
  have k2 := v1 W1 HS1.out.2.2
  go_wp2_with fail
  refine k2.mono ?_
  rintro r W2 ⟨rfl, hb2⟩
  have hBW2 : Below w.heap.size w W2 := HS1.out.2.2.trans (hb2.mono HS1.out.2.2.size)
  have hs0 := box_later HS1.out.1 hb2 (Array.getElem?_eq_some_iff.1 HS1.out.1).1
  have hs1 := box_later HS1.out.2.1 hb2 (Array.getElem?_eq_some_iff.1 HS1.out.2.1).1
  clear k2 hb2 q0 q1 q2 HS1
  have HB2 : Hid (Below w.heap.size w W2) := hBW2
  have k3 := kW W2 hBW2
  clear hBW2 hs0 hs1
  go_wp2_with fail
  refine k3.mono ?_
  rintro r W3 ⟨rfl, hb3⟩
  have HB : Hid (Below w.heap.size w W3) := HB2.out.trans (hb3.mono HB2.out.size)
  clear k3 hb3
  go_wp2_with fail
  go_ret
  exact ⟨rfl, HB.out⟩
set_option maxHeartbeats 16000000 in
set_option maxRecDepth 200000 in
theorem law12_1 (ng : Nat → Bool) (ao : Nat → Option Addr) (ln cp z : Nat → Nat) (e : Nat → Int) (w : World) (hA : ∀ i, i < 2 → Arg w (ao i) (ln i) (cp i) (z i))
    {PX PY PP PQ : World → Value → Prop} {F G : Int → Nat} {eP eQ cP cQ c : Int} (K : OrderK w (.agg #[.bool (ng 0), .slice (ao 0) (ln 0) (cp 0), .int .i64 (e 0)]) (.agg #[.bool (ng 1), .slice (ao 1) (ln 1) (cp 1), .int .i64 (e 1)]) (ng 0) (ng 1) (ln 0) (z 0) (ln 1) (z 1) (e 0) (e 1) PX PY PP PQ F G eP eQ cP cQ c) :
    Calls Tryz.prog 4 #[.agg #[.bool (ng 0), .slice (ao 0) (ln 0) (cp 0), .int .i64 (e 0)], .agg #[.bool (ng 1), .slice (ao 1) (ln 1) (cp 1), .int .i64 (e 1)]] w fun r w' => r = .returned (.bool true) ∧ Below w.heap.size w w' := by
  obtain ⟨W, hW⟩ : ∃ W, W = (w.alloc (.cells #[.bool (ng 0), .slice (ao 0) (ln 0) (cp 0), .int .i64 (e 0)] 24)).alloc (.cells #[.bool (ng 1), .slice (ao 1) (ln 1) (cp 1), .int .i64 (e 1)] 24) := ⟨_, rfl⟩
  obtain ⟨hs0, hs1, hsz, hBW⟩ := two29 _ _ hW
  have HS : Hid (W.heap[w.heap.size]? = some (.cells #[.bool (ng 0), .slice (ao 0) (ln 0) (cp 0), .int .i64 (e 0)] 24 (0, 0)) ∧ W.heap[w.heap.size + 1]? = some (.cells #[.bool (ng 1), .slice (ao 1) (ln 1) (cp 1), .int .i64 (e 1)] 24 (0, 0)) ∧ Below w.heap.size w W) := ⟨hs0, hs1, hBW⟩
  clear hsz hBW hs0 hs1
  have k1 := K.v0 W HS.out.2.2
  go_enter Tryz.func4, Tryz.ntmps4
  go_wp2_with fail
  rw [← hW]
  clear hW
  refine k1.mono ?_
  rintro r W1 ⟨rfl, hb1⟩
  have HS1 : Hid (W1.heap[w.heap.size]? = some (.cells #[.bool (ng 0), .slice (ao 0) (ln 0) (cp 0), .int .i64 (e 0)] 24 (0, 0)) ∧ W1.heap[w.heap.size + 1]? = some (.cells #[.bool (ng 1), .slice (ao 1) (ln 1) (cp 1), .int .i64 (e 1)] 24 (0, 0)) ∧ Below w.heap.size w W1) := ⟨box_later HS.out.1 hb1 (Array.getElem?_eq_some_iff.1 HS.out.1).1, box_later HS.out.2.1 hb1 (Array.getElem?_eq_some_iff.1 HS.out.2.1).1, HS.out.2.2.trans (hb1.mono HS.out.2.2.size)⟩
  clear k1 hb1 HS
  obtain ⟨⟨q0, q1, q2⟩, -⟩ := box_cells29 HS1.out.2.1
  have k2 := K.v1 W1 HS1.out.2.2
  go_wp2_with fail
  refine k2.mono ?_
  rintro r W2 ⟨rfl, hb2⟩
  have hBW2 : Below w.heap.size w W2 := HS1.out.2.2.trans (hb2.mono HS1.out.2.2.size)
  have hs0 := box_later HS1.out.1 hb2 (Array.getElem?_eq_some_iff.1 HS1.out.1).1
  have hs1 := box_later HS1.out.2.1 hb2 (Array.getElem?_eq_some_iff.1 HS1.out.2.1).1
  clear k2 hb2 q0 q1 q2 HS1
  have HBW : Hid (Below w.heap.size w W2) := hBW2
  have HA3 : ∀ i, i < 2 → Arg W2 (ao i) (ln i) (cp i) (z i) := fun i hi => (hA i hi).later hBW2
  clear hBW2 hA
  go_upto_region 3 with fail
  go_cut [5, 6] from 32 to 35 (fun p q wx => ∃ (g : Nat → Nat) (v : Nat → Value), p = .pointer (some ⟨g 0, 0, none⟩) ∧ q = .pointer (some ⟨g 1, 0, none⟩) ∧ Hid (Given W2 wx 2 ng ln z e g v))
  case first =>
    refine give_region 2 (fun k => 2 + k) (fun k => 32 + 2 * k) (fun k => 33 + 2 * k) (fun k => 5 + k) (fun k => w.heap.size + k) ng ao ln cp z e W2 _ rfl (ord_of (by kernel_rfl)) ?_ ?_ ?_ ?_ ?_ ?_ ?_ ?_ ?_ ?_ ?_ ?_
    · intro k hk
      rcases lt2 hk with rfl | rfl
      · exact ⟨rfl, hs0, HA3 0 hk⟩
      · exact ⟨rfl, hs1, HA3 1 hk⟩
    · intro k hk
      rcases lt2 hk with rfl | rfl <;> decide
    · intro k hk
      rcases lt2 hk with rfl | rfl <;> exact ⟨_, rfl, rfl, rfl, rfl⟩
    · intro k hk
      rcases lt2 hk with rfl | rfl <;> exact ⟨_, rfl, rfl, ⟨_, rfl⟩, rfl, ⟨_, .data⟩, by simp, rfl, rfl⟩
    · intro k hk
      rcases lt2 hk with rfl | rfl <;> exact ⟨_, rfl, rfl, rfl, rfl⟩
    · intro k hk
      rcases lt2 hk with rfl | rfl <;> exact ⟨_, rfl, rfl, rfl, rfl, ⟨⟨_, .data⟩, by simp, rfl, rfl⟩, ⟨_, .data⟩, by simp, rfl, rfl⟩
    · show ∀ j, j < 2 * 2 → gslot (fun k => 32 + 2 * k) (fun k => 33 + 2 * k) j < 138
      decide
    · show ∀ k, k < 2 → 5 + k < 138
      decide
    · decide
    · decide
    · decide
    · intro u v g wx hb hk
      simp only [putL, gslot, show List.range (2 * 2) = [0, 1, 2, 3] from rfl, show List.range 2 = [0, 1] from rfl, List.map_cons, List.map_nil, List.cons_append, List.nil_append, List.foldl_cons, List.foldl_nil, Nat.reduceMod, Nat.reduceDiv, Nat.reduceMul, Nat.reduceAdd, reduceIte, Nat.one_ne_zero, Act.put, List.setIfInBounds_toArray, List.set_cons_zero, List.set_cons_succ]
      go_wp2_with fail
      go_meet
      exact ⟨g, v, rfl, rfl, hb, hk⟩
  case rest =>
    obtain ⟨w8, hw8⟩ : ∃ w8 : World, w8 = wc := ⟨_, rfl⟩
    subst hw8
    obtain ⟨g, v, rfl, rfl, HG⟩ := hcut
    have hB8 : Below w.heap.size w w8 := HBW.out.trans (HG.out.1.mono HBW.out.size)
    have b0 : ∃ ak ck, BB 25 PX w8 (g 0) (ng 0) ak (ln 0) ck (e 0) := by
      obtain ⟨h1, h2, h3⟩ := HG.out.2 0 (by omega)
      have hp := K.gx w8 _ hB8 ⟨_, h1⟩
      obtain ⟨ak, ck, hv, -, -⟩ := h1.at
      rw [hv] at hp h3
      exact ⟨ak, ck, h3, hp⟩
    have b1 : ∃ ak ck, BB 25 PY w8 (g 1) (ng 1) ak (ln 1) ck (e 1) := by
      obtain ⟨h1, h2, h3⟩ := HG.out.2 1 (by omega)
      have hp := K.gy w8 _ hB8 ⟨_, h1⟩
      obtain ⟨ak, ck, hv, -, -⟩ := h1.at
      rw [hv] at hp h3
      exact ⟨ak, ck, h3, hp⟩
    obtain ⟨xa, xc, X0⟩ := b0
    obtain ⟨ya, yc, X1⟩ := b1
    replace X0 : Hid (BB 25 PX w8 (g 0) (ng 0) xa (ln 0) xc (e 0)) := X0
    replace X1 : Hid (BB 25 PY w8 (g 1) (ng 1) ya (ln 1) yc (e 1)) := X1
    have X2 : Hid (BB 24 Any w8 (w.heap.size) (ng 0) (ao 0) (ln 0) (cp 0) (e 0)) := ⟨box_later hs0 HG.out.1 (Array.getElem?_eq_some_iff.1 hs0).1, trivial⟩
    have X3 : Hid (BB 24 Any w8 (w.heap.size + 1) (ng 1) (ao 1) (ln 1) (cp 1) (e 1)) := ⟨box_later hs1 HG.out.1 (Array.getElem?_eq_some_iff.1 hs1).1, trivial⟩
    have HB8 : Hid (Below w.heap.size w w8) := hB8
    clear HG hs0 hs1 HA3 hB8 X2 X3
    have o12 := K.o12
    have o23 := K.o23
    have HBw8 : Hid (Below w.heap.size w w8) := HB8.out
    clear HB8
    obtain ⟨⟨p0, p1, p2⟩, -⟩ := box_cells X0.out.1
    have kc := K.kX w8 _ 1 HBw8.out X0.out.2 (by omega) (by omega)
    go_wp2_with fail
    refine kc.mono ?_
    rintro r w9 ⟨rfl, hb'⟩
    replace X0 : Hid (BB 25 PX w9 (g 0) (ng 0) xa (ln 0) xc (e 0)) := X0.out.later K.lPX hb'
    replace X1 : Hid (BB 25 PY w9 (g 1) (ng 1) ya (ln 1) yc (e 1)) := X1.out.later K.lPY hb'
    have HBw9 : Hid (Below w.heap.size w w9) := HBw8.out.trans (hb'.mono HBw8.out.size)
    clear kc hb' p0 p1 p2
    obtain ⟨⟨p0, p1, p2⟩, -⟩ := box_cells X0.out.1
    have kc := K.kX w9 _ 2 HBw9.out X0.out.2 (by omega) (by omega)
    go_wp2_with fail
    refine kc.mono ?_
    rintro r w10 ⟨rfl, hb'⟩
    replace X0 : Hid (BB 25 PX w10 (g 0) (ng 0) xa (ln 0) xc (e 0)) := X0.out.later K.lPX hb'
    replace X1 : Hid (BB 25 PY w10 (g 1) (ng 1) ya (ln 1) yc (e 1)) := X1.out.later K.lPY hb'
    have HBw10 : Hid (Below w.heap.size w w10) := HBw9.out.trans (hb'.mono HBw9.out.size)
    clear kc hb' p0 p1 p2
    obtain ⟨⟨p0, p1, p2⟩, -⟩ := box_cells X0.out.1
    have kc := K.kX w10 _ 3 HBw10.out X0.out.2 (by omega) (by omega)
    go_wp2_with fail
    refine kc.mono ?_
    rintro r w11 ⟨rfl, hb'⟩
    replace X0 : Hid (BB 25 PX w11 (g 0) (ng 0) xa (ln 0) xc (e 0)) := X0.out.later K.lPX hb'
    replace X1 : Hid (BB 25 PY w11 (g 1) (ng 1) ya (ln 1) yc (e 1)) := X1.out.later K.lPY hb'
    have HBw11 : Hid (Below w.heap.size w w11) := HBw10.out.trans (hb'.mono HBw10.out.size)
    clear kc hb' p0 p1 p2
    have kc := K.kP w11 HBw11.out
    go_wp2_with fail
    refine kc.mono ?_
    rintro r vP ⟨sP, aP, nP, cpP, exP, rfl, hp, hb⟩
    obtain ⟨w12, hW9⟩ : ∃ w9, w9 = vP.alloc (.cells #[.bool sP, .slice aP nP cpP, .int .i64 exP] 25) := ⟨_, rfl⟩
    have hb' : Below w11.heap.size w11 w12 := by rw [hW9]; exact hb.alloc hb.size _
    have X4 : Hid (BB 25 PP w12 (vP.heap.size) (sP) aP (nP) cpP (exP)) := (by rw [hW9]; exact BB.new K.lPP hp : BB 25 PP w12 (vP.heap.size) (sP) aP (nP) cpP (exP))
    replace X0 : Hid (BB 25 PX w12 (g 0) (ng 0) xa (ln 0) xc (e 0)) := X0.out.later K.lPX hb'
    replace X1 : Hid (BB 25 PY w12 (g 1) (ng 1) ya (ln 1) yc (e 1)) := X1.out.later K.lPY hb'
    have HBw12 : Hid (Below w.heap.size w w12) := HBw11.out.trans (hb'.mono HBw11.out.size)
    clear kc hp hb hb'
    have kc := K.kQ w12 HBw12.out
    go_wp2_with fail
    rw [← hW9]
    clear hW9
    refine kc.mono ?_
    rintro r vQ ⟨sQ, aQ, nQ, cpQ, exQ, rfl, hp, hb⟩
    obtain ⟨w13, hWQ⟩ : ∃ w9, w9 = vQ.alloc (.cells #[.bool sQ, .slice aQ nQ cpQ, .int .i64 exQ] 25) := ⟨_, rfl⟩
    have hb' : Below w12.heap.size w12 w13 := by rw [hWQ]; exact hb.alloc hb.size _
    have X5 : Hid (BB 25 PQ w13 (vQ.heap.size) (sQ) aQ (nQ) cpQ (exQ)) := (by rw [hWQ]; exact BB.new K.lPQ hp : BB 25 PQ w13 (vQ.heap.size) (sQ) aQ (nQ) cpQ (exQ))
    replace X0 : Hid (BB 25 PX w13 (g 0) (ng 0) xa (ln 0) xc (e 0)) := X0.out.later K.lPX hb'
    replace X1 : Hid (BB 25 PY w13 (g 1) (ng 1) ya (ln 1) yc (e 1)) := X1.out.later K.lPY hb'
    replace X4 : Hid (BB 25 PP w13 (vP.heap.size) (sP) aP (nP) cpP (exP)) := X4.out.later K.lPP hb'
    have HBw13 : Hid (Below w.heap.size w w13) := HBw12.out.trans (hb'.mono HBw12.out.size)
    clear kc hp hb hb'
    have oP := K.oP
    have oQ := K.oQ
    have oE := K.oE
    have HOO : Hid ((eP = 0 → cP ≤ 0) ∧ (eQ = 0 → 0 ≤ cQ) ∧ ((FloatKind.f64.format.order (F 1) (F 3) == some Ordering.eq) = true → eP = 0 → cP = 0)) := ⟨oP, oQ, oE⟩
    clear o12 o23 oP oQ oE
    go_upto_region 11 with fail
    rw [← hWQ]
    clear hWQ
    go_cut [101] from 69 to 100 (fun v w' => v = .bool false ∧ Hid (Below w13.heap.size w13 w'))
    case first =>
      clear X1
      have HCw13 : Hid (Below w13.heap.size w13 w13) := Below.refl _ _
      generalize hb13 : (FloatKind.f64.format.order (F 1) (F 3) == some Ordering.eq) = b13 at *
      have HB13 : Hid (((FloatKind.f64.format.order (F 1) (F 3) == some Ordering.eq)) = b13) := hb13
      by_cases hP0 : eP = 0
      · by_cases hQ0 : eQ = 0
        · cases b13
          · subst hP0
            subst hQ0
            have f3 : ¬ 0 < cP := by have := HOO.out.1 rfl; omega
            have f4 : ¬ cQ < 0 := by have := HOO.out.2.1 rfl; omega
            clear HOO
            obtain ⟨⟨p0, p1, p2⟩, -⟩ := box_cells X4.out.1
            obtain ⟨⟨q0, q1, q2⟩, -⟩ := box_cells X0.out.1
            have kc := K.kCP rfl w13 _ _ HBw13.out X4.out.2 X0.out.2
            go_wp2_with fail
            refine kc.mono ?_
            rintro r w14 ⟨rfl, hb'⟩
            replace X0 : Hid (BB 25 PX w14 (g 0) (ng 0) xa (ln 0) xc (e 0)) := X0.out.later K.lPX hb'
            replace X4 : Hid (BB 25 PP w14 (vP.heap.size) (sP) aP (nP) cpP (exP)) := X4.out.later K.lPP hb'
            replace X5 : Hid (BB 25 PQ w14 (vQ.heap.size) (sQ) aQ (nQ) cpQ (exQ)) := X5.out.later K.lPQ hb'
            have HBw14 : Hid (Below w.heap.size w w14) := HBw13.out.trans (hb'.mono HBw13.out.size)
            have HCw14 : Hid (Below w13.heap.size w13 w14) := HCw13.out.trans (hb'.mono HCw13.out.size)
            clear kc hb' p0 p1 p2 q0 q1 q2
            obtain ⟨⟨p0, p1, p2⟩, -⟩ := box_cells X5.out.1
            obtain ⟨⟨q0, q1, q2⟩, -⟩ := box_cells X0.out.1
            have kc := K.kCQ rfl w14 _ _ HBw14.out X5.out.2 X0.out.2
            go_wp2_with fail
            refine kc.mono ?_
            rintro r w15 ⟨rfl, hb'⟩
            replace X0 : Hid (BB 25 PX w15 (g 0) (ng 0) xa (ln 0) xc (e 0)) := X0.out.later K.lPX hb'
            replace X4 : Hid (BB 25 PP w15 (vP.heap.size) (sP) aP (nP) cpP (exP)) := X4.out.later K.lPP hb'
            replace X5 : Hid (BB 25 PQ w15 (vQ.heap.size) (sQ) aQ (nQ) cpQ (exQ)) := X5.out.later K.lPQ hb'
            have HBw15 : Hid (Below w.heap.size w w15) := HBw14.out.trans (hb'.mono HBw14.out.size)
            have HCw15 : Hid (Below w13.heap.size w13 w15) := HCw14.out.trans (hb'.mono HCw14.out.size)
            clear kc hb' p0 p1 p2 q0 q1 q2
            go_wp2_with fail
            go_meet
            exact ⟨by first | rfl | (simp; omega) | simp, HCw15.out⟩
          · subst hP0
            subst hQ0
            have f3 : ¬ 0 < cP := by have := HOO.out.1 rfl; omega
            have f4 : ¬ cQ < 0 := by have := HOO.out.2.1 rfl; omega
            obtain rfl : cP = 0 := HOO.out.2.2 rfl rfl
            clear HOO
            obtain ⟨⟨p0, p1, p2⟩, -⟩ := box_cells X4.out.1
            obtain ⟨⟨q0, q1, q2⟩, -⟩ := box_cells X0.out.1
            have kc := K.kCP rfl w13 _ _ HBw13.out X4.out.2 X0.out.2
            go_wp2_with fail
            refine kc.mono ?_
            rintro r w14 ⟨rfl, hb'⟩
            replace X0 : Hid (BB 25 PX w14 (g 0) (ng 0) xa (ln 0) xc (e 0)) := X0.out.later K.lPX hb'
            replace X4 : Hid (BB 25 PP w14 (vP.heap.size) (sP) aP (nP) cpP (exP)) := X4.out.later K.lPP hb'
            replace X5 : Hid (BB 25 PQ w14 (vQ.heap.size) (sQ) aQ (nQ) cpQ (exQ)) := X5.out.later K.lPQ hb'
            have HBw14 : Hid (Below w.heap.size w w14) := HBw13.out.trans (hb'.mono HBw13.out.size)
            have HCw14 : Hid (Below w13.heap.size w13 w14) := HCw13.out.trans (hb'.mono HCw13.out.size)
            clear kc hb' p0 p1 p2 q0 q1 q2
            obtain ⟨⟨p0, p1, p2⟩, -⟩ := box_cells X5.out.1
            obtain ⟨⟨q0, q1, q2⟩, -⟩ := box_cells X0.out.1
            have kc := K.kCQ rfl w14 _ _ HBw14.out X5.out.2 X0.out.2
            go_wp2_with fail
            refine kc.mono ?_
            rintro r w15 ⟨rfl, hb'⟩
            replace X0 : Hid (BB 25 PX w15 (g 0) (ng 0) xa (ln 0) xc (e 0)) := X0.out.later K.lPX hb'
            replace X4 : Hid (BB 25 PP w15 (vP.heap.size) (sP) aP (nP) cpP (exP)) := X4.out.later K.lPP hb'
            replace X5 : Hid (BB 25 PQ w15 (vQ.heap.size) (sQ) aQ (nQ) cpQ (exQ)) := X5.out.later K.lPQ hb'
            have HBw15 : Hid (Below w.heap.size w w15) := HBw14.out.trans (hb'.mono HBw14.out.size)
            have HCw15 : Hid (Below w13.heap.size w13 w15) := HCw14.out.trans (hb'.mono HCw14.out.size)
            clear kc hb' p0 p1 p2 q0 q1 q2
            obtain ⟨⟨p0, p1, p2⟩, -⟩ := box_cells X4.out.1
            obtain ⟨⟨q0, q1, q2⟩, -⟩ := box_cells X0.out.1
            have kc := K.kCP rfl w15 _ _ HBw15.out X4.out.2 X0.out.2
            go_wp2_with fail
            refine kc.mono ?_
            rintro r w16 ⟨rfl, hb'⟩
            replace X0 : Hid (BB 25 PX w16 (g 0) (ng 0) xa (ln 0) xc (e 0)) := X0.out.later K.lPX hb'
            replace X4 : Hid (BB 25 PP w16 (vP.heap.size) (sP) aP (nP) cpP (exP)) := X4.out.later K.lPP hb'
            replace X5 : Hid (BB 25 PQ w16 (vQ.heap.size) (sQ) aQ (nQ) cpQ (exQ)) := X5.out.later K.lPQ hb'
            have HBw16 : Hid (Below w.heap.size w w16) := HBw15.out.trans (hb'.mono HBw15.out.size)
            have HCw16 : Hid (Below w13.heap.size w13 w16) := HCw15.out.trans (hb'.mono HCw15.out.size)
            clear kc hb' p0 p1 p2 q0 q1 q2
            go_wp2_with fail
            go_meet
            exact ⟨by first | rfl | (simp; omega) | simp, HCw16.out⟩
        · cases b13
          · subst hP0
            have f2 : (eQ == 0) = false := by simp [hQ0]
            have f3 : ¬ 0 < cP := by have := HOO.out.1 rfl; omega
            clear HOO
            obtain ⟨⟨p0, p1, p2⟩, -⟩ := box_cells X4.out.1
            obtain ⟨⟨q0, q1, q2⟩, -⟩ := box_cells X0.out.1
            have kc := K.kCP rfl w13 _ _ HBw13.out X4.out.2 X0.out.2
            go_wp2_with fail
            refine kc.mono ?_
            rintro r w14 ⟨rfl, hb'⟩
            replace X0 : Hid (BB 25 PX w14 (g 0) (ng 0) xa (ln 0) xc (e 0)) := X0.out.later K.lPX hb'
            replace X4 : Hid (BB 25 PP w14 (vP.heap.size) (sP) aP (nP) cpP (exP)) := X4.out.later K.lPP hb'
            replace X5 : Hid (BB 25 PQ w14 (vQ.heap.size) (sQ) aQ (nQ) cpQ (exQ)) := X5.out.later K.lPQ hb'
            have HBw14 : Hid (Below w.heap.size w w14) := HBw13.out.trans (hb'.mono HBw13.out.size)
            have HCw14 : Hid (Below w13.heap.size w13 w14) := HCw13.out.trans (hb'.mono HCw13.out.size)
            clear kc hb' p0 p1 p2 q0 q1 q2
            go_wp2_with fail
            go_meet
            exact ⟨by first | rfl | (simp; omega) | simp, HCw14.out⟩
          · subst hP0
            have f2 : (eQ == 0) = false := by simp [hQ0]
            have f3 : ¬ 0 < cP := by have := HOO.out.1 rfl; omega
            obtain rfl : cP = 0 := HOO.out.2.2 rfl rfl
            clear HOO
            obtain ⟨⟨p0, p1, p2⟩, -⟩ := box_cells X4.out.1
            obtain ⟨⟨q0, q1, q2⟩, -⟩ := box_cells X0.out.1
            have kc := K.kCP rfl w13 _ _ HBw13.out X4.out.2 X0.out.2
            go_wp2_with fail
            refine kc.mono ?_
            rintro r w14 ⟨rfl, hb'⟩
            replace X0 : Hid (BB 25 PX w14 (g 0) (ng 0) xa (ln 0) xc (e 0)) := X0.out.later K.lPX hb'
            replace X4 : Hid (BB 25 PP w14 (vP.heap.size) (sP) aP (nP) cpP (exP)) := X4.out.later K.lPP hb'
            replace X5 : Hid (BB 25 PQ w14 (vQ.heap.size) (sQ) aQ (nQ) cpQ (exQ)) := X5.out.later K.lPQ hb'
            have HBw14 : Hid (Below w.heap.size w w14) := HBw13.out.trans (hb'.mono HBw13.out.size)
            have HCw14 : Hid (Below w13.heap.size w13 w14) := HCw13.out.trans (hb'.mono HCw13.out.size)
            clear kc hb' p0 p1 p2 q0 q1 q2
            obtain ⟨⟨p0, p1, p2⟩, -⟩ := box_cells X4.out.1
            obtain ⟨⟨q0, q1, q2⟩, -⟩ := box_cells X0.out.1
            have kc := K.kCP rfl w14 _ _ HBw14.out X4.out.2 X0.out.2
            go_wp2_with fail
            refine kc.mono ?_
            rintro r w16 ⟨rfl, hb'⟩
            replace X0 : Hid (BB 25 PX w16 (g 0) (ng 0) xa (ln 0) xc (e 0)) := X0.out.later K.lPX hb'
            replace X4 : Hid (BB 25 PP w16 (vP.heap.size) (sP) aP (nP) cpP (exP)) := X4.out.later K.lPP hb'
            replace X5 : Hid (BB 25 PQ w16 (vQ.heap.size) (sQ) aQ (nQ) cpQ (exQ)) := X5.out.later K.lPQ hb'
            have HBw16 : Hid (Below w.heap.size w w16) := HBw14.out.trans (hb'.mono HBw14.out.size)
            have HCw16 : Hid (Below w13.heap.size w13 w16) := HCw14.out.trans (hb'.mono HCw14.out.size)
            clear kc hb' p0 p1 p2 q0 q1 q2
            go_wp2_with fail
            go_meet
            exact ⟨by first | rfl | (simp; omega) | simp, HCw16.out⟩
      · by_cases hQ0 : eQ = 0
        · cases b13
          · have f1 : (eP == 0) = false := by simp [hP0]
            subst hQ0
            have f4 : ¬ cQ < 0 := by have := HOO.out.2.1 rfl; omega
            clear HOO
            obtain ⟨⟨p0, p1, p2⟩, -⟩ := box_cells X5.out.1
            obtain ⟨⟨q0, q1, q2⟩, -⟩ := box_cells X0.out.1
            have kc := K.kCQ rfl w13 _ _ HBw13.out X5.out.2 X0.out.2
            go_wp2_with fail
            refine kc.mono ?_
            rintro r w15 ⟨rfl, hb'⟩
            replace X0 : Hid (BB 25 PX w15 (g 0) (ng 0) xa (ln 0) xc (e 0)) := X0.out.later K.lPX hb'
            replace X4 : Hid (BB 25 PP w15 (vP.heap.size) (sP) aP (nP) cpP (exP)) := X4.out.later K.lPP hb'
            replace X5 : Hid (BB 25 PQ w15 (vQ.heap.size) (sQ) aQ (nQ) cpQ (exQ)) := X5.out.later K.lPQ hb'
            have HBw15 : Hid (Below w.heap.size w w15) := HBw13.out.trans (hb'.mono HBw13.out.size)
            have HCw15 : Hid (Below w13.heap.size w13 w15) := HCw13.out.trans (hb'.mono HCw13.out.size)
            clear kc hb' p0 p1 p2 q0 q1 q2
            go_wp2_with fail
            go_meet
            exact ⟨by first | rfl | (simp; omega) | simp, HCw15.out⟩
          · have f1 : (eP == 0) = false := by simp [hP0]
            subst hQ0
            have f4 : ¬ cQ < 0 := by have := HOO.out.2.1 rfl; omega
            clear HOO
            obtain ⟨⟨p0, p1, p2⟩, -⟩ := box_cells X5.out.1
            obtain ⟨⟨q0, q1, q2⟩, -⟩ := box_cells X0.out.1
            have kc := K.kCQ rfl w13 _ _ HBw13.out X5.out.2 X0.out.2
            go_wp2_with fail
            refine kc.mono ?_
            rintro r w15 ⟨rfl, hb'⟩
            replace X0 : Hid (BB 25 PX w15 (g 0) (ng 0) xa (ln 0) xc (e 0)) := X0.out.later K.lPX hb'
            replace X4 : Hid (BB 25 PP w15 (vP.heap.size) (sP) aP (nP) cpP (exP)) := X4.out.later K.lPP hb'
            replace X5 : Hid (BB 25 PQ w15 (vQ.heap.size) (sQ) aQ (nQ) cpQ (exQ)) := X5.out.later K.lPQ hb'
            have HBw15 : Hid (Below w.heap.size w w15) := HBw13.out.trans (hb'.mono HBw13.out.size)
            have HCw15 : Hid (Below w13.heap.size w13 w15) := HCw13.out.trans (hb'.mono HCw13.out.size)
            clear kc hb' p0 p1 p2 q0 q1 q2
            go_wp2_with fail
            go_meet
            exact ⟨by first | rfl | (simp; omega) | simp, HCw15.out⟩
        · cases b13
          · have f1 : (eP == 0) = false := by simp [hP0]
            have f2 : (eQ == 0) = false := by simp [hQ0]
            clear HOO
            go_wp2_with fail
            go_meet
            exact ⟨by first | rfl | (simp; omega) | simp, HCw13.out⟩
          · have f1 : (eP == 0) = false := by simp [hP0]
            have f2 : (eQ == 0) = false := by simp [hQ0]
            clear HOO
            go_wp2_with fail
            go_meet
            exact ⟨by first | rfl | (simp; omega) | simp, HCw13.out⟩
    case rest =>
      obtain ⟨rfl, hc⟩ := hcut
      obtain ⟨W5, rfl⟩ : ∃ W2 : World, W2 = wc := ⟨_, rfl⟩
      replace X0 : Hid (BB 25 PX W5 (g 0) (ng 0) xa (ln 0) xc (e 0)) := X0.out.later K.lPX hc.out
      replace X1 : Hid (BB 25 PY W5 (g 1) (ng 1) ya (ln 1) yc (e 1)) := X1.out.later K.lPY hc.out
      have HBW5 : Hid (Below w.heap.size w W5) := HBw13.out.trans (hc.out.mono HBw13.out.size)
      clear X4 X5 hc HOO HBw13 HBw12 HBw11 HBw10 HBw9 HBw8
      go_wp2_with fail
      go_loopw [17] (fun v wr => ∃ m : Nat, v = .int .i64 (m : Int) ∧ 1 ≤ m ∧ m ≤ 4 ∧ Hid ((BB 25 PX wr (g 0) (ng 0) xa (ln 0) xc (e 0)) ∧ (BB 25 PY wr (g 1) (ng 1) ya (ln 1) yc (e 1)) ∧ Below w.heap.size w wr)) (fun v _ => (4 - intOf v).toNat)
      case atStart => exact ⟨1, rfl, by omega, by omega, X0.out, X1.out, HBW5.out⟩
      case round =>
        obtain ⟨m, rfl, hm1, hm4, HX⟩ := hrel
        clear X0 X1 HBW5
        by_cases hm : m = 4
        · subst hm
          have kc := K.works wr HX.out.2.2
          go_wp2_with fail
          refine kc.mono ?_
          rintro r w26 ⟨rfl, hb'⟩
          have HB26 : Hid (Below w.heap.size w w26) := HX.out.2.2.trans (hb'.mono HX.out.2.2.size)
          clear kc hb'
          go_wp2_with fail
          go_ret
          exact ⟨rfl, HB26.out⟩
        · have hm3 : (m : Int) ≤ 3 := by omega
          have hm0 : (1 : Int) ≤ (m : Int) := by omega
          have X0 : Hid (BB 25 PX wr (g 0) (ng 0) xa (ln 0) xc (e 0)) := HX.out.1
          have X1 : Hid (BB 25 PY wr (g 1) (ng 1) ya (ln 1) yc (e 1)) := HX.out.2.1
          have HBwr : Hid (Below w.heap.size w wr) := HX.out.2.2
          clear HX hm
          obtain ⟨⟨p0, p1, p2⟩, -⟩ := box_cells X0.out.1
          have kc := K.kX wr _ (m : Int) HBwr.out X0.out.2 hm0 hm3
          go_wp2_with fail
          refine kc.mono ?_
          rintro r w20 ⟨rfl, hb'⟩
          replace X0 : Hid (BB 25 PX w20 (g 0) (ng 0) xa (ln 0) xc (e 0)) := X0.out.later K.lPX hb'
          replace X1 : Hid (BB 25 PY w20 (g 1) (ng 1) ya (ln 1) yc (e 1)) := X1.out.later K.lPY hb'
          have HBw20 : Hid (Below w.heap.size w w20) := HBwr.out.trans (hb'.mono HBwr.out.size)
          clear kc hb' p0 p1 p2
          obtain ⟨⟨p0, p1, p2⟩, -⟩ := box_cells X1.out.1
          have kc := K.kY w20 _ (m : Int) HBw20.out X1.out.2 hm0 hm3
          go_wp2_with fail
          refine kc.mono ?_
          rintro r w21 ⟨rfl, hb'⟩
          replace X0 : Hid (BB 25 PX w21 (g 0) (ng 0) xa (ln 0) xc (e 0)) := X0.out.later K.lPX hb'
          replace X1 : Hid (BB 25 PY w21 (g 1) (ng 1) ya (ln 1) yc (e 1)) := X1.out.later K.lPY hb'
          have HBw21 : Hid (Below w.heap.size w w21) := HBw20.out.trans (hb'.mono HBw20.out.size)
          clear kc hb' p0 p1 p2
          obtain ⟨⟨p0, p1, p2⟩, -⟩ := box_cells X0.out.1
          obtain ⟨⟨q0, q1, q2⟩, -⟩ := box_cells X1.out.1
          have kc := K.kC w21 _ _ HBw21.out X0.out.2 X1.out.2
          go_wp2_with fail
          refine kc.mono ?_
          rintro r w22 ⟨rfl, hb'⟩
          replace X0 : Hid (BB 25 PX w22 (g 0) (ng 0) xa (ln 0) xc (e 0)) := X0.out.later K.lPX hb'
          replace X1 : Hid (BB 25 PY w22 (g 1) (ng 1) ya (ln 1) yc (e 1)) := X1.out.later K.lPY hb'
          have HBw22 : Hid (Below w.heap.size w w22) := HBw21.out.trans (hb'.mono HBw21.out.size)
          clear kc hb' p0 p1 p2 q0 q1 q2
          have oL := K.oL (m : Int) hm0 hm3
          have oG := K.oG (m : Int) hm0 hm3
          rcases (by omega : c < 0 ∨ 0 < c ∨ c = 0) with hc | hc | hc
          · have f1 := oL hc
            have f2 : ¬ 0 < c := by omega
            clear oL oG
            go_wp2_with fail
            exact ⟨⟨m + 1, by simp, by omega, by omega, X0.out, X1.out, HBw22.out⟩, by simp [intOf]; omega⟩
          · have f1 := oG hc
            have f2 : ¬ c < 0 := by omega
            clear oL oG
            go_wp2_with fail
            exact ⟨⟨m + 1, by simp, by omega, by omega, X0.out, X1.out, HBw22.out⟩, by simp [intOf]; omega⟩
          · have f1 : ¬ 0 < c := by omega
            have f2 : ¬ c < 0 := by omega
            clear oL oG
            go_wp2_with fail
            exact ⟨⟨m + 1, by simp, by omega, by omega, X0.out, X1.out, HBw22.out⟩, by simp [intOf]; omega⟩
end Go.Proofs.YtmhpicccfaklcaaGreatDoor

/- The program's Sqrt. -/
namespace Go.Proofs.YtmhpicccfaklcaaGreatDoor
set_option linter.unusedVariables false
set_option linter.unusedSimpArgs false
open Go.RowKit

set_option maxHeartbeats 4000000 in
set_option maxRecDepth 200000 in
theorem psqrt_e (ua : Option Addr) (un uc x k0 b : Nat) (ea mode h2 : Int) (w : World) (hT : Tab32 w) (h1 : Is w (.slice ua un uc) x) (hx : dlen x ≤ 3000) (he1 : -65536 ≤ ea) (he2 : ea ≤ 65536) (hm : mode = 1 ∨ mode = 2 ∨ mode = 3) (hb : bl x = b) (hb2 : b ≤ 96000) (hk0 : max 0 (128 - (b : Int)) = (k0 : Int)) (hk1 : k0 ≤ 128) (hod : ((ea - (k0 : Int)).tmod 2 != 0) = false) (hh : (ea - (k0 : Int)).tdiv 2 = h2) (hh1 : -40000 ≤ h2) (hh2 : h2 ≤ 40000)
    (k43 : ∀ W g, Below w.heap.size w W → W.heap[g]? = some (.cells #[.bool false, .slice ua un uc, .int .i64 ea] 25 (0, 0)) → Calls Tryz.prog 47 #[.slice (some ⟨g, 0, none⟩) 1 1] W fun r w' => r = .returned (.bool true) ∧ Below W.heap.size W w') :
    Calls Tryz.prog 39 #[.agg #[.bool false, .slice ua un uc, .int .i64 ea], .int .i64 mode] w fun r w' => ∃ q, (q * q ≤ x * 2 ^ k0 ∧ x * 2 ^ k0 < (q + 1) * (q + 1)) ∧ r = .returned (.tuple #[.float .f64 (tfF false (decide (q * q = x * 2 ^ k0)) q h2 mode), .int .i64 0]) ∧ Below w.heap.size w w' := by
  obtain ⟨W, hW⟩ : ∃ W, W = w.alloc (.cells #[.bool false, .slice ua un uc, .int .i64 ea] 25) := ⟨_, rfl⟩
  have hBW : Below w.heap.size w W := by rw [hW]; exact (Below.refl _ _).alloc (Nat.le_refl _) _
  have hbA : W.heap[w.heap.size]? = some (.cells #[.bool false, .slice ua un uc, .int .i64 ea] 25 (0, 0)) := by rw [hW]; exact heap_alloc_new _ _
  have hsz : W.heap.size = w.heap.size + 1 := by rw [hW]; simp
  have k1 := k43 (W.alloc (.cells #[.bool false, .slice ua un uc, .int .i64 ea] 25)) (w.heap.size + 1) (hBW.alloc hBW.size _) (by rw [← hsz]; exact heap_alloc_new _ _)
  have HX : Hid (Below w.heap.size w W ∧ W.heap.size = w.heap.size + 1 ∧ W.heap[w.heap.size]? = some (.cells #[.bool false, .slice ua un uc, .int .i64 ea] 25 (0, 0))) := ⟨hBW, hsz, hbA⟩
  have HT : Hid (Tab32 w ∧ Is w (.slice ua un uc) x ∧ dlen x ≤ 3000) := ⟨hT, h1, hx⟩
  have k48 := fun W => c48 mode hm W
  clear hBW hsz hbA k43 hT h1 hx
  go_enter Tryz.func39, Tryz.ntmps39
  go_wp2_with fail
  rw [← hW]
  clear hW
  refine k1.mono ?_
  rintro r w1 ⟨rfl, hb1⟩
  have HB1 : Hid (Below W.heap.size W w1) := ((Below.refl W.heap.size W).alloc (Nat.le_refl _) _).trans (hb1.mono (by simp))
  have HW1 : Hid (Below w.heap.size w w1) := HX.out.1.trans (HB1.out.mono HX.out.1.size)
  obtain ⟨⟨a0, a1, a2⟩, -⟩ := box_cells (box_later HX.out.2.2 HB1.out (by have := HX.out.2.1; omega))
  clear k1 hb1
  go_wp2_with fail
  refine (k48 w1).mono ?_
  rintro r w1' ⟨rfl, hw⟩
  replace hw := hw.symm
  subst hw
  clear k48
  have kl := c74 (HT.out.2.1.later HW1.out) (by have := HT.out.2.2; omega)
  rw [hb] at kl
  go_wp2_with fail
  refine kl.mono ?_
  rintro r w1' ⟨rfl, hw⟩
  replace hw := hw.symm
  subst hw
  clear kl
  have ks := c109 (HT.out.2.1.later HW1.out) k0 (by have := HT.out.2.2; omega) (by omega)
  go_wp2_with fail
  refine ks.mono ?_
  rintro r w2 ⟨v2, rfl, ho2, hb2'⟩
  have HB2 : Hid (Below W.heap.size W w2) := HB1.out.trans (hb2'.mono HB1.out.size)
  have hl : dlen (x * 2 ^ k0) ≤ 4000 := by have := shl_len (x := x) (k := k0) rfl; have := HT.out.2.2; omega
  have kr := c112 ho2.is (by omega)
  clear ks ho2 hb2' a0 a1 a2
  go_wp2_with fail
  refine kr.mono ?_
  rintro r w3 ⟨v3, q, rfl, ho3, hq1, hq2, hb3⟩
  have HB3 : Hid (Below W.heap.size W w3) := HB2.out.trans (hb3.mono HB2.out.size)
  have HQ : Hid (q * q ≤ x * 2 ^ k0 ∧ x * 2 ^ k0 < (q + 1) * (q + 1)) := ⟨hq1, hq2⟩
  obtain ⟨⟨a0, a1, a2⟩, -⟩ := box_cells (box_later HX.out.2.2 HB3.out (by have := HX.out.2.1; omega))
  obtain ⟨bx, hbx⟩ : ∃ bx : Bool, bx = decide (q * q = x * 2 ^ k0) := ⟨_, rfl⟩
  have kt := c110 (neg := false) (exact := bx) (e := h2) (mode := mode) (HT.out.1.later (HX.out.1.trans (HB3.out.mono HX.out.1.size))) ho3.is (Nat.le_trans (dlen_mono (Nat.le_trans (Nat.le_mul_self q) hq1)) (by omega)) (by omega) (by omega)
  rw [← hbx]
  have HBX : Hid (bx = decide (q * q = x * 2 ^ k0)) := hbx
  clear kr ho3 hb3 hq1 hq2 hbx hl
  go_wp2_with fail
  refine kt.mono ?_
  rintro r w4 ⟨rfl, hb4⟩
  have HB4 : Hid (Below W.heap.size W w4) := HB3.out.trans (hb4.mono HB3.out.size)
  clear kt hb4
  go_wp2
  refine bodyPost_ret (results_tmp2 rfl _ _ _) rfl ?_
  exact ⟨q, HQ.out, congrArg (fun b => Ending.returned (Value.tuple #[.float .f64 (tfF false b q h2 mode), .int .i64 0])) HBX.out, HX.out.1.trans (HB4.out.mono HX.out.1.size)⟩
set_option maxHeartbeats 4000000 in
set_option maxRecDepth 200000 in
theorem psqrt_o (ua : Option Addr) (un uc x k0 b : Nat) (ea mode h2 : Int) (w : World) (hT : Tab32 w) (h1 : Is w (.slice ua un uc) x) (hx : dlen x ≤ 3000) (he1 : -65536 ≤ ea) (he2 : ea ≤ 65536) (hm : mode = 1 ∨ mode = 2 ∨ mode = 3) (hb : bl x = b) (hb2 : b ≤ 96000) (hk0 : max 0 (128 - (b : Int)) = (k0 : Int)) (hk1 : k0 ≤ 128) (hod : ((ea - (k0 : Int)).tmod 2 != 0) = true) (hh : (ea - ((k0 : Int) + 1)).tdiv 2 = h2) (hh1 : -40000 ≤ h2) (hh2 : h2 ≤ 40000)
    (k43 : ∀ W g, Below w.heap.size w W → W.heap[g]? = some (.cells #[.bool false, .slice ua un uc, .int .i64 ea] 25 (0, 0)) → Calls Tryz.prog 47 #[.slice (some ⟨g, 0, none⟩) 1 1] W fun r w' => r = .returned (.bool true) ∧ Below W.heap.size W w') :
    Calls Tryz.prog 39 #[.agg #[.bool false, .slice ua un uc, .int .i64 ea], .int .i64 mode] w fun r w' => ∃ q, (q * q ≤ x * 2 ^ (k0 + 1) ∧ x * 2 ^ (k0 + 1) < (q + 1) * (q + 1)) ∧ r = .returned (.tuple #[.float .f64 (tfF false (decide (q * q = x * 2 ^ (k0 + 1))) q h2 mode), .int .i64 0]) ∧ Below w.heap.size w w' := by
  obtain ⟨W, hW⟩ : ∃ W, W = w.alloc (.cells #[.bool false, .slice ua un uc, .int .i64 ea] 25) := ⟨_, rfl⟩
  have hBW : Below w.heap.size w W := by rw [hW]; exact (Below.refl _ _).alloc (Nat.le_refl _) _
  have hbA : W.heap[w.heap.size]? = some (.cells #[.bool false, .slice ua un uc, .int .i64 ea] 25 (0, 0)) := by rw [hW]; exact heap_alloc_new _ _
  have hsz : W.heap.size = w.heap.size + 1 := by rw [hW]; simp
  have k1 := k43 (W.alloc (.cells #[.bool false, .slice ua un uc, .int .i64 ea] 25)) (w.heap.size + 1) (hBW.alloc hBW.size _) (by rw [← hsz]; exact heap_alloc_new _ _)
  have HX : Hid (Below w.heap.size w W ∧ W.heap.size = w.heap.size + 1 ∧ W.heap[w.heap.size]? = some (.cells #[.bool false, .slice ua un uc, .int .i64 ea] 25 (0, 0))) := ⟨hBW, hsz, hbA⟩
  have HT : Hid (Tab32 w ∧ Is w (.slice ua un uc) x ∧ dlen x ≤ 3000) := ⟨hT, h1, hx⟩
  have k48 := fun W => c48 mode hm W
  clear hBW hsz hbA k43 hT h1 hx
  go_enter Tryz.func39, Tryz.ntmps39
  go_wp2_with fail
  rw [← hW]
  clear hW
  refine k1.mono ?_
  rintro r w1 ⟨rfl, hb1⟩
  have HB1 : Hid (Below W.heap.size W w1) := ((Below.refl W.heap.size W).alloc (Nat.le_refl _) _).trans (hb1.mono (by simp))
  have HW1 : Hid (Below w.heap.size w w1) := HX.out.1.trans (HB1.out.mono HX.out.1.size)
  obtain ⟨⟨a0, a1, a2⟩, -⟩ := box_cells (box_later HX.out.2.2 HB1.out (by have := HX.out.2.1; omega))
  clear k1 hb1
  go_wp2_with fail
  refine (k48 w1).mono ?_
  rintro r w1' ⟨rfl, hw⟩
  replace hw := hw.symm
  subst hw
  clear k48
  have kl := c74 (HT.out.2.1.later HW1.out) (by have := HT.out.2.2; omega)
  rw [hb] at kl
  go_wp2_with fail
  refine kl.mono ?_
  rintro r w1' ⟨rfl, hw⟩
  replace hw := hw.symm
  subst hw
  clear kl
  have ks := c109 (HT.out.2.1.later HW1.out) (k0 + 1) (by have := HT.out.2.2; omega) (by omega)
  rw [show ((k0 + 1 : Nat) : Int) = (k0 : Int) + 1 by omega] at ks
  go_wp2_with fail
  refine ks.mono ?_
  rintro r w2 ⟨v2, rfl, ho2, hb2'⟩
  have HB2 : Hid (Below W.heap.size W w2) := HB1.out.trans (hb2'.mono HB1.out.size)
  have hl : dlen (x * 2 ^ (k0 + 1)) ≤ 4000 := by have := shl_len (x := x) (k := (k0 + 1)) rfl; have := HT.out.2.2; omega
  have kr := c112 ho2.is (by omega)
  clear ks ho2 hb2' a0 a1 a2
  go_wp2_with fail
  refine kr.mono ?_
  rintro r w3 ⟨v3, q, rfl, ho3, hq1, hq2, hb3⟩
  have HB3 : Hid (Below W.heap.size W w3) := HB2.out.trans (hb3.mono HB2.out.size)
  have HQ : Hid (q * q ≤ x * 2 ^ (k0 + 1) ∧ x * 2 ^ (k0 + 1) < (q + 1) * (q + 1)) := ⟨hq1, hq2⟩
  obtain ⟨⟨a0, a1, a2⟩, -⟩ := box_cells (box_later HX.out.2.2 HB3.out (by have := HX.out.2.1; omega))
  obtain ⟨bx, hbx⟩ : ∃ bx : Bool, bx = decide (q * q = x * 2 ^ (k0 + 1)) := ⟨_, rfl⟩
  have kt := c110 (neg := false) (exact := bx) (e := h2) (mode := mode) (HT.out.1.later (HX.out.1.trans (HB3.out.mono HX.out.1.size))) ho3.is (Nat.le_trans (dlen_mono (Nat.le_trans (Nat.le_mul_self q) hq1)) (by omega)) (by omega) (by omega)
  rw [← hbx]
  have HBX : Hid (bx = decide (q * q = x * 2 ^ (k0 + 1))) := hbx
  clear kr ho3 hb3 hq1 hq2 hbx hl
  go_wp2_with fail
  refine kt.mono ?_
  rintro r w4 ⟨rfl, hb4⟩
  have HB4 : Hid (Below W.heap.size W w4) := HB3.out.trans (hb4.mono HB3.out.size)
  clear kt hb4
  go_wp2
  refine bodyPost_ret (results_tmp2 rfl _ _ _) rfl ?_
  exact ⟨q, HQ.out, congrArg (fun b => Ending.returned (Value.tuple #[.float .f64 (tfF false b q h2 mode), .int .i64 0])) HBX.out, HX.out.1.trans (HB4.out.mono HX.out.1.size)⟩
end Go.Proofs.YtmhpicccfaklcaaGreatDoor

/- The program's Ratio. -/
namespace Go.Proofs.YtmhpicccfaklcaaGreatDoor
set_option linter.unusedVariables false
set_option linter.unusedSimpArgs false
open Go.RowKit

set_option maxHeartbeats 4000000 in
set_option maxRecDepth 200000 in
theorem pratio_1 (na nb : Bool) (ua va : Option Addr) (un uc vn vc x y k bx by' : Nat) (ea eb mode : Int) (sg : Bool) (w : World) (hsg : Hid ((!(na == nb)) = sg)) (hT : Tab32 w) (h1 : Is w (.slice ua un uc) x) (h2 : Is w (.slice va vn vc) y) (hx : dlen x ≤ 3000) (hy : dlen y ≤ 3000) (hy0 : y ≠ 0) (he1 : -65536 ≤ ea) (he2 : ea ≤ 65536) (he3 : -65536 ≤ eb) (he4 : eb ≤ 65536) (hm : mode = 1 ∨ mode = 2 ∨ mode = 3)
    (hbx : bl x = bx) (hby : bl y = by') (hbx2 : bx ≤ 96000) (hby2 : by' ≤ 96000) (hk : max 0 (64 + (by' : Int) - (bx : Int)) = (k : Int)) (hk2 : k ≤ 100000) (hn0 : ((un : Int) == 0) = false) (hn1 : ((vn : Int) == 0) = false)
    (k67 : ∀ W g, Below w.heap.size w W → W.heap[g]? = some (.cells #[.bool na, .slice ua un uc, .int .i64 ea, .bool nb, .slice va vn vc, .int .i64 eb] 25 (0, 0)) → Calls Tryz.prog 47 #[.slice (some ⟨g, 0, none⟩) 2 2] W fun r w' => r = .returned (.bool true) ∧ Below W.heap.size W w') :
    Calls Tryz.prog 37 #[.agg #[.bool na, .slice ua un uc, .int .i64 ea], .agg #[.bool nb, .slice va vn vc, .int .i64 eb], .int .i64 mode] w fun r w' => r = .returned (.tuple #[.float .f64 (tfF sg (decide (x * 2 ^ k % y = 0)) (x * 2 ^ k / y) (ea - eb - k) mode), .int .i64 0]) ∧ Below w.heap.size w w' := by
  obtain ⟨W, hW⟩ : ∃ W, W = (w.alloc (.cells #[.bool na, .slice ua un uc, .int .i64 ea] 25)).alloc (.cells #[.bool nb, .slice va vn vc, .int .i64 eb] 25) := ⟨_, rfl⟩
  have hBW : Below w.heap.size w W := by rw [hW]; exact ((Below.refl _ _).alloc (Nat.le_refl _) _).alloc (by simp) _
  have hbA : W.heap[w.heap.size]? = some (.cells #[.bool na, .slice ua un uc, .int .i64 ea] 25 (0, 0)) := by
    rw [hW, Below.heap_alloc _ _ _ (by simp)]; exact heap_alloc_new _ _
  have hbB : W.heap[w.heap.size + 1]? = some (.cells #[.bool nb, .slice va vn vc, .int .i64 eb] 25 (0, 0)) := by
    have := heap_alloc_new (w.alloc (.cells #[.bool na, .slice ua un uc, .int .i64 ea] 25)) (.cells #[.bool nb, .slice va vn vc, .int .i64 eb] 25)
    rw [hW]; simpa using this
  have hsz : W.heap.size = w.heap.size + 1 + 1 := by rw [hW]; simp
  have k1 := k67 (W.alloc (.cells #[.bool na, .slice ua un uc, .int .i64 ea, .bool nb, .slice va vn vc, .int .i64 eb] 25)) (w.heap.size + 1 + 1) (hBW.alloc hBW.size _) (by rw [← hsz]; exact heap_alloc_new _ _)
  have HX : Hid (Below w.heap.size w W ∧ W.heap.size = w.heap.size + 1 + 1 ∧ W.heap[w.heap.size]? = some (.cells #[.bool na, .slice ua un uc, .int .i64 ea] 25 (0, 0)) ∧ W.heap[w.heap.size + 1]? = some (.cells #[.bool nb, .slice va vn vc, .int .i64 eb] 25 (0, 0))) := ⟨hBW, hsz, hbA, hbB⟩
  have HT : Hid (Tab32 w ∧ Is w (.slice ua un uc) x ∧ dlen x ≤ 3000 ∧ Is w (.slice va vn vc) y ∧ dlen y ≤ 3000 ∧ y ≠ 0) := ⟨hT, h1, hx, h2, hy, hy0⟩
  have k48 := fun W => c48 mode hm W
  clear hBW hsz hbA hbB k67 hT h1 hx h2 hy hy0
  go_enter Tryz.func37, Tryz.ntmps37
  go_wp2_with fail
  rw [← hW]
  clear hW
  refine k1.mono ?_
  rintro r w1 ⟨rfl, hb1⟩
  have HB1 : Hid (Below W.heap.size W w1) := ((Below.refl W.heap.size W).alloc (Nat.le_refl _) _).trans (hb1.mono (by simp))
  have HW1 : Hid (Below w.heap.size w w1) := HX.out.1.trans (HB1.out.mono HX.out.1.size)
  obtain ⟨⟨a0, a1, a2⟩, -⟩ := box_cells (box_later HX.out.2.2.1 HB1.out (by have := HX.out.2.1; omega))
  obtain ⟨⟨b0, b1, b2⟩, -⟩ := box_cells (box_later HX.out.2.2.2 HB1.out (by have := HX.out.2.1; omega))
  clear k1 hb1
  go_wp2_with fail
  refine (k48 w1).mono ?_
  rintro r w1' ⟨rfl, hw⟩
  replace hw := hw.symm
  subst hw
  clear k48
  have kla : ∀ d, Calls Tryz.prog 54 #[.slice ua un uc] (w1.drewN d) fun e w' => e = .returned (.int .i64 (bx : Nat)) ∧ w' = w1.drewN d := fun d => by
    have := c74 (w := w1.drewN d) (HT.out.2.1.later (HW1.out.trans ⟨rfl, rfl, rfl, Nat.le_refl _, fun _ _ => rfl⟩)) (by have := HT.out.2.2; omega)
    rw [hbx] at this; exact this
  have klb : ∀ d, Calls Tryz.prog 54 #[.slice va vn vc] (w1.drewN d) fun e w' => e = .returned (.int .i64 (by' : Nat)) ∧ w' = w1.drewN d := fun d => by
    have := c74 (w := w1.drewN d) (HT.out.2.2.2.1.later (HW1.out.trans ⟨rfl, rfl, rfl, Nat.le_refl _, fun _ _ => rfl⟩)) (by have := HT.out.2.2; omega)
    rw [hby] at this; exact this
  go_wp2
  go_quiet (first | (go_at_call 54; first | (with_reducible refine Calls.quiet_of_same (klb _)) | (with_reducible refine Calls.quiet_of_same (kla _))))
  have HB2 : Hid (Below W.heap.size W (w1.drewN nq)) := HB1.out.trans ⟨rfl, rfl, rfl, Nat.le_refl _, fun _ _ => rfl⟩
  obtain ⟨w2, hw2⟩ : ∃ w2, w2 = w1.drewN nq := ⟨_, rfl⟩
  rw [← hw2] at HB2 ⊢
  clear hw2 kla klb a0 a1 a2 b0 b1 b2
  have HK : Hid (∀ w', Below w2.heap.size w2 w' → ((w'.cell? ⟨w.heap.size, 0, none⟩ = some (.bool na) ∧ w'.cell? ⟨w.heap.size, 1, none⟩ = some (.slice ua un uc) ∧ w'.cell? ⟨w.heap.size, 2, none⟩ = some (.int .i64 ea)) ∧ (w'.cell? ⟨w.heap.size + 1, 0, none⟩ = some (.bool nb) ∧ w'.cell? ⟨w.heap.size + 1, 1, none⟩ = some (.slice va vn vc) ∧ w'.cell? ⟨w.heap.size + 1, 2, none⟩ = some (.int .i64 eb)))) := fun w' hb => ⟨(box_cells (box_later HX.out.2.2.1 (HB2.out.trans (hb.mono HB2.out.size)) (by have := HX.out.2.1; omega))).1, (box_cells (box_later HX.out.2.2.2 (HB2.out.trans (hb.mono HB2.out.size)) (by have := HX.out.2.1; omega))).1⟩
  obtain ⟨⟨a0, a1, a2⟩, b0, b1, b2⟩ := HK.out w2 (Below.refl _ _)
  have hBR : Below w2.heap.size w2 w2.drew := (Below.refl _ _).drew
  have hl : dlen (x * 2 ^ k) ≤ 7000 := by have := shl_len (x := x) (k := k) rfl; have := HT.out.2.2; omega
  have HL : Hid (dlen (x * 2 ^ k) ≤ 7000) := hl
  have kS : ∀ w', Below w2.heap.size w2 w' → Calls Tryz.prog 90 #[.slice ua un uc, .int .i64 (k : Int)] w' fun e w'' => ∃ v, e = .returned v ∧ Hid (Is w'' v (x * 2 ^ k)) ∧ Below w2.heap.size w2 w'' := fun w' hb => (c109 (HT.out.2.1.later (HX.out.1.trans ((HB2.out.trans (hb.mono HB2.out.size)).mono HX.out.1.size))) k (by have := HT.out.2.2; omega) (by omega)).mono fun r w'' ⟨v, e1, e2, e3⟩ => ⟨v, e1, e2.is, hb.trans (e3.mono hb.size)⟩
  have kD : ∀ v w', Hid (Is w' v (x * 2 ^ k)) → Below w2.heap.size w2 w' → Calls Tryz.prog 82 #[v, .slice va vn vc] w' fun e w'' => ∃ q, e = .returned (.tuple #[q, .bool (decide (x * 2 ^ k % y = 0))]) ∧ Hid (Is w'' q (x * 2 ^ k / y)) ∧ Below w2.heap.size w2 w'' := fun v w' hI hb => (c100 hI.out (HT.out.2.2.2.1.later (HX.out.1.trans ((HB2.out.trans (hb.mono HB2.out.size)).mono HX.out.1.size))) (by have := HL.out; omega) (by have := HT.out.2.2.2.2; omega) HT.out.2.2.2.2.2).mono fun r w'' ⟨q, e1, e2, e3⟩ => ⟨q, e1, e2.is, hb.trans (e3.mono hb.size)⟩
  obtain ⟨xb, hxb⟩ : ∃ xb : Bool, xb = decide (x * 2 ^ k % y = 0) := ⟨_, rfl⟩
  rw [← hxb] at kD
  have HXB : Hid (xb = decide (x * 2 ^ k % y = 0)) := hxb
  clear hxb hl
  go_upto_region 8 with fail
  go_cut [9, 10] from 42 to 50 (fun q b wx => b = .bool xb ∧ Hid (Is wx q (x * 2 ^ k / y)) ∧ Hid (Below w2.heap.size w2 wx))
  case first =>
    go_region_held3 (fun w' => ((w'.cell? ⟨w.heap.size, 0, none⟩ = some (.bool na) ∧ w'.cell? ⟨w.heap.size, 1, none⟩ = some (.slice ua un uc) ∧ w'.cell? ⟨w.heap.size, 2, none⟩ = some (.int .i64 ea)) ∧ (w'.cell? ⟨w.heap.size + 1, 0, none⟩ = some (.bool nb) ∧ w'.cell? ⟨w.heap.size + 1, 1, none⟩ = some (.slice va vn vc) ∧ w'.cell? ⟨w.heap.size + 1, 2, none⟩ = some (.int .i64 eb)))) (first | (with_reducible assumption) | exact ⟨⟨a0, a1, a2⟩, b0, b1, b2⟩ | (refine HK.out _ ?_; with_reducible assumption) | go_keep)
      (first | (go_at_call 90; refine (kS _ (by first | (with_reducible assumption) | exact hBR)).mono ?_; rintro r w5 ⟨v5, rfl, hI5, hb5⟩) | (go_at_call 82; refine (kD _ _ hI5 (by with_reducible assumption)).mono ?_; rintro r w6 ⟨v6, rfl, hI6, hb6⟩))
    all_goals go_wp2_with fail
    all_goals go_meet
    all_goals exact ⟨rfl, hI6, hb6⟩
  case rest =>
    obtain ⟨rfl, hI, hB⟩ := hcut
    obtain ⟨w3, rfl⟩ : ∃ w3 : World, w3 = wc := ⟨_, rfl⟩
    have HB3 : Hid (Below W.heap.size W w3) := HB2.out.trans (hB.out.mono HB2.out.size)
    clear a0 a1 a2 b0 b1 b2 kS kD hBR
    obtain ⟨⟨a0, a1, a2⟩, b0, b1, b2⟩ := HK.out w3 hB.out
    have kt := c110 (neg := sg) (exact := xb) (e := ea - eb - k) (mode := mode) (HT.out.1.later (HX.out.1.trans (HB3.out.mono HX.out.1.size))) hI.out (Nat.le_trans (dlen_mono (Nat.div_le_self _ _)) (by have := HL.out; omega)) (by omega) (by omega)
    go_wp2_with fail
    rw [hsg.out]
    refine kt.mono ?_
    rintro r w4 ⟨rfl, hb4⟩
    have HB4 : Hid (Below W.heap.size W w4) := HB3.out.trans (hb4.mono HB3.out.size)
    clear kt hb4
    go_wp2
    refine bodyPost_ret (results_tmp2 rfl _ _ _) rfl ?_
    exact ⟨congrArg (fun b => Ending.returned (Value.tuple #[.float .f64 (tfF sg b (x * 2 ^ k / y) (ea - eb - k) mode), .int .i64 0])) HXB.out, HX.out.1.trans (HB4.out.mono HX.out.1.size)⟩
end Go.Proofs.YtmhpicccfaklcaaGreatDoor

/- The values of floats by their bodies, and how values are rounded: plain facts. -/
namespace Go.Proofs.YtmhpicccfaklcaaGreatDoor
set_option linter.unusedVariables false
set_option linter.unusedSimpArgs false

/-- the value of a float's body (its bits without the sign), in units of 2^-1074 -/
def bv (b : Nat) : Nat := if b < 4503599627370496 then b else (4503599627370496 + b % 4503599627370496) * 2 ^ (b / 4503599627370496 - 1)
theorem bv_at {j q : Nat} (h : (j = 0 ∧ q ≤ 9007199254740992) ∨ (4503599627370496 ≤ q ∧ q ≤ 9007199254740992)) : bv (j * 4503599627370496 + q) = q * 2 ^ j := by
  unfold bv
  by_cases h1 : j * 4503599627370496 + q < 4503599627370496
  · have hj : j = 0 := by omega
    subst hj
    rw [if_pos h1]; simp
  · rw [if_neg h1]
    by_cases h2 : q = 9007199254740992
    · subst h2
      rw [show (j * 4503599627370496 + 9007199254740992) % 4503599627370496 = 0 by omega, show (j * 4503599627370496 + 9007199254740992) / 4503599627370496 - 1 = j + 1 by omega, Nat.pow_succ]
      omega
    · have h3 : 4503599627370496 ≤ q := by omega
      rw [show (j * 4503599627370496 + q) % 4503599627370496 = q - 4503599627370496 by omega, show (j * 4503599627370496 + q) / 4503599627370496 - 1 = j by omega]
      rw [show 4503599627370496 + (q - 4503599627370496) = q by omega]
theorem bv_form (b : Nat) : ∃ j q, b = j * 4503599627370496 + q ∧ bv b = q * 2 ^ j ∧ bv (b + 1) = (q + 1) * 2 ^ j := by
  by_cases h : b < 4503599627370496
  · refine ⟨0, b, by omega, ?_, ?_⟩
    · have := bv_at (j := 0) (q := b) (.inl ⟨rfl, by omega⟩); simpa using this
    · have := bv_at (j := 0) (q := b + 1) (.inl ⟨rfl, by omega⟩); simpa using this
  · have e : b = (b / 4503599627370496 - 1) * 4503599627370496 + (4503599627370496 + b % 4503599627370496) := by omega
    refine ⟨_, _, e, ?_, ?_⟩
    · have := bv_at (j := b / 4503599627370496 - 1) (q := 4503599627370496 + b % 4503599627370496) (.inr ⟨by omega, by omega⟩)
      rw [← e] at this; exact this
    · have := bv_at (j := b / 4503599627370496 - 1) (q := 4503599627370496 + b % 4503599627370496 + 1) (.inr ⟨by omega, by omega⟩)
      rw [← Nat.add_assoc, ← e] at this; exact this
theorem bv_succ (b : Nat) : bv b < bv (b + 1) := by
  obtain ⟨j, q, -, h1, h2⟩ := bv_form b
  rw [h1, h2]
  exact Nat.mul_lt_mul_of_pos_right (by omega) (Nat.two_pow_pos j)
theorem bv_lt {a b : Nat} (h : a < b) : bv a < bv b := by
  induction b with
  | zero => omega
  | succ b ih =>
    by_cases h1 : a < b
    · exact Nat.lt_trans (ih h1) (bv_succ b)
    · obtain rfl : a = b := by omega
      exact bv_succ a
theorem bv_le {a b : Nat} (h : a ≤ b) : bv a ≤ bv b := by
  by_cases h1 : a = b
  · rw [h1]; exact Nat.le_refl _
  · exact Nat.le_of_lt (bv_lt (by omega))
theorem bv_inj_lt {a b : Nat} (h : bv a < bv b) : a < b := by
  apply Decidable.byContradiction
  intro h1
  have := bv_le (a := b) (b := a) (by omega)
  omega

/-- the number x·2^e (x' / 2^k units of the body's rung j) -/
structure IsR (x : Nat) (e : Int) (j X k : Nat) : Prop where
  eq : ∀ K : Nat, 0 ≤ e + K → 0 ≤ (j : Int) - 1074 - k + K → X * 2 ^ ((j : Int) - 1074 - k + K).toNat = x * 2 ^ (e + K).toNat
  lt : X / 2 ^ k < 9007199254740992
  ge : j = 0 ∨ 4503599627370496 ≤ X / 2 ^ k

/-- how a value A (in units u of 2^-1074) lies at the bodies b and b + 1, by what is left over -/
structure Lies (A u b : Nat) (r m : Nat) : Prop where
  lo : bv b * u ≤ A
  hi : A < bv (b + 1) * u
  ex : r = 0 ↔ A = bv b * u
  half_lt : 2 * r < m ↔ 2 * A < (bv b + bv (b + 1)) * u
  half_eq : 2 * r = m ↔ 2 * A = (bv b + bv (b + 1)) * u
theorem IsR.lies {x : Nat} {e : Int} {j X k : Nat} (h : IsR x e j X k) {K : Nat} (hK : 1074 ≤ K) (h1 : 0 ≤ e + K) (h2 : 0 ≤ (j : Int) - 1074 - k + K) :
    Lies (x * 2 ^ (e + K).toNat) (2 ^ (K - 1074)) (j * 4503599627370496 + X / 2 ^ k) (X % 2 ^ k) (2 ^ k) := by
  have eq := h.eq K h1 h2
  have hl := h.lt
  have hg := h.ge
  have b0 : bv (j * 4503599627370496 + X / 2 ^ k) = X / 2 ^ k * 2 ^ j := bv_at (j := j) (q := X / 2 ^ k) (by
    generalize X / 2 ^ k = q at *
    rcases hg with g | g
    · exact .inl ⟨g, by omega⟩
    · exact .inr ⟨g, by omega⟩)
  have b1 : bv (j * 4503599627370496 + X / 2 ^ k + 1) = (X / 2 ^ k + 1) * 2 ^ j := by
    have := bv_at (j := j) (q := X / 2 ^ k + 1) (by
      generalize X / 2 ^ k = q at *
      rcases hg with g | g
      · exact .inl ⟨g, by omega⟩
      · exact .inr ⟨by omega, by omega⟩)
    rw [← Nat.add_assoc] at this
    exact this
  have hu : 2 ^ j * 2 ^ (K - 1074) = 2 ^ k * 2 ^ ((j : Int) - 1074 - k + K).toNat := by
    rw [← Nat.pow_add, ← Nat.pow_add, show j + (K - 1074) = k + ((j : Int) - 1074 - k + K).toNat by omega]
  have hX : X = 2 ^ k * (X / 2 ^ k) + X % 2 ^ k := (Nat.div_add_mod X (2 ^ k)).symm
  have hr : X % 2 ^ k < 2 ^ k := Nat.mod_lt _ (Nat.two_pow_pos k)
  have hU : 0 < 2 ^ ((j : Int) - 1074 - k + K).toNat := Nat.two_pow_pos _
  rw [← eq]
  generalize 2 ^ ((j : Int) - 1074 - k + K).toNat = U at *
  generalize X / 2 ^ k = q at *
  generalize X % 2 ^ k = r at *
  generalize 2 ^ k = M at *
  generalize 2 ^ j = J at *
  generalize 2 ^ (K - 1074) = u at *
  have e0 : bv (j * 4503599627370496 + q) * u = q * (M * U) := by rw [b0, Nat.mul_assoc, hu]
  have e1 : bv (j * 4503599627370496 + q + 1) * u = (q + 1) * (M * U) := by rw [b1, Nat.mul_assoc, hu]
  have eA : X * U = q * (M * U) + r * U := by rw [hX, Nat.add_mul]; congr 1; rw [← Nat.mul_assoc, Nat.mul_comm q M]
  have e1' : (q + 1) * (M * U) = q * (M * U) + M * U := by rw [Nat.add_mul, Nat.one_mul]
  have hrU : r * U < M * U := Nat.mul_lt_mul_of_pos_right hr hU
  have hr0 : r = 0 ↔ r * U = 0 := by
    constructor
    · rintro rfl; simp
    · intro h; rcases Nat.mul_eq_zero.1 h with h | h
      · exact h
      · omega
  have hh1 : 2 * r < M ↔ 2 * (r * U) < M * U := by
    rw [← Nat.mul_assoc]
    exact (Nat.mul_lt_mul_right hU).symm
  have hh2 : 2 * r = M ↔ 2 * (r * U) = M * U := by
    rw [← Nat.mul_assoc]
    exact (Nat.mul_left_inj (by omega)).symm
  refine ⟨?_, ?_, ?_, ?_, ?_⟩
  · rw [e0, eA]; omega
  · rw [e1, eA, e1']; omega
  · rw [hr0, e0, eA]; omega
  · rw [hh1, Nat.add_mul, e0, e1, eA, e1']; omega
  · rw [hh2, Nat.add_mul, e0, e1, eA, e1']; omega

/-- a value rounded by a way: 0 inward, 1 to the nearest, 2 outward; no greatest one -/
structure Rounds (A u b way : Nat) : Prop where
  fl : ∃ b0, (bv b0 * u ≤ A ∧ A < bv (b0 + 1) * u) ∧ (way = 0 → b = b0) ∧ (way = 2 → b = if A = bv b0 * u then b0 else b0 + 1) ∧ (way = 1 → b = if 2 * A < (bv b0 + bv (b0 + 1)) * u then b0 else if 2 * A = (bv b0 + bv (b0 + 1)) * u then b0 + b0 % 2 else b0 + 1)
theorem floor_mono {A A' u b b' : Nat} (h : A ≤ A') (h1 : bv b * u ≤ A) (h2 : A' < bv (b' + 1) * u) : b ≤ b' := by
  have h3 : bv b * u < bv (b' + 1) * u := by omega
  have h4 : bv b < bv (b' + 1) := Nat.lt_of_mul_lt_mul_right h3
  have := bv_inj_lt h4
  omega
theorem Rounds.mono {A A' u b b' way : Nat} (hw : way = 0 ∨ way = 1 ∨ way = 2) (h : Rounds A u b way) (h' : Rounds A' u b' way) (hle : A ≤ A') : b ≤ b' := by
  obtain ⟨b0, ⟨l, g⟩, w0, w2, w1⟩ := h.fl
  obtain ⟨b1, ⟨l', g'⟩, w0', w2', w1'⟩ := h'.fl
  have hb := floor_mono hle l g'
  rcases hw with hw | hw | hw
  · rw [w0 hw, w0' hw]; exact hb
  · rw [w1 hw, w1' hw]
    by_cases he : b0 = b1
    · subst he
      split
      · split
        · exact Nat.le_refl _
        · split <;> omega
      · split
        · split
          · omega
          · split
            · exact Nat.le_refl _
            · have : b0 % 2 < 2 := Nat.mod_lt _ (by omega)
              omega
        · rw [if_neg (by omega), if_neg (by omega)]; exact Nat.le_refl _
    · have hlt : b0 < b1 := by omega
      have h1 : (if 2 * A < (bv b0 + bv (b0 + 1)) * u then b0 else if 2 * A = (bv b0 + bv (b0 + 1)) * u then b0 + b0 % 2 else b0 + 1) ≤ b0 + 1 := by
        split
        · omega
        · split <;> omega
      have h2 : b1 ≤ (if 2 * A' < (bv b1 + bv (b1 + 1)) * u then b1 else if 2 * A' = (bv b1 + bv (b1 + 1)) * u then b1 + b1 % 2 else b1 + 1) := by
        split
        · omega
        · split <;> omega
      omega
  · rw [w2 hw, w2' hw]
    by_cases he : b0 = b1
    · subst he
      split
      · split <;> omega
      · rw [if_neg (by omega)]; exact Nat.le_refl _
    · split
      · split <;> omega
      · split <;> omega
/-- inward is not above nearest, nor that above outward; inward and outward hold the value -/
theorem Rounds.order {A u b0 b1 b2 : Nat} (h0 : Rounds A u b0 0) (h1 : Rounds A u b1 1) (h2 : Rounds A u b2 2) : b0 ≤ b1 ∧ b1 ≤ b2 ∧ bv b0 * u ≤ A ∧ A ≤ bv b2 * u ∧ (b0 = b2 → A = bv b0 * u) := by
  obtain ⟨c0, ⟨l0, g0⟩, w0, -, -⟩ := h0.fl
  obtain ⟨c1, ⟨l1, g1⟩, -, -, w1⟩ := h1.fl
  obtain ⟨c2, ⟨l2, g2⟩, -, w2, -⟩ := h2.fl
  have e1 : c1 = c0 := by
    have := floor_mono (Nat.le_refl A) l1 g0
    have := floor_mono (Nat.le_refl A) l0 g1
    omega
  have e2 : c2 = c0 := by
    have := floor_mono (Nat.le_refl A) l2 g0
    have := floor_mono (Nat.le_refl A) l0 g2
    omega
  subst e1; subst e2
  have r0 := w0 rfl
  have r1 := w1 rfl
  have r2 := w2 rfl
  subst r0
  have hu : 0 < u := by
    apply Decidable.byContradiction
    intro h
    have : u = 0 := by omega
    subst this
    simp at g0
  have hs : bv b0 * u < bv (b0 + 1) * u := Nat.mul_lt_mul_of_pos_right (bv_succ b0) hu
  have hm : (bv b0 + bv (b0 + 1)) * u = bv b0 * u + bv (b0 + 1) * u := Nat.add_mul ..
  have hp : b0 % 2 < 2 := Nat.mod_lt _ (by omega)
  refine ⟨?_, ?_, l0, ?_, ?_⟩
  · rw [r1]
    split
    · omega
    · split <;> omega
  · rw [r1, r2]
    by_cases he : A = bv b0 * u
    · rw [if_pos he, if_pos (by omega)]; exact Nat.le_refl _
    · rw [if_neg he]
      split
      · omega
      · split <;> omega
  · rw [r2]
    split
    · omega
    · omega
  · intro h
    rw [r2] at h
    split at h
    · assumption
    · omega
end Go.Proofs.YtmhpicccfaklcaaGreatDoor

/- The program's rounding rounds: the body that Make makes of toFloat's digits. -/
namespace Go.Proofs.YtmhpicccfaklcaaGreatDoor
set_option linter.unusedVariables false
set_option linter.unusedSimpArgs false
open Go.RowKit Go.Fl64
open Ie

theorem or_one_half (y : Nat) : (y ||| 1) / 2 = y / 2 := by rw [Nat.or_div_two]; simp
theorem or_one_odd (y : Nat) : (y ||| 1) % 2 = 1 := Nat.or_mod_two_eq_one.2 (.inr rfl)
theorem or_one_eq (y : Nat) : y ||| 1 = 2 * (y / 2) + 1 := by
  have h1 := or_one_half y
  have h2 := or_one_odd y
  omega
/-- what was left out, told by an odd last digit, is rounded as it is -/
theorem rnd_sticky {x D k y m : Nat} {way : Int} (hk : 2 ≤ k) (hy : y = x / 2 ^ D) (hm : (x % 2 ^ D = 0 ∧ m = y) ∨ (x % 2 ^ D ≠ 0 ∧ m = 2 * (y / 2) + 1)) : rnd m k way = rnd x (D + k) way := by
  obtain ⟨h, rfl⟩ : ∃ h, k = h + 2 := ⟨k - 2, by omega⟩
  have e2 : (2 : Nat) ^ (h + 2) = 2 * (2 * 2 ^ h) := by rw [Nat.pow_succ, Nat.pow_succ]; omega
  have eD : (2 : Nat) ^ (D + (h + 2)) = 2 ^ D * 2 ^ (h + 2) := Nat.pow_add ..
  have hq : m / 2 ^ (h + 2) = x / 2 ^ (D + (h + 2)) := by
    rw [eD, ← Nat.div_div_eq_div_mul, ← hy]
    rcases hm with ⟨-, hm⟩ | ⟨-, hm⟩
    · rw [hm]
    · have hd : ∀ z, z / (2 * (2 * 2 ^ h)) = z / 2 / (2 * 2 ^ h) := fun z => (Nat.div_div_eq_div_mul ..).symm
      rw [e2, hd, hd, hm, show (2 * (y / 2) + 1) / 2 = y / 2 by omega]
  have hR : x % 2 ^ (D + (h + 2)) = (y % 2 ^ (h + 2)) * 2 ^ D + x % 2 ^ D := by
    rw [eD, Nat.mod_mul, hy, Nat.mul_comm]; omega
  have hM : (x % 2 ^ D = 0 ∧ m % 2 ^ (h + 2) = y % 2 ^ (h + 2)) ∨ (x % 2 ^ D ≠ 0 ∧ m % 2 ^ (h + 2) = 2 * (y % 2 ^ (h + 2) / 2) + 1) := by
    rcases hm with ⟨h1, hm⟩ | ⟨h1, hm⟩
    · exact .inl ⟨h1, by rw [hm]⟩
    · refine .inr ⟨h1, ?_⟩
      rw [hm, e2]
      generalize 2 ^ h = H
      rw [Nat.mod_mul, Nat.mod_mul (x := y), show (2 * (y / 2) + 1) % 2 = 1 by omega, show (2 * (y / 2) + 1) / 2 = y / 2 by omega]
      generalize y / 2 % (2 * H) = t
      omega
  have hrx : x % 2 ^ D < 2 ^ D := Nat.mod_lt _ (Nat.two_pow_pos D)
  have hp : 0 < 2 ^ D := Nat.two_pow_pos D
  have i0 : m % 2 ^ (h + 2) = 0 ↔ x % 2 ^ (D + (h + 2)) = 0 := by
    rw [hR]
    rcases hM with ⟨h1, h2⟩ | ⟨h1, h2⟩
    · rw [h1, h2, Nat.add_zero]
      constructor
      · intro e; rw [e, Nat.zero_mul]
      · intro e; rcases Nat.mul_eq_zero.1 e with e | e
        · exact e
        · omega
    · rw [h2]; omega
  have key : ∀ c : Nat, c = 2 * 2 ^ h → (2 ^ (h + 2) < 2 * (m % 2 ^ (h + 2)) ↔ 2 ^ (D + (h + 2)) < 2 * (x % 2 ^ (D + (h + 2)))) ∧ (2 * (m % 2 ^ (h + 2)) = 2 ^ (h + 2) ↔ 2 * (x % 2 ^ (D + (h + 2))) = 2 ^ (D + (h + 2))) := by
    intro c hc
    rw [hR, eD]
    have e3 : (2 : Nat) ^ (h + 2) = 2 * c := by rw [e2, hc]
    rw [e3] at hM ⊢
    have hc2 : c % 2 = 0 := by omega
    generalize y % (2 * c) = ry at *
    generalize m % (2 * c) = rm at *
    generalize x % 2 ^ D = rx at *
    generalize 2 ^ D = T at *
    have a1 : T * (2 * c) = 2 * (c * T) := by rw [Nat.mul_comm T, Nat.mul_assoc]
    rw [a1]
    rcases hM with ⟨h1, h2⟩ | ⟨h1, h2⟩
    · subst h1
      rw [h2, Nat.add_zero]
      constructor
      · constructor
        · intro g; have := Nat.mul_lt_mul_of_pos_right (show c < ry by omega) hp; omega
        · intro g; have : c * T < ry * T := by omega
          have := Nat.lt_of_mul_lt_mul_right this; omega
      · constructor
        · intro g; rw [show ry = c by omega]
        · intro g; have := Nat.eq_of_mul_eq_mul_right hp (show ry * T = c * T by omega); omega
    · have hlt : ry < c → ry * T + rx < c * T := by
        intro g
        have := Nat.mul_le_mul_right T (show ry + 1 ≤ c by omega)
        rw [Nat.add_mul, Nat.one_mul] at this
        omega
      have hge : c ≤ ry → c * T < ry * T + rx := by
        intro g
        have := Nat.mul_le_mul_right T g
        omega
      by_cases g : ry < c
      · have a2 := hlt g
        have a3 : rm < c := by omega
        clear hlt hge
        refine ⟨⟨fun g2 => ?_, fun g2 => ?_⟩, ⟨fun g2 => ?_, fun g2 => ?_⟩⟩
        · omega
        · omega
        · omega
        · omega
      · have a2 := hge (by omega)
        have a3 : c < rm := by omega
        clear hlt hge
        refine ⟨⟨fun g2 => ?_, fun g2 => ?_⟩, ⟨fun g2 => ?_, fun g2 => ?_⟩⟩
        · omega
        · omega
        · omega
        · omega
  have k1 := key _ rfl
  unfold rnd
  have hrup : Ie.rup m (h + 2) way = Ie.rup x (D + (h + 2)) way := by
    unfold Ie.rup
    rw [hq]
    simp only [k1.1, k1.2, ne_eq, i0]
  rw [hrup, hq]
theorem tz_iff {x n : Nat} (h0 : x ≠ 0) : tz x < n ↔ x % 2 ^ n ≠ 0 := by
  obtain ⟨h1, h2⟩ := tz_spec x x (Nat.le_refl _) h0
  constructor
  · intro hlt he
    have hd : 2 ^ (tz x + 1) ∣ x := Nat.dvd_trans (Nat.pow_dvd_pow 2 (by omega)) (Nat.dvd_of_mod_eq_zero he)
    obtain ⟨c, hc⟩ := hd
    have h3 : x / 2 ^ tz x = 2 * c := by
      rw [Nat.pow_succ, Nat.mul_assoc] at hc
      exact Nat.div_eq_of_eq_mul_right (Nat.two_pow_pos _) hc
    omega
  · intro hne
    apply Decidable.byContradiction
    intro hge
    apply hne
    have : 2 ^ n ∣ x := by rw [← h1]; exact Nat.dvd_trans (Nat.pow_dvd_pow 2 (by omega)) (Nat.dvd_mul_right _ _)
    exact Nat.mod_eq_zero_of_dvd this
theorem raw_of {x : Nat} {e : Int} {X m j k k1 : Nat} {s P : Int} {e' : Int} (hs : s = e' - (nz m : Int)) (hP : P = pl m e') (hk1 : (k1 : Int) = P - s) (hj : (j : Int) = P + 1074) (hr : ∀ way, rnd (tp m) k1 way = rnd X k way) (way : Int) : raw m e' way = ((j * 4503599627370496 + rnd X k way : Nat) : Int) := by
  unfold raw
  rw [← hP, ← hs, show (P - s).toNat = k1 by omega, hr]
  omega
/-- Make's body of a number is what its value is rounded to -/
theorem raw_is {x : Nat} {e : Int} (h0 : x ≠ 0) : ∃ j X k, IsR x e j X k ∧ (∀ way, raw (tfM true x) (e + (tfD x : Int)) way = ((j * 4503599627370496 + rnd X k way : Nat) : Int)) ∧ (k : Int) ≤ j + 1074 + (if e < 0 then -e else 0) + 64 ∧ -64 + min e (-1074) ≤ (j : Int) - 1074 - k := by
  by_cases hD : bl x ≤ 64
  · have eD : tfD x = 0 := by unfold tfD; omega
    have eM : tfM true x = x := by unfold tfM; rw [eD]; simp
    rw [eM, eD]
    have hx64 : x < 18446744073709551616 := (bl_le x 64).1 hD
    obtain ⟨n1, n2, n3⟩ := nz_facts x hx64 h0
    obtain ⟨P, hP⟩ : ∃ P, P = pl x (e + ((0 : Nat) : Int)) := ⟨_, rfl⟩
    have hPl := hP
    unfold pl at hPl
    have hPc : (P = -1074 ∧ e - nz x + 11 < -1074) ∨ (P = e - nz x + 11 ∧ -1074 ≤ P) := by
      split at hPl
      · exact .inl ⟨hPl, by omega⟩
      · exact .inr ⟨by omega, by omega⟩
    refine ⟨(P + 1074).toNat, tp x, (P - (e - nz x)).toNat, ⟨?_, ?_, ?_⟩, fun way => raw_of (x := x) (e := e) (m := x) (s := e - nz x) (P := P) (k1 := (P - (e - nz x)).toNat) (by omega) hP (by omega) (by omega) (fun _ => rfl) way, ?_, ?_⟩
    · intro K hK1 hK2
      unfold tp
      rw [Nat.mul_assoc, ← Nat.pow_add]
      congr 2
      omega
    · have : 2 ^ 11 ≤ 2 ^ (P - (e - nz x)).toNat := Nat.pow_le_pow_right (by omega) (by omega)
      refine Nat.div_lt_of_lt_mul ?_
      have : 2 ^ 11 * 9007199254740992 ≤ 2 ^ (P - (e - nz x)).toNat * 9007199254740992 := Nat.mul_le_mul_right _ this
      omega
    · rcases hPc with h | h
      · exact .inl (by omega)
      · refine .inr ?_
        rw [show (P - (e - nz x)).toNat = 11 by omega]
        omega
    · split <;> omega
    · omega
  · have eD : bl x = tfD x + 64 := by unfold tfD; omega
    obtain ⟨D, hDD⟩ : ∃ D, D = tfD x := ⟨_, rfl⟩
    rw [← hDD] at eD ⊢
    have hx1 : x < 2 ^ (D + 64) := by rw [← eD]; exact lt_bl x
    have hx2 : 2 ^ (D + 63) ≤ x := by have := le_bl h0; rw [eD] at this; exact this
    have hp : 0 < 2 ^ D := Nat.two_pow_pos D
    obtain ⟨y, hy⟩ : ∃ y, y = x / 2 ^ D := ⟨_, rfl⟩
    have hy1 : y < 18446744073709551616 := by rw [hy]; refine Nat.div_lt_of_lt_mul ?_; rw [Nat.pow_add] at hx1; exact hx1
    have hy2 : 9223372036854775808 ≤ y := by rw [hy, Nat.le_div_iff_mul_le hp, Nat.mul_comm]; rw [Nat.pow_add] at hx2; exact hx2
    have hm : (x % 2 ^ D = 0 ∧ tfM true x = y) ∨ (x % 2 ^ D ≠ 0 ∧ tfM true x = 2 * (y / 2) + 1) := by
      unfold tfM
      rw [← hDD, ← hy]
      by_cases hz : tz x < D
      · exact .inr ⟨(tz_iff h0).1 hz, by rw [decide_eq_true hz]; exact or_one_eq y⟩
      · refine .inl ⟨?_, by rw [decide_eq_false hz]; rfl⟩
        apply Decidable.byContradiction
        intro h
        exact hz ((tz_iff h0).2 h)
    obtain ⟨m, hmm⟩ : ∃ m, m = tfM true x := ⟨_, rfl⟩
    rw [← hmm] at hm ⊢
    have hm1 : m < 18446744073709551616 := by rcases hm with h | h <;> omega
    have hm2 : 9223372036854775808 ≤ m := by rcases hm with h | h <;> omega
    have hbm : bl m = 64 := bl_eq (n := 64) hm1 (.inr hm2)
    have hnz : nz m = 0 := by unfold nz; rw [← bl_bitLen, hbm]
    have htp : tp m = m := by unfold tp; rw [hnz]; simp
    obtain ⟨P, hP⟩ : ∃ P, P = pl m (e + (D : Int)) := ⟨_, rfl⟩
    have hPl := hP
    unfold pl at hPl
    rw [hnz] at hPl
    have hPc : (P = -1074 ∧ e + D + 11 < -1074) ∨ (P = e + D + 11 ∧ -1074 ≤ P) := by
      split at hPl
      · exact .inl ⟨hPl, by omega⟩
      · exact .inr ⟨by omega, by omega⟩
    have hq : ∀ k1, 11 ≤ k1 → x / 2 ^ (D + k1) = y / 2 ^ k1 := fun k1 _ => by rw [Nat.pow_add, ← Nat.div_div_eq_div_mul, hy]
    refine ⟨(P + 1074).toNat, x, D + (P - (e + D)).toNat, ⟨?_, ?_, ?_⟩, fun way => raw_of (x := x) (e := e) (m := m) (s := e + D) (P := P) (k1 := (P - (e + D)).toNat) (by rw [hnz]; omega) hP (by omega) (by omega) (fun way => by rw [htp]; exact rnd_sticky (by omega) hy hm) way, ?_, ?_⟩
    · intro K hK1 hK2
      congr 2
      omega
    · rw [hq _ (by omega)]
      have : 2 ^ 11 ≤ 2 ^ (P - (e + D)).toNat := Nat.pow_le_pow_right (by omega) (by omega)
      refine Nat.div_lt_of_lt_mul ?_
      have : 2 ^ 11 * 9007199254740992 ≤ 2 ^ (P - (e + D)).toNat * 9007199254740992 := Nat.mul_le_mul_right _ this
      omega
    · rcases hPc with h | h
      · exact .inl (by omega)
      · refine .inr ?_
        rw [hq _ (by omega), show (P - (e + D)).toNat = 11 by omega]
        omega
    · split <;> omega
    · omega
end Go.Proofs.YtmhpicccfaklcaaGreatDoor

/- A float is made anew of its odd part and its exponent, whatever the way of rounding. -/
namespace Go.Proofs.YtmhpicccfaklcaaGreatDoor.Ie
set_option linter.unusedVariables false
set_option linter.unusedSimpArgs false
open Go.RowKit Go.Fl64

/-- A number with an odd part has one only. -/
theorem odd_one {x j M : Nat} (hx : x % 2 = 1) (h : x * 2 ^ j = M) (hM : M < 2 ^ 64) : j = Lib.ctz 64 M ∧ (x : Int) = (M : Int) / 2 ^ Lib.ctz 64 M := by
  have hp : 0 < 2 ^ j := Nat.two_pow_pos j
  have h0 : M ≠ 0 := by
    rw [← h]
    exact Nat.ne_of_gt (Nat.mul_pos (by omega) hp)
  obtain ⟨m, hm, hk⟩ := Lib.ctzFrom_spec 64 M (by omega) hM
  have e : Lib.ctz 64 M = Lib.ctzFrom 64 M := by simp [Lib.ctz, h0]
  rw [e]
  generalize Lib.ctzFrom 64 M = c at *
  have hjc : j = c := by
    rcases Nat.lt_trichotomy j c with hlt | heq | hgt
    · exfalso
      obtain ⟨d, rfl⟩ : ∃ d, c = j + (d + 1) := ⟨c - j - 1, by omega⟩
      rw [← h, Nat.pow_add, Nat.mul_comm x, Nat.mul_assoc] at hm
      have := Nat.eq_of_mul_eq_mul_left hp hm
      rw [Nat.pow_succ, Nat.mul_comm (2 ^ d) 2, Nat.mul_assoc] at this
      omega
    · exact heq
    · exfalso
      obtain ⟨d, rfl⟩ : ∃ d, j = c + (d + 1) := ⟨j - c - 1, by omega⟩
      rw [← h, Nat.pow_add, Nat.mul_comm x, Nat.mul_assoc] at hm
      have := Nat.eq_of_mul_eq_mul_left (Nat.two_pow_pos c) hm
      rw [Nat.pow_succ, Nat.mul_comm (2 ^ d) 2, Nat.mul_assoc] at this
      omega
  subst hjc
  refine ⟨rfl, ?_⟩
  have e2 : M / 2 ^ j = x := by rw [← h]; exact Nat.mul_div_cancel _ hp
  rw [← e2]
  simp


/-- What is whole stays, whatever the way. -/
theorem rnd_whole (X d : Nat) (way : Int) : rnd (X * 2 ^ d) d way = X := by
  have hp : 0 < 2 ^ d := Nat.two_pow_pos d
  have e1 : X * 2 ^ d % 2 ^ d = 0 := Nat.mul_mod_left X (2 ^ d)
  have e2 : X * 2 ^ d / 2 ^ d = X := Nat.mul_div_cancel X hp
  unfold rnd rup
  rw [e1, e2]
  have h : ¬ (2 ^ d < 2 * 0) := by omega
  have h' : ¬ (2 * 0 = 2 ^ d) := by omega
  simp only [h, h', decide_false, Bool.false_or, Bool.false_and, ne_eq, not_true_eq_false, ite_self, if_false, Bool.false_eq_true]

theorem bitLen_of {x k : Nat} (h1 : 2 ^ k ≤ x) (h2 : x < 2 ^ (k + 1)) : bitLen x = k + 1 := by
  have h0 : x ≠ 0 := by have := Nat.two_pow_pos k; omega
  unfold bitLen
  rw [if_neg h0, (Nat.log2_eq_iff h0).2 ⟨h1, h2⟩]

/-- The float is made of its odd part, in every way. -/
theorem bod_split {a : Nat} (h0 : mag a ≠ 0) (h1 : mag a < 9218868437227405312) (x c : Nat) (hx : x * 2 ^ c = mant a) (way : Int) :
    bod x (lp a + (c : Int)) way = (mag a : Int) := by
  have hm := mant_ne h0
  have hb := mant_bound a
  have hp : 0 < 2 ^ c := Nat.two_pow_pos c
  have e1 : mant a / 2 ^ c = x := by rw [← hx]; exact Nat.mul_div_cancel _ hp
  have hx0 : x ≠ 0 := by
    intro e
    rw [e, Nat.zero_mul] at hx
    exact hm hx.symm
  have e2 := bitLen_shift (mant a) c (by rw [e1]; exact hx0)
  rw [e1] at e2
  have hx64 : x < 18446744073709551616 := by
    have : x ≤ x * 2 ^ c := Nat.le_mul_of_pos_right x hp
    omega
  obtain ⟨s1, s2⟩ := bitLen_spec x
  have s2 := s2 hx0
  have s3 := bitLen_le64 x hx64
  have s4 : bitLen x ≠ 0 := by unfold bitLen; rw [if_neg hx0]; omega
  have k53 : bitLen (mant a) ≤ 53 := by
    unfold bitLen
    rw [if_neg hm]
    have := (Nat.log2_lt hm).2 (show mant a < 2 ^ 53 from hb)
    omega
  have key : ∀ d : Nat, (nz x : Int) - (c : Int) = (d : Int) → tp x = mant a * 2 ^ d := by
    intro d hd
    unfold tp
    rw [← hx, Nat.mul_assoc, ← Nat.pow_add, show nz x = c + d by omega]
  have hz : (nz x : Int) - (c : Int) = 64 - (bitLen (mant a) : Int) := by unfold nz; omega
  have fin : ∀ d : Nat, (d : Int) = 64 - (bitLen (mant a) : Int) → ∀ P : Int, pl x (lp a + (c : Int)) = P → (P - (lp a + (c : Int) - (nz x : Int))).toNat = d → (P + 1074) * 4503599627370496 + (mant a : Int) = (mag a : Int) → bod x (lp a + (c : Int)) way = (mag a : Int) := by
    intro d hd P hP hD hM
    have er : raw x (lp a + (c : Int)) way = (mag a : Int) := by
      unfold raw
      rw [hP, hD, key d (by omega), rnd_whole]
      exact hM
    unfold bod
    rw [er, if_pos (by omega)]
  by_cases h3 : mag a < 4503599627370496
  · have em : mant a = mag a := if_pos h3
    have el : lp a = -1074 := by unfold lp; omega
    have k52 : bitLen (mant a) ≤ 52 := by
      unfold bitLen
      rw [if_neg hm]
      have := (Nat.log2_lt hm).2 (show mant a < 2 ^ 52 by rw [em]; exact h3)
      omega
    refine fin (64 - bitLen (mant a)) (by omega) (-1074) ?_ (by omega) (by omega)
    unfold pl
    rw [if_pos (by omega)]
  · have em : mant a = 4503599627370496 + mag a % 4503599627370496 := if_neg h3
    have kk : bitLen (mant a) = 53 := bitLen_of (k := 52) (show 2 ^ 52 ≤ mant a by rw [em]; omega) (show mant a < 2 ^ 53 from hb)
    have el : lp a = -1075 + ((mag a / 4503599627370496 : Nat) : Int) := by unfold lp; omega
    refine fin 11 (by omega) (lp a) ?_ (by omega) (by omega)
    unfold pl
    rw [if_neg (by omega)]
    omega

theorem sig_self (a : Nat) (h : a < 18446744073709551616) : sig (neg a) (mag a) = a := by
  unfold sig neg mag
  by_cases hn : 9223372036854775808 ≤ a
  · rw [decide_eq_true hn, if_pos rfl]; omega
  · rw [decide_eq_false hn, if_neg (by decide)]; omega

theorem mk_split (a : Nat) (h : a < 18446744073709551616) (h1 : mag a < 9218868437227405312) (k : Nat) (hk1 : 1 ≤ k) (hk3 : k ≤ 3) (nan : Nat) :
    mk (sN a) (sM a).toNat (sE a) k nan = a := by
  have h1' : ¬ 9218868437227405312 ≤ mag a := by omega
  unfold mk sN sM sE
  rw [if_pos (by omega), if_neg h1', if_neg h1', if_neg h1']
  by_cases h0 : mag a = 0
  · rw [if_pos h0, if_pos h0, if_pos (show (0 : Int).toNat = 0 from rfl)]
    have := sig_self a h
    rw [h0] at this
    exact this
  · rw [if_neg h0, if_neg h0]
    have hm := mant_ne h0
    have hb := mant_bound a
    obtain ⟨m, hmm, hk⟩ := Lib.ctzFrom_spec 64 (mant a) (by omega) (show mant a < 2 ^ 64 by omega)
    have e : Lib.ctz 64 (mant a) = Lib.ctzFrom 64 (mant a) := by simp [Lib.ctz, hm]
    have hx : (2 * m + 1) * 2 ^ Lib.ctz 64 (mant a) = mant a := by rw [e, Nat.mul_comm]; exact hmm.symm
    obtain ⟨_, ex⟩ := odd_one (x := 2 * m + 1) (by omega) hx (show mant a < 2 ^ 64 by omega)
    rw [← ex, Int.toNat_natCast, if_neg (by omega), bod_split h0 h1 _ _ hx, Int.toNat_natCast, sig_self a h]
end Go.Proofs.YtmhpicccfaklcaaGreatDoor.Ie

/- A finite float and nought, added: the float; of noughts +0. -/
namespace Go.Fl64
set_option linter.unusedVariables false
set_option linter.unusedSimpArgs false

theorem cut_whole (s : Bool) (M q : Nat) (L : Nat) : Ieee.Toward.even.cut s (M * 2 ^ q) q = M ∨ ¬ q ≤ (M * 2 ^ q).log2 + 2 := by
  by_cases h : q ≤ (M * 2 ^ q).log2 + 2
  · refine .inl ?_
    have hp := Nat.two_pow_pos q
    unfold Ieee.Toward.cut
    simp only [Nat.min_eq_left h, Nat.one_shiftLeft]
    rw [Nat.mul_div_cancel _ hp, Nat.mul_mod_left]
    have e1 : ¬ 2 ^ q < 2 * 0 := by omega
    have e2 : (2 ^ q == 2 * 0) = false := by simp
    simp [e1, e2]
  · exact .inr h

theorem near_val (s : Bool) (r : Nat) (h0 : r ≠ 0) (h1 : r < 9218868437227405312) : Ieee.double.nearest s (val r) (-1074) = Ieee.double.word s r := by
  have hb : Ieee.double.binade = 4503599627370496 := by decide
  have hi : Ieee.double.infRung = 9218868437227405312 := by decide
  have hl : Ieee.double.leastPlace = -1074 := by decide
  have hf : Ieee.double.fractionBits = 52 := by decide
  have hv : val r ≠ 0 := fun e => h0 ((val_eq_zero r).1 e)
  unfold Ieee.Format.nearest
  rw [if_neg hv]
  simp only [hb, hi, hl, hf]
  by_cases h2 : r < 4503599627370496
  · have ev : val r = r := by unfold val; rw [if_pos h2]
    rw [ev]
    have hlog : r.log2 < 52 := (Nat.log2_lt h0).2 (by omega)
    have el : max (-1074 + (r.log2 : Int) - ((52 : Nat) : Int)) (-1074) = -1074 := by omega
    rw [el]
    have ec := cut_whole s r 0 0
    simp only [Nat.pow_zero, Nat.mul_one] at ec
    rw [show ((-1074 : Int) - -1074).toNat = 0 by decide, Nat.shiftLeft_zero, ec.resolve_right (by omega), Nat.zero_mul, Nat.zero_add, Nat.min_eq_left (by omega)]
  · have ev : val r = (4503599627370496 + r % 4503599627370496) * 2 ^ (r / 4503599627370496 - 1) := by unfold val; rw [if_neg h2]
    have hM1 : 2 ^ 52 ≤ 4503599627370496 + r % 4503599627370496 := by omega
    have hM2 : 4503599627370496 + r % 4503599627370496 < 2 ^ 53 := by omega
    have hr : (r / 4503599627370496 - 1) * 4503599627370496 + (4503599627370496 + r % 4503599627370496) = r := by omega
    rw [ev] at hv ⊢
    generalize 4503599627370496 + r % 4503599627370496 = M at *
    generalize r / 4503599627370496 - 1 = q at *
    have hp := Nat.two_pow_pos q
    have hlog : (M * 2 ^ q).log2 = 52 + q := by
      rw [Nat.log2_eq_iff hv]
      refine ⟨?_, ?_⟩
      · rw [Nat.pow_add]; exact Nat.mul_le_mul_right _ hM1
      · rw [show 52 + q + 1 = 53 + q by omega, Nat.pow_add]; exact Nat.mul_lt_mul_of_pos_right hM2 hp
    rw [hlog]
    have el : max (-1074 + ((52 + q : Nat) : Int) - ((52 : Nat) : Int)) (-1074) = -1074 + (q : Int) := by omega
    rw [el, show ((-1074 : Int) - (-1074 + (q : Int))).toNat = 0 by omega, show (-1074 + (q : Int) - -1074).toNat = q by omega, Nat.shiftLeft_zero]
    have ec := cut_whole s M q 0
    rw [hlog] at ec
    rw [ec.resolve_right (by omega), hr, Nat.min_eq_left (by omega)]

theorem word_self (a : Nat) (h : a < 18446744073709551616) : Ieee.double.word (neg a) (mag a) = a := by
  have hs : Ieee.double.signWeight = 9223372036854775808 := by decide
  unfold Ieee.Format.word neg mag
  rw [hs]
  by_cases hn : 9223372036854775808 ≤ a
  · rw [decide_eq_true hn, if_pos rfl]; omega
  · rw [decide_eq_false hn, if_neg (by decide)]; omega

theorem sgn_neg (s : Bool) (n : Nat) (h : n ≠ 0) : decide (sgn s n < 0) = s ∧ (sgn s n).natAbs = n ∧ sgn s n ≠ 0 := by
  unfold sgn
  cases s <;> simp <;> omega

theorem add_nought (a : Nat) (h : a < 18446744073709551616) (hf : mag a < 9218868437227405312) : FloatKind.f64.format.add a 0 = some (if mag a = 0 then 0 else a) := by
  rw [f64]
  obtain ⟨m, k, e1, e2⟩ := read_number a h hf
  have e0 : Ieee.double.read 0 = .number false 0 (-1074) := by decide
  unfold Ieee.Format.add
  rw [e1, e0]
  have eb : min (-1074 + (k : Int)) (-1074) = -1074 := by omega
  simp only [Ieee.Datum.sum, eb, signed_sgn, Option.map_some]
  rw [show (-1074 + (k : Int) - -1074).toNat = k by omega, e2, Nat.zero_mul, show sgn false 0 = 0 by decide, Int.add_zero]
  congr 1
  by_cases h0 : mag a = 0
  · rw [h0, if_pos rfl, val_zero]
    have : sgn (neg a) 0 = 0 := by unfold sgn; cases neg a <;> rfl
    rw [this]
    simp
    decide
  · rw [if_neg h0]
    have hv : val (mag a) ≠ 0 := fun e => h0 ((val_eq_zero _).1 e)
    obtain ⟨g1, g2, g3⟩ := sgn_neg (neg a) (val (mag a)) hv
    rw [if_neg g3, g1, g2]
    show Ieee.double.nearest (neg a) (val (mag a)) (-1074) = a
    rw [near_val (neg a) (mag a) h0 hf, word_self a h]

theorem run_add_nought {P : Program} (w : World) (t : TypeId) (a : Nat) (h : a < 18446744073709551616) (hf : mag a < 9218868437227405312) :
    (binOp .add t (.float .f64 a) (.float .f64 0)).run P w = .ok (.float .f64 (if mag a = 0 then 0 else a)) w :=
  run_float_arith w .add t .f64 a 0 _ (add_nought a h hf)
end Go.Fl64

/- DyadFloats: the law's walk. -/
namespace Go.Proofs.YtmhpicccfaklcaaGreatDoor
set_option linter.unusedVariables false
set_option linter.unusedSimpArgs false
open Go.RowKit Go.Fl64

end Go.Proofs.YtmhpicccfaklcaaGreatDoor
