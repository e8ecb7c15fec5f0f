/- Own work: contracts of the program's functions, part 11: L14 FM FM2 F1 F2 F6 F7 FM3 L6. -/
import Derived.Test.YtmhpicccfaklcaaGreatDoorA10
import Derived.Test.YtmhpicccfaklcaaGreatDoorA1
import Derived.Test.YtmhpicccfaklcaaGreatDoorA5
import Derived.Test.YtmhpicccfaklcaaGreatDoorA4
import Derived.Laws.FloatArith
import Derived.Test.YtmhpicccfaklcaaGreatDoorA8
import Derived.Test.YtmhpicccfaklcaaGreatDoorA7
import Derived.Test.YtmhpicccfaklcaaGreatDoorA9

/- DyadOrder: the law's walk. -/
namespace Go.Proofs.YtmhpicccfaklcaaGreatDoor
set_option linter.unusedVariables false
set_option linter.unusedSimpArgs false
open Go.RowKit

structure OrderK (w : World) (A0 A1 : Value) (NG0 NG1 : Bool) (LN0 Z0 LN1 Z1 : Nat) (E0 E01 : Int) (PX PY PP PQ : World → Value → Prop) (F G : Int → Nat) (eP eQ cP cQ c : Int) : Prop where
  lPX : Lasts PX
  lPY : Lasts PY
  lPP : Lasts PP
  lPQ : Lasts PQ
  v0 : ∀ W, Below w.heap.size w W → Calls Tryz.prog 11 #[A0] W fun r w' => r = .returned (.bool true) ∧ Below W.heap.size W w'
  v1 : ∀ W, Below w.heap.size w W → Calls Tryz.prog 11 #[A1] W fun r w' => r = .returned (.bool true) ∧ Below W.heap.size W w'
  kX : ∀ W X (m : Int), Below w.heap.size w W → PX W X → 1 ≤ m → m ≤ 3 → Calls Tryz.prog 28 #[X, .int .i64 m] W fun r w' => r = .returned (.tuple #[.float .f64 (F m), .int .i64 0]) ∧ Below W.heap.size W w'
  kY : ∀ W X (m : Int), Below w.heap.size w W → PY W X → 1 ≤ m → m ≤ 3 → Calls Tryz.prog 28 #[X, .int .i64 m] W fun r w' => r = .returned (.tuple #[.float .f64 (G m), .int .i64 0]) ∧ Below W.heap.size W w'
  kP : ∀ W, Below w.heap.size w W → Calls Tryz.prog 29 #[.float .f64 (F 1)] W fun r w' => Out W PP eP r w'
  kQ : ∀ W, Below w.heap.size w W → Calls Tryz.prog 29 #[.float .f64 (F 3)] W fun r w' => Out W PQ eQ r w'
  kCP : eP = 0 → ∀ W A X, Below w.heap.size w W → PP W A → PX W X → Calls Tryz.prog 23 #[A, X] W fun r w' => r = .returned (.int .i64 cP) ∧ Below W.heap.size W w'
  kCQ : eQ = 0 → ∀ W A X, Below w.heap.size w W → PQ W A → PX W X → Calls Tryz.prog 23 #[A, X] W fun r w' => r = .returned (.int .i64 cQ) ∧ Below W.heap.size W w'
  kC : ∀ W X Y, Below w.heap.size w W → PX W X → PY W Y → Calls Tryz.prog 23 #[X, Y] W fun r w' => r = .returned (.int .i64 c) ∧ Below W.heap.size W w'
  o12 : (FloatKind.f64.format.order (F 1) (F 2) == some Ordering.gt) = false
  o23 : (FloatKind.f64.format.order (F 2) (F 3) == some Ordering.gt) = false
  oP : eP = 0 → cP ≤ 0
  oQ : eQ = 0 → 0 ≤ cQ
  oE : (FloatKind.f64.format.order (F 1) (F 3) == some Ordering.eq) = true → eP = 0 → cP = 0
  oL : ∀ m : Int, 1 ≤ m → m ≤ 3 → c < 0 → (FloatKind.f64.format.order (F m) (G m) == some Ordering.gt) = false
  oG : ∀ m : Int, 1 ≤ m → m ≤ 3 → 0 < c → (FloatKind.f64.format.order (F m) (G m) == some Ordering.lt) = false
  gx : ∀ W v, Below w.heap.size w W → (∃ b, Dn W b v (LN0) (Z0)) → PX W (.agg #[.bool NG0, v, .int .i64 E0])
  gy : ∀ W v, Below w.heap.size w W → (∃ b, Dn W b v (LN1) (Z1)) → PY W (.agg #[.bool NG1, v, .int .i64 E01])
  works : ∀ W, Below w.heap.size w W → Calls Tryz.prog 27 #[] W fun r w' => r = .returned (.bool true) ∧ Below W.heap.size W w'

set_option maxHeartbeats 16000000 in
set_option maxRecDepth 200000 in
theorem law12_no1 (ng : Nat → Bool) (ao : Nat → Option Addr) (ln cp : Nat → Nat) (e : Nat → Int) (w : World) (v0 : ∀ W, Below w.heap.size w W → Calls Tryz.prog 11 #[(.agg #[.bool (ng 0), .slice (ao 0) (ln 0) (cp 0), .int .i64 (e 0)])] W fun r w' => r = .returned (.bool false) ∧ Below W.heap.size W w') (kW : ∀ W, Below w.heap.size w W → Calls Tryz.prog 27 #[] W fun r w' => r = .returned (.bool true) ∧ Below W.heap.size W w') :
    Calls Tryz.prog 4 #[.agg #[.bool (ng 0), .slice (ao 0) (ln 0) (cp 0), .int .i64 (e 0)], .agg #[.bool (ng 1), .slice (ao 1) (ln 1) (cp 1), .int .i64 (e 1)]] w fun r w' => r = .returned (.bool true) ∧ Below w.heap.size w w' := by
  obtain ⟨W, hW⟩ : ∃ W, W = (w.alloc (.cells #[.bool (ng 0), .slice (ao 0) (ln 0) (cp 0), .int .i64 (e 0)] 24)).alloc (.cells #[.bool (ng 1), .slice (ao 1) (ln 1) (cp 1), .int .i64 (e 1)] 24) := ⟨_, rfl⟩
  obtain ⟨hs0, hs1, hsz, hBW⟩ := two29 _ _ hW
  have HS : Hid (W.heap[w.heap.size]? = some (.cells #[.bool (ng 0), .slice (ao 0) (ln 0) (cp 0), .int .i64 (e 0)] 24 (0, 0)) ∧ W.heap[w.heap.size + 1]? = some (.cells #[.bool (ng 1), .slice (ao 1) (ln 1) (cp 1), .int .i64 (e 1)] 24 (0, 0)) ∧ Below w.heap.size w W) := ⟨hs0, hs1, hBW⟩
  clear hsz hBW hs0 hs1
  have k1 := v0 W HS.out.2.2
  go_enter Tryz.func4, Tryz.ntmps4
  go_wp2_with fail
  rw [← hW]
  clear hW
  refine k1.mono ?_
  rintro r W1 ⟨rfl, hb1⟩
  have HS1 : Hid (W1.heap[w.heap.size]? = some (.cells #[.bool (ng 0), .slice (ao 0) (ln 0) (cp 0), .int .i64 (e 0)] 24 (0, 0)) ∧ W1.heap[w.heap.size + 1]? = some (.cells #[.bool (ng 1), .slice (ao 1) (ln 1) (cp 1), .int .i64 (e 1)] 24 (0, 0)) ∧ Below w.heap.size w W1) := ⟨box_later HS.out.1 hb1 (Array.getElem?_eq_some_iff.1 HS.out.1).1, box_later HS.out.2.1 hb1 (Array.getElem?_eq_some_iff.1 HS.out.2.1).1, HS.out.2.2.trans (hb1.mono HS.out.2.2.size)⟩
  clear k1 hb1 HS
  have k3 := kW W1 HS1.out.2.2
  go_wp2_with fail
  refine k3.mono ?_
  rintro r W3 ⟨rfl, hb3⟩
  have HB : Hid (Below w.heap.size w W3) := HS1.out.2.2.trans (hb3.mono HS1.out.2.2.size)
  clear k3 hb3
  go_wp2_with fail
  go_ret
  exact ⟨rfl, HB.out⟩
set_option maxHeartbeats 16000000 in
set_option maxRecDepth 200000 in
theorem law12_no2 (ng : Nat → Bool) (ao : Nat → Option Addr) (ln cp : Nat → Nat) (e : Nat → Int) (w : World) (v0 : ∀ W, Below w.heap.size w W → Calls Tryz.prog 11 #[(.agg #[.bool (ng 0), .slice (ao 0) (ln 0) (cp 0), .int .i64 (e 0)])] W fun r w' => r = .returned (.bool true) ∧ Below W.heap.size W w') (v1 : ∀ W, Below w.heap.size w W → Calls Tryz.prog 11 #[(.agg #[.bool (ng 1), .slice (ao 1) (ln 1) (cp 1), .int .i64 (e 1)])] W fun r w' => r = .returned (.bool false) ∧ Below W.heap.size W w') (kW : ∀ W, Below w.heap.size w W → Calls Tryz.prog 27 #[] W fun r w' => r = .returned (.bool true) ∧ Below W.heap.size W w') :
    Calls Tryz.prog 4 #[.agg #[.bool (ng 0), .slice (ao 0) (ln 0) (cp 0), .int .i64 (e 0)], .agg #[.bool (ng 1), .slice (ao 1) (ln 1) (cp 1), .int .i64 (e 1)]] w fun r w' => r = .returned (.bool true) ∧ Below w.heap.size w w' := by
  obtain ⟨W, hW⟩ : ∃ W, W = (w.alloc (.cells #[.bool (ng 0), .slice (ao 0) (ln 0) (cp 0), .int .i64 (e 0)] 24)).alloc (.cells #[.bool (ng 1), .slice (ao 1) (ln 1) (cp 1), .int .i64 (e 1)] 24) := ⟨_, rfl⟩
  obtain ⟨hs0, hs1, hsz, hBW⟩ := two29 _ _ hW
  have HS : Hid (W.heap[w.heap.size]? = some (.cells #[.bool (ng 0), .slice (ao 0) (ln 0) (cp 0), .int .i64 (e 0)] 24 (0, 0)) ∧ W.heap[w.heap.size + 1]? = some (.cells #[.bool (ng 1), .slice (ao 1) (ln 1) (cp 1), .int .i64 (e 1)] 24 (0, 0)) ∧ Below w.heap.size w W) := ⟨hs0, hs1, hBW⟩
  clear hsz hBW hs0 hs1
  have k1 := v0 W HS.out.2.2
  go_enter Tryz.func4, Tryz.ntmps4
  go_wp2_with fail
  rw [← hW]
  clear hW
  refine k1.mono ?_
  rintro r W1 ⟨rfl, hb1⟩
  have HS1 : Hid (W1.heap[w.heap.size]? = some (.cells #[.bool (ng 0), .slice (ao 0) (ln 0) (cp 0), .int .i64 (e 0)] 24 (0, 0)) ∧ W1.heap[w.heap.size + 1]? = some (.cells #[.bool (ng 1), .slice (ao 1) (ln 1) (cp 1), .int .i64 (e 1)] 24 (0, 0)) ∧ Below w.heap.size w W1) := ⟨box_later HS.out.1 hb1 (Array.getElem?_eq_some_iff.1 HS.out.1).1, box_later HS.out.2.1 hb1 (Array.getElem?_eq_some_iff.1 HS.out.2.1).1, HS.out.2.2.trans (hb1.mono HS.out.2.2.size)⟩
  clear k1 hb1 HS
  obtain ⟨⟨q0, q1, q2⟩, -⟩ := box_cells29 HS1.out.2.1
  have k2 := v1 W1 HS1.out.2.2
  go_wp2_with fail
  refine k2.mono ?_
  rintro r W2 ⟨rfl, hb2⟩
  have hBW2 : Below w.heap.size w W2 := HS1.out.2.2.trans (hb2.mono HS1.out.2.2.size)
  have hs0 := box_later HS1.out.1 hb2 (Array.getElem?_eq_some_iff.1 HS1.out.1).1
  have hs1 := box_later HS1.out.2.1 hb2 (Array.getElem?_eq_some_iff.1 HS1.out.2.1).1
  clear k2 hb2 q0 q1 q2 HS1
  have HB2 : Hid (Below w.heap.size w W2) := hBW2
  have k3 := kW W2 hBW2
  clear hBW2 hs0 hs1
  go_wp2_with fail
  refine k3.mono ?_
  rintro r W3 ⟨rfl, hb3⟩
  have HB : Hid (Below w.heap.size w W3) := HB2.out.trans (hb3.mono HB2.out.size)
  clear k3 hb3
  go_wp2_with fail
  go_ret
  exact ⟨rfl, HB.out⟩
set_option maxHeartbeats 16000000 in
set_option maxRecDepth 200000 in
theorem law12_1 (ng : Nat → Bool) (ao : Nat → Option Addr) (ln cp z : Nat → Nat) (e : Nat → Int) (w : World) (hA : ∀ i, i < 2 → Arg w (ao i) (ln i) (cp i) (z i))
    {PX PY PP PQ : World → Value → Prop} {F G : Int → Nat} {eP eQ cP cQ c : Int} (K : OrderK w (.agg #[.bool (ng 0), .slice (ao 0) (ln 0) (cp 0), .int .i64 (e 0)]) (.agg #[.bool (ng 1), .slice (ao 1) (ln 1) (cp 1), .int .i64 (e 1)]) (ng 0) (ng 1) (ln 0) (z 0) (ln 1) (z 1) (e 0) (e 1) PX PY PP PQ F G eP eQ cP cQ c) :
    Calls Tryz.prog 4 #[.agg #[.bool (ng 0), .slice (ao 0) (ln 0) (cp 0), .int .i64 (e 0)], .agg #[.bool (ng 1), .slice (ao 1) (ln 1) (cp 1), .int .i64 (e 1)]] w fun r w' => r = .returned (.bool true) ∧ Below w.heap.size w w' := by
  obtain ⟨W, hW⟩ : ∃ W, W = (w.alloc (.cells #[.bool (ng 0), .slice (ao 0) (ln 0) (cp 0), .int .i64 (e 0)] 24)).alloc (.cells #[.bool (ng 1), .slice (ao 1) (ln 1) (cp 1), .int .i64 (e 1)] 24) := ⟨_, rfl⟩
  obtain ⟨hs0, hs1, hsz, hBW⟩ := two29 _ _ hW
  have HS : Hid (W.heap[w.heap.size]? = some (.cells #[.bool (ng 0), .slice (ao 0) (ln 0) (cp 0), .int .i64 (e 0)] 24 (0, 0)) ∧ W.heap[w.heap.size + 1]? = some (.cells #[.bool (ng 1), .slice (ao 1) (ln 1) (cp 1), .int .i64 (e 1)] 24 (0, 0)) ∧ Below w.heap.size w W) := ⟨hs0, hs1, hBW⟩
  clear hsz hBW hs0 hs1
  have k1 := K.v0 W HS.out.2.2
  go_enter Tryz.func4, Tryz.ntmps4
  go_wp2_with fail
  rw [← hW]
  clear hW
  refine k1.mono ?_
  rintro r W1 ⟨rfl, hb1⟩
  have HS1 : Hid (W1.heap[w.heap.size]? = some (.cells #[.bool (ng 0), .slice (ao 0) (ln 0) (cp 0), .int .i64 (e 0)] 24 (0, 0)) ∧ W1.heap[w.heap.size + 1]? = some (.cells #[.bool (ng 1), .slice (ao 1) (ln 1) (cp 1), .int .i64 (e 1)] 24 (0, 0)) ∧ Below w.heap.size w W1) := ⟨box_later HS.out.1 hb1 (Array.getElem?_eq_some_iff.1 HS.out.1).1, box_later HS.out.2.1 hb1 (Array.getElem?_eq_some_iff.1 HS.out.2.1).1, HS.out.2.2.trans (hb1.mono HS.out.2.2.size)⟩
  clear k1 hb1 HS
  obtain ⟨⟨q0, q1, q2⟩, -⟩ := box_cells29 HS1.out.2.1
  have k2 := K.v1 W1 HS1.out.2.2
  go_wp2_with fail
  refine k2.mono ?_
  rintro r W2 ⟨rfl, hb2⟩
  have hBW2 : Below w.heap.size w W2 := HS1.out.2.2.trans (hb2.mono HS1.out.2.2.size)
  have hs0 := box_later HS1.out.1 hb2 (Array.getElem?_eq_some_iff.1 HS1.out.1).1
  have hs1 := box_later HS1.out.2.1 hb2 (Array.getElem?_eq_some_iff.1 HS1.out.2.1).1
  clear k2 hb2 q0 q1 q2 HS1
  have HBW : Hid (Below w.heap.size w W2) := hBW2
  have HA3 : ∀ i, i < 2 → Arg W2 (ao i) (ln i) (cp i) (z i) := fun i hi => (hA i hi).later hBW2
  clear hBW2 hA
  go_upto_region 3 with fail
  go_cut [5, 6] from 32 to 35 (fun p q wx => ∃ (g : Nat → Nat) (v : Nat → Value), p = .pointer (some ⟨g 0, 0, none⟩) ∧ q = .pointer (some ⟨g 1, 0, none⟩) ∧ Hid (Given W2 wx 2 ng ln z e g v))
  case first =>
    refine give_region 2 (fun k => 2 + k) (fun k => 32 + 2 * k) (fun k => 33 + 2 * k) (fun k => 5 + k) (fun k => w.heap.size + k) ng ao ln cp z e W2 _ rfl (ord_of (by kernel_rfl)) ?_ ?_ ?_ ?_ ?_ ?_ ?_ ?_ ?_ ?_ ?_ ?_
    · intro k hk
      rcases lt2 hk with rfl | rfl
      · exact ⟨rfl, hs0, HA3 0 hk⟩
      · exact ⟨rfl, hs1, HA3 1 hk⟩
    · intro k hk
      rcases lt2 hk with rfl | rfl <;> decide
    · intro k hk
      rcases lt2 hk with rfl | rfl <;> exact ⟨_, rfl, rfl, rfl, rfl⟩
    · intro k hk
      rcases lt2 hk with rfl | rfl <;> exact ⟨_, rfl, rfl, ⟨_, rfl⟩, rfl, ⟨_, .data⟩, by simp, rfl, rfl⟩
    · intro k hk
      rcases lt2 hk with rfl | rfl <;> exact ⟨_, rfl, rfl, rfl, rfl⟩
    · intro k hk
      rcases lt2 hk with rfl | rfl <;> exact ⟨_, rfl, rfl, rfl, rfl, ⟨⟨_, .data⟩, by simp, rfl, rfl⟩, ⟨_, .data⟩, by simp, rfl, rfl⟩
    · show ∀ j, j < 2 * 2 → gslot (fun k => 32 + 2 * k) (fun k => 33 + 2 * k) j < 138
      decide
    · show ∀ k, k < 2 → 5 + k < 138
      decide
    · decide
    · decide
    · decide
    · intro u v g wx hb hk
      simp only [putL, gslot, show List.range (2 * 2) = [0, 1, 2, 3] from rfl, show List.range 2 = [0, 1] from rfl, List.map_cons, List.map_nil, List.cons_append, List.nil_append, List.foldl_cons, List.foldl_nil, Nat.reduceMod, Nat.reduceDiv, Nat.reduceMul, Nat.reduceAdd, reduceIte, Nat.one_ne_zero, Act.put, List.setIfInBounds_toArray, List.set_cons_zero, List.set_cons_succ]
      go_wp2_with fail
      go_meet
      exact ⟨g, v, rfl, rfl, hb, hk⟩
  case rest =>
    obtain ⟨w8, hw8⟩ : ∃ w8 : World, w8 = wc := ⟨_, rfl⟩
    subst hw8
    obtain ⟨g, v, rfl, rfl, HG⟩ := hcut
    have hB8 : Below w.heap.size w w8 := HBW.out.trans (HG.out.1.mono HBW.out.size)
    have b0 : ∃ ak ck, BB 25 PX w8 (g 0) (ng 0) ak (ln 0) ck (e 0) := by
      obtain ⟨h1, h2, h3⟩ := HG.out.2 0 (by omega)
      have hp := K.gx w8 _ hB8 ⟨_, h1⟩
      obtain ⟨ak, ck, hv, -, -⟩ := h1.at
      rw [hv] at hp h3
      exact ⟨ak, ck, h3, hp⟩
    have b1 : ∃ ak ck, BB 25 PY w8 (g 1) (ng 1) ak (ln 1) ck (e 1) := by
      obtain ⟨h1, h2, h3⟩ := HG.out.2 1 (by omega)
      have hp := K.gy w8 _ hB8 ⟨_, h1⟩
      obtain ⟨ak, ck, hv, -, -⟩ := h1.at
      rw [hv] at hp h3
      exact ⟨ak, ck, h3, hp⟩
    obtain ⟨xa, xc, X0⟩ := b0
    obtain ⟨ya, yc, X1⟩ := b1
    replace X0 : Hid (BB 25 PX w8 (g 0) (ng 0) xa (ln 0) xc (e 0)) := X0
    replace X1 : Hid (BB 25 PY w8 (g 1) (ng 1) ya (ln 1) yc (e 1)) := X1
    have X2 : Hid (BB 24 Any w8 (w.heap.size) (ng 0) (ao 0) (ln 0) (cp 0) (e 0)) := ⟨box_later hs0 HG.out.1 (Array.getElem?_eq_some_iff.1 hs0).1, trivial⟩
    have X3 : Hid (BB 24 Any w8 (w.heap.size + 1) (ng 1) (ao 1) (ln 1) (cp 1) (e 1)) := ⟨box_later hs1 HG.out.1 (Array.getElem?_eq_some_iff.1 hs1).1, trivial⟩
    have HB8 : Hid (Below w.heap.size w w8) := hB8
    clear HG hs0 hs1 HA3 hB8 X2 X3
    have o12 := K.o12
    have o23 := K.o23
    have HBw8 : Hid (Below w.heap.size w w8) := HB8.out
    clear HB8
    obtain ⟨⟨p0, p1, p2⟩, -⟩ := box_cells X0.out.1
    have kc := K.kX w8 _ 1 HBw8.out X0.out.2 (by omega) (by omega)
    go_wp2_with fail
    refine kc.mono ?_
    rintro r w9 ⟨rfl, hb'⟩
    replace X0 : Hid (BB 25 PX w9 (g 0) (ng 0) xa (ln 0) xc (e 0)) := X0.out.later K.lPX hb'
    replace X1 : Hid (BB 25 PY w9 (g 1) (ng 1) ya (ln 1) yc (e 1)) := X1.out.later K.lPY hb'
    have HBw9 : Hid (Below w.heap.size w w9) := HBw8.out.trans (hb'.mono HBw8.out.size)
    clear kc hb' p0 p1 p2
    obtain ⟨⟨p0, p1, p2⟩, -⟩ := box_cells X0.out.1
    have kc := K.kX w9 _ 2 HBw9.out X0.out.2 (by omega) (by omega)
    go_wp2_with fail
    refine kc.mono ?_
    rintro r w10 ⟨rfl, hb'⟩
    replace X0 : Hid (BB 25 PX w10 (g 0) (ng 0) xa (ln 0) xc (e 0)) := X0.out.later K.lPX hb'
    replace X1 : Hid (BB 25 PY w10 (g 1) (ng 1) ya (ln 1) yc (e 1)) := X1.out.later K.lPY hb'
    have HBw10 : Hid (Below w.heap.size w w10) := HBw9.out.trans (hb'.mono HBw9.out.size)
    clear kc hb' p0 p1 p2
    obtain ⟨⟨p0, p1, p2⟩, -⟩ := box_cells X0.out.1
    have kc := K.kX w10 _ 3 HBw10.out X0.out.2 (by omega) (by omega)
    go_wp2_with fail
    refine kc.mono ?_
    rintro r w11 ⟨rfl, hb'⟩
    replace X0 : Hid (BB 25 PX w11 (g 0) (ng 0) xa (ln 0) xc (e 0)) := X0.out.later K.lPX hb'
    replace X1 : Hid (BB 25 PY w11 (g 1) (ng 1) ya (ln 1) yc (e 1)) := X1.out.later K.lPY hb'
    have HBw11 : Hid (Below w.heap.size w w11) := HBw10.out.trans (hb'.mono HBw10.out.size)
    clear kc hb' p0 p1 p2
    have kc := K.kP w11 HBw11.out
    go_wp2_with fail
    refine kc.mono ?_
    rintro r vP ⟨sP, aP, nP, cpP, exP, rfl, hp, hb⟩
    obtain ⟨w12, hW9⟩ : ∃ w9, w9 = vP.alloc (.cells #[.bool sP, .slice aP nP cpP, .int .i64 exP] 25) := ⟨_, rfl⟩
    have hb' : Below w11.heap.size w11 w12 := by rw [hW9]; exact hb.alloc hb.size _
    have X4 : Hid (BB 25 PP w12 (vP.heap.size) (sP) aP (nP) cpP (exP)) := (by rw [hW9]; exact BB.new K.lPP hp : BB 25 PP w12 (vP.heap.size) (sP) aP (nP) cpP (exP))
    replace X0 : Hid (BB 25 PX w12 (g 0) (ng 0) xa (ln 0) xc (e 0)) := X0.out.later K.lPX hb'
    replace X1 : Hid (BB 25 PY w12 (g 1) (ng 1) ya (ln 1) yc (e 1)) := X1.out.later K.lPY hb'
    have HBw12 : Hid (Below w.heap.size w w12) := HBw11.out.trans (hb'.mono HBw11.out.size)
    clear kc hp hb hb'
    have kc := K.kQ w12 HBw12.out
    go_wp2_with fail
    rw [← hW9]
    clear hW9
    refine kc.mono ?_
    rintro r vQ ⟨sQ, aQ, nQ, cpQ, exQ, rfl, hp, hb⟩
    obtain ⟨w13, hWQ⟩ : ∃ w9, w9 = vQ.alloc (.cells #[.bool sQ, .slice aQ nQ cpQ, .int .i64 exQ] 25) := ⟨_, rfl⟩
    have hb' : Below w12.heap.size w12 w13 := by rw [hWQ]; exact hb.alloc hb.size _
    have X5 : Hid (BB 25 PQ w13 (vQ.heap.size) (sQ) aQ (nQ) cpQ (exQ)) := (by rw [hWQ]; exact BB.new K.lPQ hp : BB 25 PQ w13 (vQ.heap.size) (sQ) aQ (nQ) cpQ (exQ))
    replace X0 : Hid (BB 25 PX w13 (g 0) (ng 0) xa (ln 0) xc (e 0)) := X0.out.later K.lPX hb'
    replace X1 : Hid (BB 25 PY w13 (g 1) (ng 1) ya (ln 1) yc (e 1)) := X1.out.later K.lPY hb'
    replace X4 : Hid (BB 25 PP w13 (vP.heap.size) (sP) aP (nP) cpP (exP)) := X4.out.later K.lPP hb'
    have HBw13 : Hid (Below w.heap.size w w13) := HBw12.out.trans (hb'.mono HBw12.out.size)
    clear kc hp hb hb'
    have oP := K.oP
    have oQ := K.oQ
    have oE := K.oE
    have HOO : Hid ((eP = 0 → cP ≤ 0) ∧ (eQ = 0 → 0 ≤ cQ) ∧ ((FloatKind.f64.format.order (F 1) (F 3) == some Ordering.eq) = true → eP = 0 → cP = 0)) := ⟨oP, oQ, oE⟩
    clear o12 o23 oP oQ oE
    go_upto_region 11 with fail
    rw [← hWQ]
    clear hWQ
    go_cut [101] from 69 to 100 (fun v w' => v = .bool false ∧ Hid (Below w13.heap.size w13 w'))
    case first =>
      clear X1
      have HCw13 : Hid (Below w13.heap.size w13 w13) := Below.refl _ _
      generalize hb13 : (FloatKind.f64.format.order (F 1) (F 3) == some Ordering.eq) = b13 at *
      have HB13 : Hid (((FloatKind.f64.format.order (F 1) (F 3) == some Ordering.eq)) = b13) := hb13
      by_cases hP0 : eP = 0
      · by_cases hQ0 : eQ = 0
        · cases b13
          · subst hP0
            subst hQ0
            have f3 : ¬ 0 < cP := by have := HOO.out.1 rfl; omega
            have f4 : ¬ cQ < 0 := by have := HOO.out.2.1 rfl; omega
            clear HOO
            obtain ⟨⟨p0, p1, p2⟩, -⟩ := box_cells X4.out.1
            obtain ⟨⟨q0, q1, q2⟩, -⟩ := box_cells X0.out.1
            have kc := K.kCP rfl w13 _ _ HBw13.out X4.out.2 X0.out.2
            go_wp2_with fail
            refine kc.mono ?_
            rintro r w14 ⟨rfl, hb'⟩
            replace X0 : Hid (BB 25 PX w14 (g 0) (ng 0) xa (ln 0) xc (e 0)) := X0.out.later K.lPX hb'
            replace X4 : Hid (BB 25 PP w14 (vP.heap.size) (sP) aP (nP) cpP (exP)) := X4.out.later K.lPP hb'
            replace X5 : Hid (BB 25 PQ w14 (vQ.heap.size) (sQ) aQ (nQ) cpQ (exQ)) := X5.out.later K.lPQ hb'
            have HBw14 : Hid (Below w.heap.size w w14) := HBw13.out.trans (hb'.mono HBw13.out.size)
            have HCw14 : Hid (Below w13.heap.size w13 w14) := HCw13.out.trans (hb'.mono HCw13.out.size)
            clear kc hb' p0 p1 p2 q0 q1 q2
            obtain ⟨⟨p0, p1, p2⟩, -⟩ := box_cells X5.out.1
            obtain ⟨⟨q0, q1, q2⟩, -⟩ := box_cells X0.out.1
            have kc := K.kCQ rfl w14 _ _ HBw14.out X5.out.2 X0.out.2
            go_wp2_with fail
            refine kc.mono ?_
            rintro r w15 ⟨rfl, hb'⟩
            replace X0 : Hid (BB 25 PX w15 (g 0) (ng 0) xa (ln 0) xc (e 0)) := X0.out.later K.lPX hb'
            replace X4 : Hid (BB 25 PP w15 (vP.heap.size) (sP) aP (nP) cpP (exP)) := X4.out.later K.lPP hb'
            replace X5 : Hid (BB 25 PQ w15 (vQ.heap.size) (sQ) aQ (nQ) cpQ (exQ)) := X5.out.later K.lPQ hb'
            have HBw15 : Hid (Below w.heap.size w w15) := HBw14.out.trans (hb'.mono HBw14.out.size)
            have HCw15 : Hid (Below w13.heap.size w13 w15) := HCw14.out.trans (hb'.mono HCw14.out.size)
            clear kc hb' p0 p1 p2 q0 q1 q2
            go_wp2_with fail
            go_meet
            exact ⟨by first | rfl | (simp; omega) | simp, HCw15.out⟩
          · subst hP0
            subst hQ0
            have f3 : ¬ 0 < cP := by have := HOO.out.1 rfl; omega
            have f4 : ¬ cQ < 0 := by have := HOO.out.2.1 rfl; omega
            obtain rfl : cP = 0 := HOO.out.2.2 rfl rfl
            clear HOO
            obtain ⟨⟨p0, p1, p2⟩, -⟩ := box_cells X4.out.1
            obtain ⟨⟨q0, q1, q2⟩, -⟩ := box_cells X0.out.1
            have kc := K.kCP rfl w13 _ _ HBw13.out X4.out.2 X0.out.2
            go_wp2_with fail
            refine kc.mono ?_
            rintro r w14 ⟨rfl, hb'⟩
            replace X0 : Hid (BB 25 PX w14 (g 0) (ng 0) xa (ln 0) xc (e 0)) := X0.out.later K.lPX hb'
            replace X4 : Hid (BB 25 PP w14 (vP.heap.size) (sP) aP (nP) cpP (exP)) := X4.out.later K.lPP hb'
            replace X5 : Hid (BB 25 PQ w14 (vQ.heap.size) (sQ) aQ (nQ) cpQ (exQ)) := X5.out.later K.lPQ hb'
            have HBw14 : Hid (Below w.heap.size w w14) := HBw13.out.trans (hb'.mono HBw13.out.size)
            have HCw14 : Hid (Below w13.heap.size w13 w14) := HCw13.out.trans (hb'.mono HCw13.out.size)
            clear kc hb' p0 p1 p2 q0 q1 q2
            obtain ⟨⟨p0, p1, p2⟩, -⟩ := box_cells X5.out.1
            obtain ⟨⟨q0, q1, q2⟩, -⟩ := box_cells X0.out.1
            have kc := K.kCQ rfl w14 _ _ HBw14.out X5.out.2 X0.out.2
            go_wp2_with fail
            refine kc.mono ?_
            rintro r w15 ⟨rfl, hb'⟩
            replace X0 : Hid (BB 25 PX w15 (g 0) (ng 0) xa (ln 0) xc (e 0)) := X0.out.later K.lPX hb'
            replace X4 : Hid (BB 25 PP w15 (vP.heap.size) (sP) aP (nP) cpP (exP)) := X4.out.later K.lPP hb'
            replace X5 : Hid (BB 25 PQ w15 (vQ.heap.size) (sQ) aQ (nQ) cpQ (exQ)) := X5.out.later K.lPQ hb'
            have HBw15 : Hid (Below w.heap.size w w15) := HBw14.out.trans (hb'.mono HBw14.out.size)
            have HCw15 : Hid (Below w13.heap.size w13 w15) := HCw14.out.trans (hb'.mono HCw14.out.size)
            clear kc hb' p0 p1 p2 q0 q1 q2
            obtain ⟨⟨p0, p1, p2⟩, -⟩ := box_cells X4.out.1
            obtain ⟨⟨q0, q1, q2⟩, -⟩ := box_cells X0.out.1
            have kc := K.kCP rfl w15 _ _ HBw15.out X4.out.2 X0.out.2
            go_wp2_with fail
            refine kc.mono ?_
            rintro r w16 ⟨rfl, hb'⟩
            replace X0 : Hid (BB 25 PX w16 (g 0) (ng 0) xa (ln 0) xc (e 0)) := X0.out.later K.lPX hb'
            replace X4 : Hid (BB 25 PP w16 (vP.heap.size) (sP) aP (nP) cpP (exP)) := X4.out.later K.lPP hb'
            replace X5 : Hid (BB 25 PQ w16 (vQ.heap.size) (sQ) aQ (nQ) cpQ (exQ)) := X5.out.later K.lPQ hb'
            have HBw16 : Hid (Below w.heap.size w w16) := HBw15.out.trans (hb'.mono HBw15.out.size)
            have HCw16 : Hid (Below w13.heap.size w13 w16) := HCw15.out.trans (hb'.mono HCw15.out.size)
            clear kc hb' p0 p1 p2 q0 q1 q2
            go_wp2_with fail
            go_meet
            exact ⟨by first | rfl | (simp; omega) | simp, HCw16.out⟩
        · cases b13
          · subst hP0
            have f2 : (eQ == 0) = false := by simp [hQ0]
            have f3 : ¬ 0 < cP := by have := HOO.out.1 rfl; omega
            clear HOO
            obtain ⟨⟨p0, p1, p2⟩, -⟩ := box_cells X4.out.1
            obtain ⟨⟨q0, q1, q2⟩, -⟩ := box_cells X0.out.1
            have kc := K.kCP rfl w13 _ _ HBw13.out X4.out.2 X0.out.2
            go_wp2_with fail
            refine kc.mono ?_
            rintro r w14 ⟨rfl, hb'⟩
            replace X0 : Hid (BB 25 PX w14 (g 0) (ng 0) xa (ln 0) xc (e 0)) := X0.out.later K.lPX hb'
            replace X4 : Hid (BB 25 PP w14 (vP.heap.size) (sP) aP (nP) cpP (exP)) := X4.out.later K.lPP hb'
            replace X5 : Hid (BB 25 PQ w14 (vQ.heap.size) (sQ) aQ (nQ) cpQ (exQ)) := X5.out.later K.lPQ hb'
            have HBw14 : Hid (Below w.heap.size w w14) := HBw13.out.trans (hb'.mono HBw13.out.size)
            have HCw14 : Hid (Below w13.heap.size w13 w14) := HCw13.out.trans (hb'.mono HCw13.out.size)
            clear kc hb' p0 p1 p2 q0 q1 q2
            go_wp2_with fail
            go_meet
            exact ⟨by first | rfl | (simp; omega) | simp, HCw14.out⟩
          · subst hP0
            have f2 : (eQ == 0) = false := by simp [hQ0]
            have f3 : ¬ 0 < cP := by have := HOO.out.1 rfl; omega
            obtain rfl : cP = 0 := HOO.out.2.2 rfl rfl
            clear HOO
            obtain ⟨⟨p0, p1, p2⟩, -⟩ := box_cells X4.out.1
            obtain ⟨⟨q0, q1, q2⟩, -⟩ := box_cells X0.out.1
            have kc := K.kCP rfl w13 _ _ HBw13.out X4.out.2 X0.out.2
            go_wp2_with fail
            refine kc.mono ?_
            rintro r w14 ⟨rfl, hb'⟩
            replace X0 : Hid (BB 25 PX w14 (g 0) (ng 0) xa (ln 0) xc (e 0)) := X0.out.later K.lPX hb'
            replace X4 : Hid (BB 25 PP w14 (vP.heap.size) (sP) aP (nP) cpP (exP)) := X4.out.later K.lPP hb'
            replace X5 : Hid (BB 25 PQ w14 (vQ.heap.size) (sQ) aQ (nQ) cpQ (exQ)) := X5.out.later K.lPQ hb'
            have HBw14 : Hid (Below w.heap.size w w14) := HBw13.out.trans (hb'.mono HBw13.out.size)
            have HCw14 : Hid (Below w13.heap.size w13 w14) := HCw13.out.trans (hb'.mono HCw13.out.size)
            clear kc hb' p0 p1 p2 q0 q1 q2
            obtain ⟨⟨p0, p1, p2⟩, -⟩ := box_cells X4.out.1
            obtain ⟨⟨q0, q1, q2⟩, -⟩ := box_cells X0.out.1
            have kc := K.kCP rfl w14 _ _ HBw14.out X4.out.2 X0.out.2
            go_wp2_with fail
            refine kc.mono ?_
            rintro r w16 ⟨rfl, hb'⟩
            replace X0 : Hid (BB 25 PX w16 (g 0) (ng 0) xa (ln 0) xc (e 0)) := X0.out.later K.lPX hb'
            replace X4 : Hid (BB 25 PP w16 (vP.heap.size) (sP) aP (nP) cpP (exP)) := X4.out.later K.lPP hb'
            replace X5 : Hid (BB 25 PQ w16 (vQ.heap.size) (sQ) aQ (nQ) cpQ (exQ)) := X5.out.later K.lPQ hb'
            have HBw16 : Hid (Below w.heap.size w w16) := HBw14.out.trans (hb'.mono HBw14.out.size)
            have HCw16 : Hid (Below w13.heap.size w13 w16) := HCw14.out.trans (hb'.mono HCw14.out.size)
            clear kc hb' p0 p1 p2 q0 q1 q2
            go_wp2_with fail
            go_meet
            exact ⟨by first | rfl | (simp; omega) | simp, HCw16.out⟩
      · by_cases hQ0 : eQ = 0
        · cases b13
          · have f1 : (eP == 0) = false := by simp [hP0]
            subst hQ0
            have f4 : ¬ cQ < 0 := by have := HOO.out.2.1 rfl; omega
            clear HOO
            obtain ⟨⟨p0, p1, p2⟩, -⟩ := box_cells X5.out.1
            obtain ⟨⟨q0, q1, q2⟩, -⟩ := box_cells X0.out.1
            have kc := K.kCQ rfl w13 _ _ HBw13.out X5.out.2 X0.out.2
            go_wp2_with fail
            refine kc.mono ?_
            rintro r w15 ⟨rfl, hb'⟩
            replace X0 : Hid (BB 25 PX w15 (g 0) (ng 0) xa (ln 0) xc (e 0)) := X0.out.later K.lPX hb'
            replace X4 : Hid (BB 25 PP w15 (vP.heap.size) (sP) aP (nP) cpP (exP)) := X4.out.later K.lPP hb'
            replace X5 : Hid (BB 25 PQ w15 (vQ.heap.size) (sQ) aQ (nQ) cpQ (exQ)) := X5.out.later K.lPQ hb'
            have HBw15 : Hid (Below w.heap.size w w15) := HBw13.out.trans (hb'.mono HBw13.out.size)
            have HCw15 : Hid (Below w13.heap.size w13 w15) := HCw13.out.trans (hb'.mono HCw13.out.size)
            clear kc hb' p0 p1 p2 q0 q1 q2
            go_wp2_with fail
            go_meet
            exact ⟨by first | rfl | (simp; omega) | simp, HCw15.out⟩
          · have f1 : (eP == 0) = false := by simp [hP0]
            subst hQ0
            have f4 : ¬ cQ < 0 := by have := HOO.out.2.1 rfl; omega
            clear HOO
            obtain ⟨⟨p0, p1, p2⟩, -⟩ := box_cells X5.out.1
            obtain ⟨⟨q0, q1, q2⟩, -⟩ := box_cells X0.out.1
            have kc := K.kCQ rfl w13 _ _ HBw13.out X5.out.2 X0.out.2
            go_wp2_with fail
            refine kc.mono ?_
            rintro r w15 ⟨rfl, hb'⟩
            replace X0 : Hid (BB 25 PX w15 (g 0) (ng 0) xa (ln 0) xc (e 0)) := X0.out.later K.lPX hb'
            replace X4 : Hid (BB 25 PP w15 (vP.heap.size) (sP) aP (nP) cpP (exP)) := X4.out.later K.lPP hb'
            replace X5 : Hid (BB 25 PQ w15 (vQ.heap.size) (sQ) aQ (nQ) cpQ (exQ)) := X5.out.later K.lPQ hb'
            have HBw15 : Hid (Below w.heap.size w w15) := HBw13.out.trans (hb'.mono HBw13.out.size)
            have HCw15 : Hid (Below w13.heap.size w13 w15) := HCw13.out.trans (hb'.mono HCw13.out.size)
            clear kc hb' p0 p1 p2 q0 q1 q2
            go_wp2_with fail
            go_meet
            exact ⟨by first | rfl | (simp; omega) | simp, HCw15.out⟩
        · cases b13
          · have f1 : (eP == 0) = false := by simp [hP0]
            have f2 : (eQ == 0) = false := by simp [hQ0]
            clear HOO
            go_wp2_with fail
            go_meet
            exact ⟨by first | rfl | (simp; omega) | simp, HCw13.out⟩
          · have f1 : (eP == 0) = false := by simp [hP0]
            have f2 : (eQ == 0) = false := by simp [hQ0]
            clear HOO
            go_wp2_with fail
            go_meet
            exact ⟨by first | rfl | (simp; omega) | simp, HCw13.out⟩
    case rest =>
      obtain ⟨rfl, hc⟩ := hcut
      obtain ⟨W5, rfl⟩ : ∃ W2 : World, W2 = wc := ⟨_, rfl⟩
      replace X0 : Hid (BB 25 PX W5 (g 0) (ng 0) xa (ln 0) xc (e 0)) := X0.out.later K.lPX hc.out
      replace X1 : Hid (BB 25 PY W5 (g 1) (ng 1) ya (ln 1) yc (e 1)) := X1.out.later K.lPY hc.out
      have HBW5 : Hid (Below w.heap.size w W5) := HBw13.out.trans (hc.out.mono HBw13.out.size)
      clear X4 X5 hc HOO HBw13 HBw12 HBw11 HBw10 HBw9 HBw8
      go_wp2_with fail
      go_loopw [17] (fun v wr => ∃ m : Nat, v = .int .i64 (m : Int) ∧ 1 ≤ m ∧ m ≤ 4 ∧ Hid ((BB 25 PX wr (g 0) (ng 0) xa (ln 0) xc (e 0)) ∧ (BB 25 PY wr (g 1) (ng 1) ya (ln 1) yc (e 1)) ∧ Below w.heap.size w wr)) (fun v _ => (4 - intOf v).toNat)
      case atStart => exact ⟨1, rfl, by omega, by omega, X0.out, X1.out, HBW5.out⟩
      case round =>
        obtain ⟨m, rfl, hm1, hm4, HX⟩ := hrel
        clear X0 X1 HBW5
        by_cases hm : m = 4
        · subst hm
          have kc := K.works wr HX.out.2.2
          go_wp2_with fail
          refine kc.mono ?_
          rintro r w26 ⟨rfl, hb'⟩
          have HB26 : Hid (Below w.heap.size w w26) := HX.out.2.2.trans (hb'.mono HX.out.2.2.size)
          clear kc hb'
          go_wp2_with fail
          go_ret
          exact ⟨rfl, HB26.out⟩
        · have hm3 : (m : Int) ≤ 3 := by omega
          have hm0 : (1 : Int) ≤ (m : Int) := by omega
          have X0 : Hid (BB 25 PX wr (g 0) (ng 0) xa (ln 0) xc (e 0)) := HX.out.1
          have X1 : Hid (BB 25 PY wr (g 1) (ng 1) ya (ln 1) yc (e 1)) := HX.out.2.1
          have HBwr : Hid (Below w.heap.size w wr) := HX.out.2.2
          clear HX hm
          obtain ⟨⟨p0, p1, p2⟩, -⟩ := box_cells X0.out.1
          have kc := K.kX wr _ (m : Int) HBwr.out X0.out.2 hm0 hm3
          go_wp2_with fail
          refine kc.mono ?_
          rintro r w20 ⟨rfl, hb'⟩
          replace X0 : Hid (BB 25 PX w20 (g 0) (ng 0) xa (ln 0) xc (e 0)) := X0.out.later K.lPX hb'
          replace X1 : Hid (BB 25 PY w20 (g 1) (ng 1) ya (ln 1) yc (e 1)) := X1.out.later K.lPY hb'
          have HBw20 : Hid (Below w.heap.size w w20) := HBwr.out.trans (hb'.mono HBwr.out.size)
          clear kc hb' p0 p1 p2
          obtain ⟨⟨p0, p1, p2⟩, -⟩ := box_cells X1.out.1
          have kc := K.kY w20 _ (m : Int) HBw20.out X1.out.2 hm0 hm3
          go_wp2_with fail
          refine kc.mono ?_
          rintro r w21 ⟨rfl, hb'⟩
          replace X0 : Hid (BB 25 PX w21 (g 0) (ng 0) xa (ln 0) xc (e 0)) := X0.out.later K.lPX hb'
          replace X1 : Hid (BB 25 PY w21 (g 1) (ng 1) ya (ln 1) yc (e 1)) := X1.out.later K.lPY hb'
          have HBw21 : Hid (Below w.heap.size w w21) := HBw20.out.trans (hb'.mono HBw20.out.size)
          clear kc hb' p0 p1 p2
          obtain ⟨⟨p0, p1, p2⟩, -⟩ := box_cells X0.out.1
          obtain ⟨⟨q0, q1, q2⟩, -⟩ := box_cells X1.out.1
          have kc := K.kC w21 _ _ HBw21.out X0.out.2 X1.out.2
          go_wp2_with fail
          refine kc.mono ?_
          rintro r w22 ⟨rfl, hb'⟩
          replace X0 : Hid (BB 25 PX w22 (g 0) (ng 0) xa (ln 0) xc (e 0)) := X0.out.later K.lPX hb'
          replace X1 : Hid (BB 25 PY w22 (g 1) (ng 1) ya (ln 1) yc (e 1)) := X1.out.later K.lPY hb'
          have HBw22 : Hid (Below w.heap.size w w22) := HBw21.out.trans (hb'.mono HBw21.out.size)
          clear kc hb' p0 p1 p2 q0 q1 q2
          have oL := K.oL (m : Int) hm0 hm3
          have oG := K.oG (m : Int) hm0 hm3
          rcases (by omega : c < 0 ∨ 0 < c ∨ c = 0) with hc | hc | hc
          · have f1 := oL hc
            have f2 : ¬ 0 < c := by omega
            clear oL oG
            go_wp2_with fail
            exact ⟨⟨m + 1, by simp, by omega, by omega, X0.out, X1.out, HBw22.out⟩, by simp [intOf]; omega⟩
          · have f1 := oG hc
            have f2 : ¬ c < 0 := by omega
            clear oL oG
            go_wp2_with fail
            exact ⟨⟨m + 1, by simp, by omega, by omega, X0.out, X1.out, HBw22.out⟩, by simp [intOf]; omega⟩
          · have f1 : ¬ 0 < c := by omega
            have f2 : ¬ c < 0 := by omega
            clear oL oG
            go_wp2_with fail
            exact ⟨⟨m + 1, by simp, by omega, by omega, X0.out, X1.out, HBw22.out⟩, by simp [intOf]; omega⟩
end Go.Proofs.YtmhpicccfaklcaaGreatDoor

/- The values of floats by their bodies, and how values are rounded: plain facts. -/
namespace Go.Proofs.YtmhpicccfaklcaaGreatDoor
set_option linter.unusedVariables false
set_option linter.unusedSimpArgs false

/-- the value of a float's body (its bits without the sign), in units of 2^-1074 -/
def bv (b : Nat) : Nat := if b < 4503599627370496 then b else (4503599627370496 + b % 4503599627370496) * 2 ^ (b / 4503599627370496 - 1)
theorem bv_at {j q : Nat} (h : (j = 0 ∧ q ≤ 9007199254740992) ∨ (4503599627370496 ≤ q ∧ q ≤ 9007199254740992)) : bv (j * 4503599627370496 + q) = q * 2 ^ j := by
  unfold bv
  by_cases h1 : j * 4503599627370496 + q < 4503599627370496
  · have hj : j = 0 := by omega
    subst hj
    rw [if_pos h1]; simp
  · rw [if_neg h1]
    by_cases h2 : q = 9007199254740992
    · subst h2
      rw [show (j * 4503599627370496 + 9007199254740992) % 4503599627370496 = 0 by omega, show (j * 4503599627370496 + 9007199254740992) / 4503599627370496 - 1 = j + 1 by omega, Nat.pow_succ]
      omega
    · have h3 : 4503599627370496 ≤ q := by omega
      rw [show (j * 4503599627370496 + q) % 4503599627370496 = q - 4503599627370496 by omega, show (j * 4503599627370496 + q) / 4503599627370496 - 1 = j by omega]
      rw [show 4503599627370496 + (q - 4503599627370496) = q by omega]
theorem bv_form (b : Nat) : ∃ j q, b = j * 4503599627370496 + q ∧ bv b = q * 2 ^ j ∧ bv (b + 1) = (q + 1) * 2 ^ j := by
  by_cases h : b < 4503599627370496
  · refine ⟨0, b, by omega, ?_, ?_⟩
    · have := bv_at (j := 0) (q := b) (.inl ⟨rfl, by omega⟩); simpa using this
    · have := bv_at (j := 0) (q := b + 1) (.inl ⟨rfl, by omega⟩); simpa using this
  · have e : b = (b / 4503599627370496 - 1) * 4503599627370496 + (4503599627370496 + b % 4503599627370496) := by omega
    refine ⟨_, _, e, ?_, ?_⟩
    · have := bv_at (j := b / 4503599627370496 - 1) (q := 4503599627370496 + b % 4503599627370496) (.inr ⟨by omega, by omega⟩)
      rw [← e] at this; exact this
    · have := bv_at (j := b / 4503599627370496 - 1) (q := 4503599627370496 + b % 4503599627370496 + 1) (.inr ⟨by omega, by omega⟩)
      rw [← Nat.add_assoc, ← e] at this; exact this
theorem bv_succ (b : Nat) : bv b < bv (b + 1) := by
  obtain ⟨j, q, -, h1, h2⟩ := bv_form b
  rw [h1, h2]
  exact Nat.mul_lt_mul_of_pos_right (by omega) (Nat.two_pow_pos j)
theorem bv_lt {a b : Nat} (h : a < b) : bv a < bv b := by
  induction b with
  | zero => omega
  | succ b ih =>
    by_cases h1 : a < b
    · exact Nat.lt_trans (ih h1) (bv_succ b)
    · obtain rfl : a = b := by omega
      exact bv_succ a
theorem bv_le {a b : Nat} (h : a ≤ b) : bv a ≤ bv b := by
  by_cases h1 : a = b
  · rw [h1]; exact Nat.le_refl _
  · exact Nat.le_of_lt (bv_lt (by omega))
theorem bv_inj_lt {a b : Nat} (h : bv a < bv b) : a < b := by
  apply Decidable.byContradiction
  intro h1
  have := bv_le (a := b) (b := a) (by omega)
  omega

/-- the number x·2^e (x' / 2^k units of the body's rung j) -/
structure IsR (x : Nat) (e : Int) (j X k : Nat) : Prop where
  eq : ∀ K : Nat, 0 ≤ e + K → 0 ≤ (j : Int) - 1074 - k + K → X * 2 ^ ((j : Int) - 1074 - k + K).toNat = x * 2 ^ (e + K).toNat
  lt : X / 2 ^ k < 9007199254740992
  ge : j = 0 ∨ 4503599627370496 ≤ X / 2 ^ k

/-- how a value A (in units u of 2^-1074) lies at the bodies b and b + 1, by what is left over -/
structure Lies (A u b : Nat) (r m : Nat) : Prop where
  lo : bv b * u ≤ A
  hi : A < bv (b + 1) * u
  ex : r = 0 ↔ A = bv b * u
  half_lt : 2 * r < m ↔ 2 * A < (bv b + bv (b + 1)) * u
  half_eq : 2 * r = m ↔ 2 * A = (bv b + bv (b + 1)) * u
theorem IsR.lies {x : Nat} {e : Int} {j X k : Nat} (h : IsR x e j X k) {K : Nat} (hK : 1074 ≤ K) (h1 : 0 ≤ e + K) (h2 : 0 ≤ (j : Int) - 1074 - k + K) :
    Lies (x * 2 ^ (e + K).toNat) (2 ^ (K - 1074)) (j * 4503599627370496 + X / 2 ^ k) (X % 2 ^ k) (2 ^ k) := by
  have eq := h.eq K h1 h2
  have hl := h.lt
  have hg := h.ge
  have b0 : bv (j * 4503599627370496 + X / 2 ^ k) = X / 2 ^ k * 2 ^ j := bv_at (j := j) (q := X / 2 ^ k) (by
    generalize X / 2 ^ k = q at *
    rcases hg with g | g
    · exact .inl ⟨g, by omega⟩
    · exact .inr ⟨g, by omega⟩)
  have b1 : bv (j * 4503599627370496 + X / 2 ^ k + 1) = (X / 2 ^ k + 1) * 2 ^ j := by
    have := bv_at (j := j) (q := X / 2 ^ k + 1) (by
      generalize X / 2 ^ k = q at *
      rcases hg with g | g
      · exact .inl ⟨g, by omega⟩
      · exact .inr ⟨by omega, by omega⟩)
    rw [← Nat.add_assoc] at this
    exact this
  have hu : 2 ^ j * 2 ^ (K - 1074) = 2 ^ k * 2 ^ ((j : Int) - 1074 - k + K).toNat := by
    rw [← Nat.pow_add, ← Nat.pow_add, show j + (K - 1074) = k + ((j : Int) - 1074 - k + K).toNat by omega]
  have hX : X = 2 ^ k * (X / 2 ^ k) + X % 2 ^ k := (Nat.div_add_mod X (2 ^ k)).symm
  have hr : X % 2 ^ k < 2 ^ k := Nat.mod_lt _ (Nat.two_pow_pos k)
  have hU : 0 < 2 ^ ((j : Int) - 1074 - k + K).toNat := Nat.two_pow_pos _
  rw [← eq]
  generalize 2 ^ ((j : Int) - 1074 - k + K).toNat = U at *
  generalize X / 2 ^ k = q at *
  generalize X % 2 ^ k = r at *
  generalize 2 ^ k = M at *
  generalize 2 ^ j = J at *
  generalize 2 ^ (K - 1074) = u at *
  have e0 : bv (j * 4503599627370496 + q) * u = q * (M * U) := by rw [b0, Nat.mul_assoc, hu]
  have e1 : bv (j * 4503599627370496 + q + 1) * u = (q + 1) * (M * U) := by rw [b1, Nat.mul_assoc, hu]
  have eA : X * U = q * (M * U) + r * U := by rw [hX, Nat.add_mul]; congr 1; rw [← Nat.mul_assoc, Nat.mul_comm q M]
  have e1' : (q + 1) * (M * U) = q * (M * U) + M * U := by rw [Nat.add_mul, Nat.one_mul]
  have hrU : r * U < M * U := Nat.mul_lt_mul_of_pos_right hr hU
  have hr0 : r = 0 ↔ r * U = 0 := by
    constructor
    · rintro rfl; simp
    · intro h; rcases Nat.mul_eq_zero.1 h with h | h
      · exact h
      · omega
  have hh1 : 2 * r < M ↔ 2 * (r * U) < M * U := by
    rw [← Nat.mul_assoc]
    exact (Nat.mul_lt_mul_right hU).symm
  have hh2 : 2 * r = M ↔ 2 * (r * U) = M * U := by
    rw [← Nat.mul_assoc]
    exact (Nat.mul_left_inj (by omega)).symm
  refine ⟨?_, ?_, ?_, ?_, ?_⟩
  · rw [e0, eA]; omega
  · rw [e1, eA, e1']; omega
  · rw [hr0, e0, eA]; omega
  · rw [hh1, Nat.add_mul, e0, e1, eA, e1']; omega
  · rw [hh2, Nat.add_mul, e0, e1, eA, e1']; omega

/-- a value rounded by a way: 0 inward, 1 to the nearest, 2 outward; no greatest one -/
structure Rounds (A u b way : Nat) : Prop where
  fl : ∃ b0, (bv b0 * u ≤ A ∧ A < bv (b0 + 1) * u) ∧ (way = 0 → b = b0) ∧ (way = 2 → b = if A = bv b0 * u then b0 else b0 + 1) ∧ (way = 1 → b = if 2 * A < (bv b0 + bv (b0 + 1)) * u then b0 else if 2 * A = (bv b0 + bv (b0 + 1)) * u then b0 + b0 % 2 else b0 + 1)
theorem floor_mono {A A' u b b' : Nat} (h : A ≤ A') (h1 : bv b * u ≤ A) (h2 : A' < bv (b' + 1) * u) : b ≤ b' := by
  have h3 : bv b * u < bv (b' + 1) * u := by omega
  have h4 : bv b < bv (b' + 1) := Nat.lt_of_mul_lt_mul_right h3
  have := bv_inj_lt h4
  omega
theorem Rounds.mono {A A' u b b' way : Nat} (hw : way = 0 ∨ way = 1 ∨ way = 2) (h : Rounds A u b way) (h' : Rounds A' u b' way) (hle : A ≤ A') : b ≤ b' := by
  obtain ⟨b0, ⟨l, g⟩, w0, w2, w1⟩ := h.fl
  obtain ⟨b1, ⟨l', g'⟩, w0', w2', w1'⟩ := h'.fl
  have hb := floor_mono hle l g'
  rcases hw with hw | hw | hw
  · rw [w0 hw, w0' hw]; exact hb
  · rw [w1 hw, w1' hw]
    by_cases he : b0 = b1
    · subst he
      split
      · split
        · exact Nat.le_refl _
        · split <;> omega
      · split
        · split
          · omega
          · split
            · exact Nat.le_refl _
            · have : b0 % 2 < 2 := Nat.mod_lt _ (by omega)
              omega
        · rw [if_neg (by omega), if_neg (by omega)]; exact Nat.le_refl _
    · have hlt : b0 < b1 := by omega
      have h1 : (if 2 * A < (bv b0 + bv (b0 + 1)) * u then b0 else if 2 * A = (bv b0 + bv (b0 + 1)) * u then b0 + b0 % 2 else b0 + 1) ≤ b0 + 1 := by
        split
        · omega
        · split <;> omega
      have h2 : b1 ≤ (if 2 * A' < (bv b1 + bv (b1 + 1)) * u then b1 else if 2 * A' = (bv b1 + bv (b1 + 1)) * u then b1 + b1 % 2 else b1 + 1) := by
        split
        · omega
        · split <;> omega
      omega
  · rw [w2 hw, w2' hw]
    by_cases he : b0 = b1
    · subst he
      split
      · split <;> omega
      · rw [if_neg (by omega)]; exact Nat.le_refl _
    · split
      · split <;> omega
      · split <;> omega
/-- inward is not above nearest, nor that above outward; inward and outward hold the value -/
theorem Rounds.order {A u b0 b1 b2 : Nat} (h0 : Rounds A u b0 0) (h1 : Rounds A u b1 1) (h2 : Rounds A u b2 2) : b0 ≤ b1 ∧ b1 ≤ b2 ∧ bv b0 * u ≤ A ∧ A ≤ bv b2 * u ∧ (b0 = b2 → A = bv b0 * u) := by
  obtain ⟨c0, ⟨l0, g0⟩, w0, -, -⟩ := h0.fl
  obtain ⟨c1, ⟨l1, g1⟩, -, -, w1⟩ := h1.fl
  obtain ⟨c2, ⟨l2, g2⟩, -, w2, -⟩ := h2.fl
  have e1 : c1 = c0 := by
    have := floor_mono (Nat.le_refl A) l1 g0
    have := floor_mono (Nat.le_refl A) l0 g1
    omega
  have e2 : c2 = c0 := by
    have := floor_mono (Nat.le_refl A) l2 g0
    have := floor_mono (Nat.le_refl A) l0 g2
    omega
  subst e1; subst e2
  have r0 := w0 rfl
  have r1 := w1 rfl
  have r2 := w2 rfl
  subst r0
  have hu : 0 < u := by
    apply Decidable.byContradiction
    intro h
    have : u = 0 := by omega
    subst this
    simp at g0
  have hs : bv b0 * u < bv (b0 + 1) * u := Nat.mul_lt_mul_of_pos_right (bv_succ b0) hu
  have hm : (bv b0 + bv (b0 + 1)) * u = bv b0 * u + bv (b0 + 1) * u := Nat.add_mul ..
  have hp : b0 % 2 < 2 := Nat.mod_lt _ (by omega)
  refine ⟨?_, ?_, l0, ?_, ?_⟩
  · rw [r1]
    split
    · omega
    · split <;> omega
  · rw [r1, r2]
    by_cases he : A = bv b0 * u
    · rw [if_pos he, if_pos (by omega)]; exact Nat.le_refl _
    · rw [if_neg he]
      split
      · omega
      · split <;> omega
  · rw [r2]
    split
    · omega
    · omega
  · intro h
    rw [r2] at h
    split at h
    · assumption
    · omega
end Go.Proofs.YtmhpicccfaklcaaGreatDoor

/- The program's rounding rounds: the body that Make makes of toFloat's digits. -/
namespace Go.Proofs.YtmhpicccfaklcaaGreatDoor
set_option linter.unusedVariables false
set_option linter.unusedSimpArgs false
open Go.RowKit Go.Fl64
open Ie

theorem or_one_half (y : Nat) : (y ||| 1) / 2 = y / 2 := by rw [Nat.or_div_two]; simp
theorem or_one_odd (y : Nat) : (y ||| 1) % 2 = 1 := Nat.or_mod_two_eq_one.2 (.inr rfl)
theorem or_one_eq (y : Nat) : y ||| 1 = 2 * (y / 2) + 1 := by
  have h1 := or_one_half y
  have h2 := or_one_odd y
  omega
/-- what was left out, told by an odd last digit, is rounded as it is -/
theorem rnd_sticky {x D k y m : Nat} {way : Int} (hk : 2 ≤ k) (hy : y = x / 2 ^ D) (hm : (x % 2 ^ D = 0 ∧ m = y) ∨ (x % 2 ^ D ≠ 0 ∧ m = 2 * (y / 2) + 1)) : rnd m k way = rnd x (D + k) way := by
  obtain ⟨h, rfl⟩ : ∃ h, k = h + 2 := ⟨k - 2, by omega⟩
  have e2 : (2 : Nat) ^ (h + 2) = 2 * (2 * 2 ^ h) := by rw [Nat.pow_succ, Nat.pow_succ]; omega
  have eD : (2 : Nat) ^ (D + (h + 2)) = 2 ^ D * 2 ^ (h + 2) := Nat.pow_add ..
  have hq : m / 2 ^ (h + 2) = x / 2 ^ (D + (h + 2)) := by
    rw [eD, ← Nat.div_div_eq_div_mul, ← hy]
    rcases hm with ⟨-, hm⟩ | ⟨-, hm⟩
    · rw [hm]
    · have hd : ∀ z, z / (2 * (2 * 2 ^ h)) = z / 2 / (2 * 2 ^ h) := fun z => (Nat.div_div_eq_div_mul ..).symm
      rw [e2, hd, hd, hm, show (2 * (y / 2) + 1) / 2 = y / 2 by omega]
  have hR : x % 2 ^ (D + (h + 2)) = (y % 2 ^ (h + 2)) * 2 ^ D + x % 2 ^ D := by
    rw [eD, Nat.mod_mul, hy, Nat.mul_comm]; omega
  have hM : (x % 2 ^ D = 0 ∧ m % 2 ^ (h + 2) = y % 2 ^ (h + 2)) ∨ (x % 2 ^ D ≠ 0 ∧ m % 2 ^ (h + 2) = 2 * (y % 2 ^ (h + 2) / 2) + 1) := by
    rcases hm with ⟨h1, hm⟩ | ⟨h1, hm⟩
    · exact .inl ⟨h1, by rw [hm]⟩
    · refine .inr ⟨h1, ?_⟩
      rw [hm, e2]
      generalize 2 ^ h = H
      rw [Nat.mod_mul, Nat.mod_mul (x := y), show (2 * (y / 2) + 1) % 2 = 1 by omega, show (2 * (y / 2) + 1) / 2 = y / 2 by omega]
      generalize y / 2 % (2 * H) = t
      omega
  have hrx : x % 2 ^ D < 2 ^ D := Nat.mod_lt _ (Nat.two_pow_pos D)
  have hp : 0 < 2 ^ D := Nat.two_pow_pos D
  have i0 : m % 2 ^ (h + 2) = 0 ↔ x % 2 ^ (D + (h + 2)) = 0 := by
    rw [hR]
    rcases hM with ⟨h1, h2⟩ | ⟨h1, h2⟩
    · rw [h1, h2, Nat.add_zero]
      constructor
      · intro e; rw [e, Nat.zero_mul]
      · intro e; rcases Nat.mul_eq_zero.1 e with e | e
        · exact e
        · omega
    · rw [h2]; omega
  have key : ∀ c : Nat, c = 2 * 2 ^ h → (2 ^ (h + 2) < 2 * (m % 2 ^ (h + 2)) ↔ 2 ^ (D + (h + 2)) < 2 * (x % 2 ^ (D + (h + 2)))) ∧ (2 * (m % 2 ^ (h + 2)) = 2 ^ (h + 2) ↔ 2 * (x % 2 ^ (D + (h + 2))) = 2 ^ (D + (h + 2))) := by
    intro c hc
    rw [hR, eD]
    have e3 : (2 : Nat) ^ (h + 2) = 2 * c := by rw [e2, hc]
    rw [e3] at hM ⊢
    have hc2 : c % 2 = 0 := by omega
    generalize y % (2 * c) = ry at *
    generalize m % (2 * c) = rm at *
    generalize x % 2 ^ D = rx at *
    generalize 2 ^ D = T at *
    have a1 : T * (2 * c) = 2 * (c * T) := by rw [Nat.mul_comm T, Nat.mul_assoc]
    rw [a1]
    rcases hM with ⟨h1, h2⟩ | ⟨h1, h2⟩
    · subst h1
      rw [h2, Nat.add_zero]
      constructor
      · constructor
        · intro g; have := Nat.mul_lt_mul_of_pos_right (show c < ry by omega) hp; omega
        · intro g; have : c * T < ry * T := by omega
          have := Nat.lt_of_mul_lt_mul_right this; omega
      · constructor
        · intro g; rw [show ry = c by omega]
        · intro g; have := Nat.eq_of_mul_eq_mul_right hp (show ry * T = c * T by omega); omega
    · have hlt : ry < c → ry * T + rx < c * T := by
        intro g
        have := Nat.mul_le_mul_right T (show ry + 1 ≤ c by omega)
        rw [Nat.add_mul, Nat.one_mul] at this
        omega
      have hge : c ≤ ry → c * T < ry * T + rx := by
        intro g
        have := Nat.mul_le_mul_right T g
        omega
      by_cases g : ry < c
      · have a2 := hlt g
        have a3 : rm < c := by omega
        clear hlt hge
        refine ⟨⟨fun g2 => ?_, fun g2 => ?_⟩, ⟨fun g2 => ?_, fun g2 => ?_⟩⟩
        · omega
        · omega
        · omega
        · omega
      · have a2 := hge (by omega)
        have a3 : c < rm := by omega
        clear hlt hge
        refine ⟨⟨fun g2 => ?_, fun g2 => ?_⟩, ⟨fun g2 => ?_, fun g2 => ?_⟩⟩
        · omega
        · omega
        · omega
        · omega
  have k1 := key _ rfl
  unfold rnd
  have hrup : Ie.rup m (h + 2) way = Ie.rup x (D + (h + 2)) way := by
    unfold Ie.rup
    rw [hq]
    simp only [k1.1, k1.2, ne_eq, i0]
  rw [hrup, hq]
theorem tz_iff {x n : Nat} (h0 : x ≠ 0) : tz x < n ↔ x % 2 ^ n ≠ 0 := by
  obtain ⟨h1, h2⟩ := tz_spec x x (Nat.le_refl _) h0
  constructor
  · intro hlt he
    have hd : 2 ^ (tz x + 1) ∣ x := Nat.dvd_trans (Nat.pow_dvd_pow 2 (by omega)) (Nat.dvd_of_mod_eq_zero he)
    obtain ⟨c, hc⟩ := hd
    have h3 : x / 2 ^ tz x = 2 * c := by
      rw [Nat.pow_succ, Nat.mul_assoc] at hc
      exact Nat.div_eq_of_eq_mul_right (Nat.two_pow_pos _) hc
    omega
  · intro hne
    apply Decidable.byContradiction
    intro hge
    apply hne
    have : 2 ^ n ∣ x := by rw [← h1]; exact Nat.dvd_trans (Nat.pow_dvd_pow 2 (by omega)) (Nat.dvd_mul_right _ _)
    exact Nat.mod_eq_zero_of_dvd this
theorem raw_of {x : Nat} {e : Int} {X m j k k1 : Nat} {s P : Int} {e' : Int} (hs : s = e' - (nz m : Int)) (hP : P = pl m e') (hk1 : (k1 : Int) = P - s) (hj : (j : Int) = P + 1074) (hr : ∀ way, rnd (tp m) k1 way = rnd X k way) (way : Int) : raw m e' way = ((j * 4503599627370496 + rnd X k way : Nat) : Int) := by
  unfold raw
  rw [← hP, ← hs, show (P - s).toNat = k1 by omega, hr]
  omega
/-- Make's body of a number is what its value is rounded to -/
theorem raw_is {x : Nat} {e : Int} (h0 : x ≠ 0) : ∃ j X k, IsR x e j X k ∧ (∀ way, raw (tfM true x) (e + (tfD x : Int)) way = ((j * 4503599627370496 + rnd X k way : Nat) : Int)) ∧ (k : Int) ≤ j + 1074 + (if e < 0 then -e else 0) + 64 ∧ -64 + min e (-1074) ≤ (j : Int) - 1074 - k := by
  by_cases hD : bl x ≤ 64
  · have eD : tfD x = 0 := by unfold tfD; omega
    have eM : tfM true x = x := by unfold tfM; rw [eD]; simp
    rw [eM, eD]
    have hx64 : x < 18446744073709551616 := (bl_le x 64).1 hD
    obtain ⟨n1, n2, n3⟩ := nz_facts x hx64 h0
    obtain ⟨P, hP⟩ : ∃ P, P = pl x (e + ((0 : Nat) : Int)) := ⟨_, rfl⟩
    have hPl := hP
    unfold pl at hPl
    have hPc : (P = -1074 ∧ e - nz x + 11 < -1074) ∨ (P = e - nz x + 11 ∧ -1074 ≤ P) := by
      split at hPl
      · exact .inl ⟨hPl, by omega⟩
      · exact .inr ⟨by omega, by omega⟩
    refine ⟨(P + 1074).toNat, tp x, (P - (e - nz x)).toNat, ⟨?_, ?_, ?_⟩, fun way => raw_of (x := x) (e := e) (m := x) (s := e - nz x) (P := P) (k1 := (P - (e - nz x)).toNat) (by omega) hP (by omega) (by omega) (fun _ => rfl) way, ?_, ?_⟩
    · intro K hK1 hK2
      unfold tp
      rw [Nat.mul_assoc, ← Nat.pow_add]
      congr 2
      omega
    · have : 2 ^ 11 ≤ 2 ^ (P - (e - nz x)).toNat := Nat.pow_le_pow_right (by omega) (by omega)
      refine Nat.div_lt_of_lt_mul ?_
      have : 2 ^ 11 * 9007199254740992 ≤ 2 ^ (P - (e - nz x)).toNat * 9007199254740992 := Nat.mul_le_mul_right _ this
      omega
    · rcases hPc with h | h
      · exact .inl (by omega)
      · refine .inr ?_
        rw [show (P - (e - nz x)).toNat = 11 by omega]
        omega
    · split <;> omega
    · omega
  · have eD : bl x = tfD x + 64 := by unfold tfD; omega
    obtain ⟨D, hDD⟩ : ∃ D, D = tfD x := ⟨_, rfl⟩
    rw [← hDD] at eD ⊢
    have hx1 : x < 2 ^ (D + 64) := by rw [← eD]; exact lt_bl x
    have hx2 : 2 ^ (D + 63) ≤ x := by have := le_bl h0; rw [eD] at this; exact this
    have hp : 0 < 2 ^ D := Nat.two_pow_pos D
    obtain ⟨y, hy⟩ : ∃ y, y = x / 2 ^ D := ⟨_, rfl⟩
    have hy1 : y < 18446744073709551616 := by rw [hy]; refine Nat.div_lt_of_lt_mul ?_; rw [Nat.pow_add] at hx1; exact hx1
    have hy2 : 9223372036854775808 ≤ y := by rw [hy, Nat.le_div_iff_mul_le hp, Nat.mul_comm]; rw [Nat.pow_add] at hx2; exact hx2
    have hm : (x % 2 ^ D = 0 ∧ tfM true x = y) ∨ (x % 2 ^ D ≠ 0 ∧ tfM true x = 2 * (y / 2) + 1) := by
      unfold tfM
      rw [← hDD, ← hy]
      by_cases hz : tz x < D
      · exact .inr ⟨(tz_iff h0).1 hz, by rw [decide_eq_true hz]; exact or_one_eq y⟩
      · refine .inl ⟨?_, by rw [decide_eq_false hz]; rfl⟩
        apply Decidable.byContradiction
        intro h
        exact hz ((tz_iff h0).2 h)
    obtain ⟨m, hmm⟩ : ∃ m, m = tfM true x := ⟨_, rfl⟩
    rw [← hmm] at hm ⊢
    have hm1 : m < 18446744073709551616 := by rcases hm with h | h <;> omega
    have hm2 : 9223372036854775808 ≤ m := by rcases hm with h | h <;> omega
    have hbm : bl m = 64 := bl_eq (n := 64) hm1 (.inr hm2)
    have hnz : nz m = 0 := by unfold nz; rw [← bl_bitLen, hbm]
    have htp : tp m = m := by unfold tp; rw [hnz]; simp
    obtain ⟨P, hP⟩ : ∃ P, P = pl m (e + (D : Int)) := ⟨_, rfl⟩
    have hPl := hP
    unfold pl at hPl
    rw [hnz] at hPl
    have hPc : (P = -1074 ∧ e + D + 11 < -1074) ∨ (P = e + D + 11 ∧ -1074 ≤ P) := by
      split at hPl
      · exact .inl ⟨hPl, by omega⟩
      · exact .inr ⟨by omega, by omega⟩
    have hq : ∀ k1, 11 ≤ k1 → x / 2 ^ (D + k1) = y / 2 ^ k1 := fun k1 _ => by rw [Nat.pow_add, ← Nat.div_div_eq_div_mul, hy]
    refine ⟨(P + 1074).toNat, x, D + (P - (e + D)).toNat, ⟨?_, ?_, ?_⟩, fun way => raw_of (x := x) (e := e) (m := m) (s := e + D) (P := P) (k1 := (P - (e + D)).toNat) (by rw [hnz]; omega) hP (by omega) (by omega) (fun way => by rw [htp]; exact rnd_sticky (by omega) hy hm) way, ?_, ?_⟩
    · intro K hK1 hK2
      congr 2
      omega
    · rw [hq _ (by omega)]
      have : 2 ^ 11 ≤ 2 ^ (P - (e + D)).toNat := Nat.pow_le_pow_right (by omega) (by omega)
      refine Nat.div_lt_of_lt_mul ?_
      have : 2 ^ 11 * 9007199254740992 ≤ 2 ^ (P - (e + D)).toNat * 9007199254740992 := Nat.mul_le_mul_right _ this
      omega
    · rcases hPc with h | h
      · exact .inl (by omega)
      · refine .inr ?_
        rw [hq _ (by omega), show (P - (e + D)).toNat = 11 by omega]
        omega
    · split <;> omega
    · omega
end Go.Proofs.YtmhpicccfaklcaaGreatDoor

/- A float is made anew of its odd part and its exponent, whatever the way of rounding. -/
namespace Go.Proofs.YtmhpicccfaklcaaGreatDoor.Ie
set_option linter.unusedVariables false
set_option linter.unusedSimpArgs false
open Go.RowKit Go.Fl64

/-- A number with an odd part has one only. -/
theorem odd_one {x j M : Nat} (hx : x % 2 = 1) (h : x * 2 ^ j = M) (hM : M < 2 ^ 64) : j = Lib.ctz 64 M ∧ (x : Int) = (M : Int) / 2 ^ Lib.ctz 64 M := by
  have hp : 0 < 2 ^ j := Nat.two_pow_pos j
  have h0 : M ≠ 0 := by
    rw [← h]
    exact Nat.ne_of_gt (Nat.mul_pos (by omega) hp)
  obtain ⟨m, hm, hk⟩ := Lib.ctzFrom_spec 64 M (by omega) hM
  have e : Lib.ctz 64 M = Lib.ctzFrom 64 M := by simp [Lib.ctz, h0]
  rw [e]
  generalize Lib.ctzFrom 64 M = c at *
  have hjc : j = c := by
    rcases Nat.lt_trichotomy j c with hlt | heq | hgt
    · exfalso
      obtain ⟨d, rfl⟩ : ∃ d, c = j + (d + 1) := ⟨c - j - 1, by omega⟩
      rw [← h, Nat.pow_add, Nat.mul_comm x, Nat.mul_assoc] at hm
      have := Nat.eq_of_mul_eq_mul_left hp hm
      rw [Nat.pow_succ, Nat.mul_comm (2 ^ d) 2, Nat.mul_assoc] at this
      omega
    · exact heq
    · exfalso
      obtain ⟨d, rfl⟩ : ∃ d, j = c + (d + 1) := ⟨j - c - 1, by omega⟩
      rw [← h, Nat.pow_add, Nat.mul_comm x, Nat.mul_assoc] at hm
      have := Nat.eq_of_mul_eq_mul_left (Nat.two_pow_pos c) hm
      rw [Nat.pow_succ, Nat.mul_comm (2 ^ d) 2, Nat.mul_assoc] at this
      omega
  subst hjc
  refine ⟨rfl, ?_⟩
  have e2 : M / 2 ^ j = x := by rw [← h]; exact Nat.mul_div_cancel _ hp
  rw [← e2]
  simp


/-- What is whole stays, whatever the way. -/
theorem rnd_whole (X d : Nat) (way : Int) : rnd (X * 2 ^ d) d way = X := by
  have hp : 0 < 2 ^ d := Nat.two_pow_pos d
  have e1 : X * 2 ^ d % 2 ^ d = 0 := Nat.mul_mod_left X (2 ^ d)
  have e2 : X * 2 ^ d / 2 ^ d = X := Nat.mul_div_cancel X hp
  unfold rnd rup
  rw [e1, e2]
  have h : ¬ (2 ^ d < 2 * 0) := by omega
  have h' : ¬ (2 * 0 = 2 ^ d) := by omega
  simp only [h, h', decide_false, Bool.false_or, Bool.false_and, ne_eq, not_true_eq_false, ite_self, if_false, Bool.false_eq_true]

theorem bitLen_of {x k : Nat} (h1 : 2 ^ k ≤ x) (h2 : x < 2 ^ (k + 1)) : bitLen x = k + 1 := by
  have h0 : x ≠ 0 := by have := Nat.two_pow_pos k; omega
  unfold bitLen
  rw [if_neg h0, (Nat.log2_eq_iff h0).2 ⟨h1, h2⟩]

/-- The float is made of its odd part, in every way. -/
theorem bod_split {a : Nat} (h0 : mag a ≠ 0) (h1 : mag a < 9218868437227405312) (x c : Nat) (hx : x * 2 ^ c = mant a) (way : Int) :
    bod x (lp a + (c : Int)) way = (mag a : Int) := by
  have hm := mant_ne h0
  have hb := mant_bound a
  have hp : 0 < 2 ^ c := Nat.two_pow_pos c
  have e1 : mant a / 2 ^ c = x := by rw [← hx]; exact Nat.mul_div_cancel _ hp
  have hx0 : x ≠ 0 := by
    intro e
    rw [e, Nat.zero_mul] at hx
    exact hm hx.symm
  have e2 := bitLen_shift (mant a) c (by rw [e1]; exact hx0)
  rw [e1] at e2
  have hx64 : x < 18446744073709551616 := by
    have : x ≤ x * 2 ^ c := Nat.le_mul_of_pos_right x hp
    omega
  obtain ⟨s1, s2⟩ := bitLen_spec x
  have s2 := s2 hx0
  have s3 := bitLen_le64 x hx64
  have s4 : bitLen x ≠ 0 := by unfold bitLen; rw [if_neg hx0]; omega
  have k53 : bitLen (mant a) ≤ 53 := by
    unfold bitLen
    rw [if_neg hm]
    have := (Nat.log2_lt hm).2 (show mant a < 2 ^ 53 from hb)
    omega
  have key : ∀ d : Nat, (nz x : Int) - (c : Int) = (d : Int) → tp x = mant a * 2 ^ d := by
    intro d hd
    unfold tp
    rw [← hx, Nat.mul_assoc, ← Nat.pow_add, show nz x = c + d by omega]
  have hz : (nz x : Int) - (c : Int) = 64 - (bitLen (mant a) : Int) := by unfold nz; omega
  have fin : ∀ d : Nat, (d : Int) = 64 - (bitLen (mant a) : Int) → ∀ P : Int, pl x (lp a + (c : Int)) = P → (P - (lp a + (c : Int) - (nz x : Int))).toNat = d → (P + 1074) * 4503599627370496 + (mant a : Int) = (mag a : Int) → bod x (lp a + (c : Int)) way = (mag a : Int) := by
    intro d hd P hP hD hM
    have er : raw x (lp a + (c : Int)) way = (mag a : Int) := by
      unfold raw
      rw [hP, hD, key d (by omega), rnd_whole]
      exact hM
    unfold bod
    rw [er, if_pos (by omega)]
  by_cases h3 : mag a < 4503599627370496
  · have em : mant a = mag a := if_pos h3
    have el : lp a = -1074 := by unfold lp; omega
    have k52 : bitLen (mant a) ≤ 52 := by
      unfold bitLen
      rw [if_neg hm]
      have := (Nat.log2_lt hm).2 (show mant a < 2 ^ 52 by rw [em]; exact h3)
      omega
    refine fin (64 - bitLen (mant a)) (by omega) (-1074) ?_ (by omega) (by omega)
    unfold pl
    rw [if_pos (by omega)]
  · have em : mant a = 4503599627370496 + mag a % 4503599627370496 := if_neg h3
    have kk : bitLen (mant a) = 53 := bitLen_of (k := 52) (show 2 ^ 52 ≤ mant a by rw [em]; omega) (show mant a < 2 ^ 53 from hb)
    have el : lp a = -1075 + ((mag a / 4503599627370496 : Nat) : Int) := by unfold lp; omega
    refine fin 11 (by omega) (lp a) ?_ (by omega) (by omega)
    unfold pl
    rw [if_neg (by omega)]
    omega

theorem sig_self (a : Nat) (h : a < 18446744073709551616) : sig (neg a) (mag a) = a := by
  unfold sig neg mag
  by_cases hn : 9223372036854775808 ≤ a
  · rw [decide_eq_true hn, if_pos rfl]; omega
  · rw [decide_eq_false hn, if_neg (by decide)]; omega

theorem mk_split (a : Nat) (h : a < 18446744073709551616) (h1 : mag a < 9218868437227405312) (k : Nat) (hk1 : 1 ≤ k) (hk3 : k ≤ 3) (nan : Nat) :
    mk (sN a) (sM a).toNat (sE a) k nan = a := by
  have h1' : ¬ 9218868437227405312 ≤ mag a := by omega
  unfold mk sN sM sE
  rw [if_pos (by omega), if_neg h1', if_neg h1', if_neg h1']
  by_cases h0 : mag a = 0
  · rw [if_pos h0, if_pos h0, if_pos (show (0 : Int).toNat = 0 from rfl)]
    have := sig_self a h
    rw [h0] at this
    exact this
  · rw [if_neg h0, if_neg h0]
    have hm := mant_ne h0
    have hb := mant_bound a
    obtain ⟨m, hmm, hk⟩ := Lib.ctzFrom_spec 64 (mant a) (by omega) (show mant a < 2 ^ 64 by omega)
    have e : Lib.ctz 64 (mant a) = Lib.ctzFrom 64 (mant a) := by simp [Lib.ctz, hm]
    have hx : (2 * m + 1) * 2 ^ Lib.ctz 64 (mant a) = mant a := by rw [e, Nat.mul_comm]; exact hmm.symm
    obtain ⟨_, ex⟩ := odd_one (x := 2 * m + 1) (by omega) hx (show mant a < 2 ^ 64 by omega)
    rw [← ex, Int.toNat_natCast, if_neg (by omega), bod_split h0 h1 _ _ hx, Int.toNat_natCast, sig_self a h]
end Go.Proofs.YtmhpicccfaklcaaGreatDoor.Ie

/- A finite float and nought, added: the float; of noughts +0. -/
namespace Go.Fl64
set_option linter.unusedVariables false
set_option linter.unusedSimpArgs false

theorem cut_whole (s : Bool) (M q : Nat) (L : Nat) : Ieee.Toward.even.cut s (M * 2 ^ q) q = M ∨ ¬ q ≤ (M * 2 ^ q).log2 + 2 := by
  by_cases h : q ≤ (M * 2 ^ q).log2 + 2
  · refine .inl ?_
    have hp := Nat.two_pow_pos q
    unfold Ieee.Toward.cut
    simp only [Nat.min_eq_left h, Nat.one_shiftLeft]
    rw [Nat.mul_div_cancel _ hp, Nat.mul_mod_left]
    have e1 : ¬ 2 ^ q < 2 * 0 := by omega
    have e2 : (2 ^ q == 2 * 0) = false := by simp
    simp [e1, e2]
  · exact .inr h

theorem near_val (s : Bool) (r : Nat) (h0 : r ≠ 0) (h1 : r < 9218868437227405312) : Ieee.double.nearest s (val r) (-1074) = Ieee.double.word s r := by
  have hb : Ieee.double.binade = 4503599627370496 := by decide
  have hi : Ieee.double.infRung = 9218868437227405312 := by decide
  have hl : Ieee.double.leastPlace = -1074 := by decide
  have hf : Ieee.double.fractionBits = 52 := by decide
  have hv : val r ≠ 0 := fun e => h0 ((val_eq_zero r).1 e)
  unfold Ieee.Format.nearest
  rw [if_neg hv]
  simp only [hb, hi, hl, hf]
  by_cases h2 : r < 4503599627370496
  · have ev : val r = r := by unfold val; rw [if_pos h2]
    rw [ev]
    have hlog : r.log2 < 52 := (Nat.log2_lt h0).2 (by omega)
    have el : max (-1074 + (r.log2 : Int) - ((52 : Nat) : Int)) (-1074) = -1074 := by omega
    rw [el]
    have ec := cut_whole s r 0 0
    simp only [Nat.pow_zero, Nat.mul_one] at ec
    rw [show ((-1074 : Int) - -1074).toNat = 0 by decide, Nat.shiftLeft_zero, ec.resolve_right (by omega), Nat.zero_mul, Nat.zero_add, Nat.min_eq_left (by omega)]
  · have ev : val r = (4503599627370496 + r % 4503599627370496) * 2 ^ (r / 4503599627370496 - 1) := by unfold val; rw [if_neg h2]
    have hM1 : 2 ^ 52 ≤ 4503599627370496 + r % 4503599627370496 := by omega
    have hM2 : 4503599627370496 + r % 4503599627370496 < 2 ^ 53 := by omega
    have hr : (r / 4503599627370496 - 1) * 4503599627370496 + (4503599627370496 + r % 4503599627370496) = r := by omega
    rw [ev] at hv ⊢
    generalize 4503599627370496 + r % 4503599627370496 = M at *
    generalize r / 4503599627370496 - 1 = q at *
    have hp := Nat.two_pow_pos q
    have hlog : (M * 2 ^ q).log2 = 52 + q := by
      rw [Nat.log2_eq_iff hv]
      refine ⟨?_, ?_⟩
      · rw [Nat.pow_add]; exact Nat.mul_le_mul_right _ hM1
      · rw [show 52 + q + 1 = 53 + q by omega, Nat.pow_add]; exact Nat.mul_lt_mul_of_pos_right hM2 hp
    rw [hlog]
    have el : max (-1074 + ((52 + q : Nat) : Int) - ((52 : Nat) : Int)) (-1074) = -1074 + (q : Int) := by omega
    rw [el, show ((-1074 : Int) - (-1074 + (q : Int))).toNat = 0 by omega, show (-1074 + (q : Int) - -1074).toNat = q by omega, Nat.shiftLeft_zero]
    have ec := cut_whole s M q 0
    rw [hlog] at ec
    rw [ec.resolve_right (by omega), hr, Nat.min_eq_left (by omega)]

theorem word_self (a : Nat) (h : a < 18446744073709551616) : Ieee.double.word (neg a) (mag a) = a := by
  have hs : Ieee.double.signWeight = 9223372036854775808 := by decide
  unfold Ieee.Format.word neg mag
  rw [hs]
  by_cases hn : 9223372036854775808 ≤ a
  · rw [decide_eq_true hn, if_pos rfl]; omega
  · rw [decide_eq_false hn, if_neg (by decide)]; omega

theorem sgn_neg (s : Bool) (n : Nat) (h : n ≠ 0) : decide (sgn s n < 0) = s ∧ (sgn s n).natAbs = n ∧ sgn s n ≠ 0 := by
  unfold sgn
  cases s <;> simp <;> omega

theorem add_nought (a : Nat) (h : a < 18446744073709551616) (hf : mag a < 9218868437227405312) : FloatKind.f64.format.add a 0 = some (if mag a = 0 then 0 else a) := by
  rw [f64]
  obtain ⟨m, k, e1, e2⟩ := read_number a h hf
  have e0 : Ieee.double.read 0 = .number false 0 (-1074) := by decide
  unfold Ieee.Format.add
  rw [e1, e0]
  have eb : min (-1074 + (k : Int)) (-1074) = -1074 := by omega
  simp only [Ieee.Datum.sum, eb, signed_sgn, Option.map_some]
  rw [show (-1074 + (k : Int) - -1074).toNat = k by omega, e2, Nat.zero_mul, show sgn false 0 = 0 by decide, Int.add_zero]
  congr 1
  by_cases h0 : mag a = 0
  · rw [h0, if_pos rfl, val_zero]
    have : sgn (neg a) 0 = 0 := by unfold sgn; cases neg a <;> rfl
    rw [this]
    simp
    decide
  · rw [if_neg h0]
    have hv : val (mag a) ≠ 0 := fun e => h0 ((val_eq_zero _).1 e)
    obtain ⟨g1, g2, g3⟩ := sgn_neg (neg a) (val (mag a)) hv
    rw [if_neg g3, g1, g2]
    show Ieee.double.nearest (neg a) (val (mag a)) (-1074) = a
    rw [near_val (neg a) (mag a) h0 hf, word_self a h]

theorem run_add_nought {P : Program} (w : World) (t : TypeId) (a : Nat) (h : a < 18446744073709551616) (hf : mag a < 9218868437227405312) :
    (binOp .add t (.float .f64 a) (.float .f64 0)).run P w = .ok (.float .f64 (if mag a = 0 then 0 else a)) w :=
  run_float_arith w .add t .f64 a 0 _ (add_nought a h hf)
end Go.Fl64

/- DyadFloats: the law's walk. -/
namespace Go.Proofs.YtmhpicccfaklcaaGreatDoor
set_option linter.unusedVariables false
set_option linter.unusedSimpArgs false
open Go.RowKit Go.Fl64

end Go.Proofs.YtmhpicccfaklcaaGreatDoor

/- DyadFloats answers true, whatever the two floats are. -/
namespace Go.Proofs.YtmhpicccfaklcaaGreatDoor
set_option linter.unusedVariables false
set_option linter.unusedSimpArgs false
open Go.RowKit Go.Fl64

/-- the parts of a finite float's number -/
def nN (a : Nat) : Bool := if mag a = 0 then false else neg a
def nM (a : Nat) : Nat := (Ie.sM a).toNat

theorem val_mant (a : Nat) (hf : mag a < 9218868437227405312) : val (mag a) = Ie.mant a * 2 ^ (Ie.lp a + 1074).toNat ∧ -1074 ≤ Ie.lp a ∧ Ie.lp a ≤ 972 := by
  unfold val Ie.mant Ie.lp
  by_cases h : mag a < 4503599627370496
  · rw [if_pos h, if_pos h]
    have : (-1075 + max 1 ((mag a / 4503599627370496 : Nat) : Int) + 1074).toNat = 0 := by omega
    rw [this, Nat.pow_zero, Nat.mul_one]
    exact ⟨rfl, by omega, by omega⟩
  · rw [if_neg h, if_neg h]
    have : (-1075 + max 1 ((mag a / 4503599627370496 : Nat) : Int) + 1074).toNat = mag a / 4503599627370496 - 1 := by omega
    rw [this]
    exact ⟨rfl, by omega, by omega⟩

theorem num_zero {a : Nat} (h0 : mag a = 0) : nM a = 0 ∧ Ie.sE a = 0 := by
  constructor
  · unfold nM Ie.sM
    rw [if_neg (by omega), if_pos h0]
    rfl
  · unfold Ie.sE
    rw [if_neg (by omega), if_pos h0]
theorem num_parts {a : Nat} (hf : mag a < 9218868437227405312) (h0 : mag a ≠ 0) :
    nM a % 2 = 1 ∧ nM a < 9007199254740992 ∧ -1074 ≤ Ie.sE a ∧ Ie.sE a ≤ 1100 ∧ nM a * 2 ^ (Ie.sE a + 1074).toNat = val (mag a) := by
  obtain ⟨v1, v2, v3⟩ := val_mant a hf
  have hb := Ie.mant_bound a
  have hne := Ie.mant_ne h0
  have hct : Lib.ctz 64 (Ie.mant a) = tz (Ie.mant a) := tz_ctz hne (by omega)
  obtain ⟨h1, h2⟩ := tz_spec _ (Ie.mant a) (Nat.le_refl _) hne
  have e1 : nM a = Ie.mant a / 2 ^ tz (Ie.mant a) := by
    unfold nM Ie.sM
    rw [if_neg (by omega), if_neg h0, hct]
    have : (Ie.mant a : Int) / 2 ^ tz (Ie.mant a) = ((Ie.mant a / 2 ^ tz (Ie.mant a) : Nat) : Int) := by simp
    rw [this, Int.toNat_natCast]
  have e2 : Ie.sE a = Ie.lp a + (tz (Ie.mant a) : Int) := by
    unfold Ie.sE
    rw [if_neg (by omega), if_neg h0, hct]
  rw [v1]
  generalize Ie.mant a = M at *
  generalize tz M = t at *
  generalize Ie.lp a = p at *
  have hq : M / 2 ^ t ≤ M := Nat.div_le_self ..
  have ht : t ≤ 53 := by
    apply Nat.le_of_not_lt
    intro h
    have h3 : 1 ≤ M / 2 ^ t := Nat.pos_of_ne_zero fun e0 => by rw [e0] at h2; simp at h2
    have h4 := Nat.mul_le_mul_left (2 ^ t) h3
    have h5 : 2 ^ 53 ≤ 2 ^ t := Nat.pow_le_pow_right (by omega) (by omega)
    have h6 : (2 : Nat) ^ 53 = 9007199254740992 := by decide
    omega
  refine ⟨by rw [e1]; exact h2, by rw [e1]; omega, by omega, by omega, ?_⟩
  rw [e1, e2, show (p + (t : Int) + 1074).toNat = t + (p + 1074).toNat by omega, Nat.pow_add, ← Nat.mul_assoc, Nat.mul_comm (M / 2 ^ t), h1]

theorem num_ok {a : Nat} (hf : mag a < 9218868437227405312) : okN (nN a) (dlen (nM a)) (nM a) (Ie.sE a) = true := by
  by_cases h0 : mag a = 0
  · obtain ⟨h1, h2⟩ := num_zero h0
    unfold nN
    rw [if_pos h0, h1, h2, dlen_zero]
    decide
  · obtain ⟨h1, h2, h3, h4, -⟩ := num_parts hf h0
    have hm : nM a ≠ 0 := by intro e; rw [e] at h1; simp at h1
    have hl : dlen (nM a) ≤ 2 := (dlen_le 2 _).2 (by unfold B; omega)
    have hd : dlen (nM a) ≠ 0 := fun e => hm (dlen_eq_zero.1 e)
    have ht := dg_top hm
    have h0' : dg (nM a) 0 % 2 = 1 := by
      unfold dg
      simp only [Nat.pow_zero, Nat.div_one]
      unfold B
      omega
    unfold okN
    rw [if_neg hd]
    simp only [Bool.and_eq_true, decide_eq_true_eq, bne_iff_ne, beq_iff_eq]
    exact ⟨⟨⟨⟨by omega, ht⟩, h0'⟩, by omega⟩, by omega⟩

theorem num_of {w : World} {b a : Nat} {v : Value} (hf : mag a < 9218868437227405312) (h : Nrm w b v (neg a) (nM a) (Ie.sE a)) :
    ∃ ao cap, v = .agg #[.bool (nN a), .slice ao (dlen (nM a)) cap, .int .i64 (Ie.sE a)] ∧ Is w (.slice ao (dlen (nM a)) cap) (nM a) := by
  unfold nN
  by_cases h0 : mag a = 0
  · obtain ⟨h1, h2⟩ := num_zero h0
    rw [h1] at h
    rw [if_pos h0, h1, h2, h.nil, dlen_zero]
    exact ⟨none, 0, rfl, is_nil w⟩
  · rw [if_neg h0]
    exact h.odd (num_parts hf h0).1

theorem tf_back {a : Nat} (ha : a < 18446744073709551616) (hf : mag a < 9218868437227405312) (k : Int) (hk : 1 ≤ k ∧ k ≤ 3) : tfF (nN a) true (nM a) (Ie.sE a) k = if mag a = 0 then 0 else a := by
  obtain ⟨k, rfl⟩ : ∃ n : Nat, k = (n : Int) := ⟨k.toNat, by omega⟩
  by_cases h0 : mag a = 0
  · obtain ⟨h1, h2⟩ := num_zero h0
    unfold nN
    rw [if_pos h0, if_pos h0, h1, h2]
    have e0 : tfD 0 = 0 := by unfold tfD bl; simp
    have e1 : tfM true 0 = 0 := by unfold tfM; rw [e0]; simp
    unfold tfF
    rw [e1]
    unfold Ie.mk
    rw [if_pos (by omega), if_pos rfl]
    rfl
  · obtain ⟨h1, h2, -⟩ := num_parts hf h0
    have hb : tfD (nM a) = 0 := by
      unfold tfD
      have := (bl_le (nM a) 53).2 (by omega)
      omega
    have e1 : tfM true (nM a) = nM a := by unfold tfM; rw [hb]; simp
    unfold tfF
    rw [e1, hb, if_neg h0]
    have := Ie.mk_split a ha hf k (by omega) (by omega) 9221120237041090561
    unfold Ie.sN at this
    rw [if_neg (by omega)] at this
    unfold nN
    rw [if_neg h0]
    unfold nM
    simpa using this

theorem cmp_scale {X Y : Nat} (k : Nat) {p q : Nat} (h1 : X * 2 ^ k = p) (h2 : Y * 2 ^ k = q) : cmpI X Y = cmpI p q := by
  have hp := Nat.two_pow_pos k
  rcases cmpI_cases (X : Int) (Y : Int) with h | h | h
  · have : X * 2 ^ k < Y * 2 ^ k := Nat.mul_lt_mul_of_pos_right (by omega) hp
    rw [h.2]; unfold cmpI; rw [if_pos (by omega)]
  · have : Y * 2 ^ k < X * 2 ^ k := Nat.mul_lt_mul_of_pos_right (by omega) hp
    rw [h.2]; unfold cmpI; rw [if_neg (by omega), if_pos (by omega)]
  · have e : X = Y := by omega
    subst e
    rw [h.2]; unfold cmpI; rw [if_neg (by omega), if_neg (by omega)]

theorem ord_num {a b : Nat} (ha : mag a < 9218868437227405312) (hb : mag b < 9218868437227405312) : ordN (nN a) (nM a) (Ie.sE a) (nN b) (nM b) (Ie.sE b) = cmpI (stp a) (stp b) := by
  have sa := sgn_mag a
  have sb := sgn_mag b
  unfold ordN nN
  by_cases a0 : mag a = 0
  · obtain ⟨a1, a2⟩ := num_zero a0
    have ea : stp a = 0 := by omega
    rw [if_pos a0, a1, a2, dlen_zero, sgI_zero, ea]
    by_cases b0 : mag b = 0
    · obtain ⟨b1, b2⟩ := num_zero b0
      have eb : stp b = 0 := by omega
      rw [if_pos b0, b1, dlen_zero, sgI_zero, if_pos rfl, eb, Int.zero_mul]
      decide
    · obtain ⟨b1, -⟩ := num_parts hb b0
      have hd : dlen (nM b) ≠ 0 := fun e => by rw [dlen_eq_zero.1 e] at b1; simp at b1
      rw [if_neg b0, sgI_pos hd]
      rcases sb with ⟨s1, s2⟩ | ⟨s1, s2⟩
      · rw [s2, s1]
        simp only [Bool.false_eq_true, if_false]
        unfold cmpI
        rw [if_neg (by omega), if_pos (by omega), if_pos (by omega)]
      · rw [s2, s1]
        simp only [if_true]
        unfold cmpI
        rw [if_neg (by omega), if_neg (by omega), if_pos (by omega), if_neg (by omega), if_pos (by omega)]
  · obtain ⟨a1, a2, a3, a4, a5⟩ := num_parts ha a0
    have hda : dlen (nM a) ≠ 0 := fun e => by rw [dlen_eq_zero.1 e] at a1; simp at a1
    rw [if_neg a0, sgI_pos hda]
    by_cases b0 : mag b = 0
    · obtain ⟨b1, b2⟩ := num_zero b0
      have eb : stp b = 0 := by omega
      rw [if_pos b0, b1, dlen_zero, sgI_zero, eb]
      rcases sa with ⟨s1, s2⟩ | ⟨s1, s2⟩
      · rw [s2, s1]
        simp only [Bool.false_eq_true, if_false]
        unfold cmpI
        rw [if_neg (by omega), if_neg (by omega), if_pos (by omega), if_neg (by omega), if_pos (by omega)]
      · rw [s2, s1]
        simp only [if_true]
        unfold cmpI
        rw [if_neg (by omega), if_pos (by omega), if_pos (by omega)]
    · obtain ⟨b1, b2, b3, b4, b5⟩ := num_parts hb b0
      have hdb : dlen (nM b) ≠ 0 := fun e => by rw [dlen_eq_zero.1 e] at b1; simp at b1
      rw [if_neg b0, sgI_pos hdb]
      have key : cmpI (nM a * 2 ^ (Ie.sE a - min (Ie.sE a) (Ie.sE b)).toNat : Nat) (nM b * 2 ^ (Ie.sE b - min (Ie.sE a) (Ie.sE b)).toNat : Nat) = cmpI (mag a) (mag b) := by
        have k1 := cmp_scale (X := nM a * 2 ^ (Ie.sE a - min (Ie.sE a) (Ie.sE b)).toNat) (Y := nM b * 2 ^ (Ie.sE b - min (Ie.sE a) (Ie.sE b)).toNat) (min (Ie.sE a) (Ie.sE b) + 1074).toNat (p := val (mag a)) (q := val (mag b))
          (by rw [Nat.mul_assoc, ← Nat.pow_add, ← a5]; congr 2; omega) (by rw [Nat.mul_assoc, ← Nat.pow_add, ← b5]; congr 2; omega)
        rw [k1]
        have g1 := val_lt (mag a) (mag b)
        have g2 := val_lt (mag b) (mag a)
        rcases cmpI_cases (mag a : Int) (mag b : Int) with h | h | h
        · rw [h.2]; unfold cmpI; rw [if_pos (by omega)]
        · rw [h.2]; unfold cmpI; rw [if_neg (by omega), if_pos (by omega)]
        · rw [h.2]; unfold cmpI; rw [if_neg (by omega), if_neg (by omega)]
      rw [key]
      rcases sa with ⟨s1, s2⟩ | ⟨s1, s2⟩ <;> rcases sb with ⟨t1, t2⟩ | ⟨t1, t2⟩ <;> rw [s1, s2, t1, t2]
      · simp only [Bool.false_eq_true, if_false, if_true]
        omega
      · simp only [Bool.false_eq_true, if_false, if_true]
        rw [if_neg (by omega)]
        unfold cmpI
        rw [if_neg (by omega), if_pos (by omega), if_neg (by omega), if_pos (by omega)]
      · simp only [Bool.false_eq_true, if_false, if_true]
        rw [if_neg (by omega)]
        unfold cmpI
        rw [if_pos (by omega), if_pos (by omega)]
      · simp only [if_true]
        rcases cmpI_cases (mag a : Int) (mag b : Int) with h | h | h
        · rw [h.2]; unfold cmpI; rw [if_neg (by omega), if_pos (by omega)]; rfl
        · rw [h.2]; unfold cmpI; rw [if_pos (by omega)]; rfl
        · rw [h.2]; unfold cmpI; rw [if_neg (by omega), if_neg (by omega)]; rfl

end Go.Proofs.YtmhpicccfaklcaaGreatDoor

/- What a number is rounded to, by its value. -/
namespace Go.Proofs.YtmhpicccfaklcaaGreatDoor
set_option linter.unusedVariables false
set_option linter.unusedSimpArgs false
open Go.RowKit Go.Fl64
open Ie

theorem rnd0 (X k : Nat) : rnd X k ((0 : Nat) : Int) = X / 2 ^ k := by
  have h1 : ¬ (((0 : Nat) : Int) = 1) := by decide
  have h2 : ¬ (((0 : Nat) : Int) = 2) := by decide
  simp only [rnd, Ie.rup, if_neg h1, if_neg h2, Bool.false_eq_true, if_false]
theorem rnd2 (X k : Nat) : rnd X k ((2 : Nat) : Int) = if X % 2 ^ k = 0 then X / 2 ^ k else X / 2 ^ k + 1 := by
  have h1 : ¬ (((2 : Nat) : Int) = 1) := by decide
  have h2 : ((2 : Nat) : Int) = 2 := by decide
  simp only [rnd, Ie.rup, if_neg h1, if_pos h2]
  by_cases h : X % 2 ^ k = 0
  · rw [if_pos h, decide_eq_false (by simpa using h)]; rfl
  · rw [if_neg h, decide_eq_true h]; rfl
theorem rnd1 (X k : Nat) : rnd X k ((1 : Nat) : Int) = if 2 * (X % 2 ^ k) < 2 ^ k then X / 2 ^ k else if 2 * (X % 2 ^ k) = 2 ^ k then X / 2 ^ k + X / 2 ^ k % 2 else X / 2 ^ k + 1 := by
  have h0 : ((1 : Nat) : Int) = 1 := by decide
  simp only [rnd, Ie.rup, if_pos h0]
  by_cases h1 : 2 * (X % 2 ^ k) < 2 ^ k
  · rw [if_pos h1, decide_eq_false (show ¬ 2 ^ k < 2 * (X % 2 ^ k) by omega), decide_eq_false (show ¬ 2 * (X % 2 ^ k) = 2 ^ k by omega)]; rfl
  · rw [if_neg h1]
    by_cases h2 : 2 * (X % 2 ^ k) = 2 ^ k
    · rw [if_pos h2, decide_eq_false (show ¬ 2 ^ k < 2 * (X % 2 ^ k) by omega), decide_eq_true h2]
      by_cases h3 : X / 2 ^ k % 2 = 1
      · rw [decide_eq_true h3, h3]; rfl
      · rw [decide_eq_false h3, show X / 2 ^ k % 2 = 0 by omega]; rfl
    · rw [if_neg h2, decide_eq_true (show 2 ^ k < 2 * (X % 2 ^ k) by omega)]; rfl
/-- the body that x·2^e is rounded to, with no greatest one -/
def rwb (x : Nat) (e : Int) (way : Nat) : Nat := (raw (tfM true x) (e + (tfD x : Int)) (way : Int)).toNat
theorem rwb_rounds {x : Nat} {e : Int} (h0 : x ≠ 0) {K : Nat} (hK : 1200 ≤ K) (hK2 : 64 - e ≤ K) {way : Nat} : Rounds (x * 2 ^ (e + K).toNat) (2 ^ (K - 1074)) (rwb x e way) way := by
  obtain ⟨j, X, k, hR, hr, -, hl⟩ := raw_is (e := e) h0
  have L := hR.lies (K := K) (by omega) (by omega) (by omega)
  refine ⟨⟨j * 4503599627370496 + X / 2 ^ k, ⟨L.lo, L.hi⟩, ?_, ?_, ?_⟩⟩
  · intro h; subst h
    unfold rwb
    rw [hr, Int.toNat_natCast, rnd0]
  · intro h; subst h
    unfold rwb
    rw [hr, Int.toNat_natCast, rnd2]
    by_cases hx : X % 2 ^ k = 0
    · rw [if_pos hx, if_pos (L.ex.1 hx)]
    · rw [if_neg hx, if_neg (fun h => hx (L.ex.2 h)), Nat.add_assoc]
  · intro h; subst h
    unfold rwb
    rw [hr, Int.toNat_natCast, rnd1]
    have hpar : (j * 4503599627370496 + X / 2 ^ k) % 2 = X / 2 ^ k % 2 := by omega
    by_cases h1 : 2 * (X % 2 ^ k) < 2 ^ k
    · rw [if_pos h1, if_pos (L.half_lt.1 h1)]
    · rw [if_neg h1, if_neg (fun h => h1 (L.half_lt.2 h))]
      by_cases h2 : 2 * (X % 2 ^ k) = 2 ^ k
      · rw [if_pos h2, if_pos (L.half_eq.1 h2), hpar, Nat.add_assoc]
      · rw [if_neg h2, if_neg (fun h => h2 (L.half_eq.2 h)), Nat.add_assoc]
/-- the body as it is held in bounds -/
def bdy (x : Nat) (e : Int) (way : Nat) : Nat := if x = 0 then 0 else if rwb x e way < 9218868437227405312 then rwb x e way else if way = 0 then 9218868437227405311 else 9218868437227405312
theorem raw_nn {x : Nat} {e : Int} (h0 : x ≠ 0) (way : Nat) : raw (tfM true x) (e + (tfD x : Int)) (way : Int) = (rwb x e way : Int) := by
  obtain ⟨j, X, k, -, hr, -, -⟩ := raw_is (e := e) h0
  unfold rwb
  rw [hr]; rfl
theorem bod_eq {x : Nat} {e : Int} (h0 : x ≠ 0) (way : Nat) : (bod (tfM true x) (e + (tfD x : Int)) (way : Int)).toNat = bdy x e way := by
  unfold bod bdy
  rw [if_neg h0, raw_nn h0]
  by_cases h1 : rwb x e way < 9218868437227405312
  · rw [if_pos (by omega), if_pos h1]; rfl
  · rw [if_neg (by omega), if_neg h1]
    by_cases h2 : way = 0
    · subst h2; rfl
    · rw [if_neg h2]
      have : ((way : Int) == 0) = false := by simp; omega
      rw [this]; rfl
end Go.Proofs.YtmhpicccfaklcaaGreatDoor

/- DyadRing answers true. -/
namespace Go.Proofs.YtmhpicccfaklcaaGreatDoor
set_option linter.unusedVariables false
set_option linter.unusedSimpArgs false
open Go.RowKit Go.Fl64

abbrev Tr := Bool × Nat × Int
def FitsT (lo hi : Int) (t : Tr) : Prop := Fits lo hi t.2.1 t.2.2
def vzT (K : Nat) (t : Tr) : Int := vz K t.1 t.2.1 t.2.2
def cnT (t : Tr) : Tr := cn t.1 t.2.1 t.2.2
def sumT (t1 t2 : Tr) : Tr := sumN t1.1 t1.2.1 t1.2.2 t2.1 t2.2.1 t2.2.2
def mulT (t1 t2 : Tr) : Tr := (!(t1.1 == t2.1), t1.2.1 * t2.2.1, t1.2.2 + t2.2.2)
def negT (t : Tr) : Tr := (!t.1 && decide (0 < dlen t.2.1), t.2.1, t.2.2)

theorem cnT_eq {K : Nat} {t t' : Tr} (h1 : 0 ≤ t.2.2 + K) (h2 : 0 ≤ t'.2.2 + K) (h : vzT K t = vzT K t') : cnT t = cnT t' := cn_eq h1 h2 h
theorem vzT_cn {K : Nat} {t : Tr} (h : 0 ≤ t.2.2 + K) : vzT K (cnT t) = vzT K t := vz_cn h
theorem vzT_sum {K : Nat} {t1 t2 : Tr} (h1 : 0 ≤ t1.2.2 + K) (h2 : 0 ≤ t2.2.2 + K) : vzT K (sumT t1 t2) = vzT K t1 + vzT K t2 := vz_sumN h1 h2
theorem vzT_mul {K L : Nat} {t1 t2 : Tr} (h1 : 0 ≤ t1.2.2 + K) (h2 : 0 ≤ t2.2.2 + L) : vzT (K + L) (mulT t1 t2) = vzT K t1 * vzT L t2 := vz_mul h1 h2
theorem vzT_neg {K : Nat} {t : Tr} : vzT K (negT t) = - vzT K t := by
  obtain ⟨s, x, e⟩ := t
  unfold vzT negT
  simp only
  by_cases h0 : x = 0
  · subst h0; rw [vz_zero, vz_zero]; rfl
  · have : 0 < dlen x := Nat.pos_of_ne_zero fun e => h0 (dlen_eq_zero.1 e)
    rw [decide_eq_true this, Bool.and_true]
    unfold vz
    rw [← Int.neg_mul]
    congr 1
    cases s <;> simp [sv]
theorem exp_sum {K : Nat} {t1 t2 : Tr} (h1 : 0 ≤ t1.2.2 + K) (h2 : 0 ≤ t2.2.2 + K) : 0 ≤ (sumT t1 t2).2.2 + K := by
  unfold sumT sumN
  split
  · exact h2
  · split
    · exact h1
    · split
      · show 0 ≤ min _ _ + _; omega
      · split
        · show 0 ≤ min _ _ + _; omega
        · show 0 ≤ min _ _ + _; omega

theorem add_T {lo hi : Int} {t1 t2 : Tr} (o1 : Ok t1) (o2 : Ok t2) (f1 : FitsT lo hi t1) (f2 : FitsT lo hi t2) (hb : hi + 1 - lo ≤ 65536) (h1 : -65536 ≤ lo) (h2 : hi + 1 ≤ 65536) :
    Op2 67 t1 t2 (cnT (sumT t1 t2)) ∧ Ok (cnT (sumT t1 t2)) ∧ FitsT lo (hi + 1) (cnT (sumT t1 t2)) := by
  have hf : FitsT lo (hi + 1) (sumT t1 t2) := Fits.sum f1 f2
  have hok := Fits.ok (s := (sumT t1 t2).1) hf hb h1 h2
  exact ⟨add_op o1 o2 hok, ok_cn hok, hf.cn⟩
theorem exp_ok {K : Nat} {lo hi : Int} {t : Tr} (o : Ok t) (f : FitsT lo hi t) (h : 0 ≤ lo + K) : 0 ≤ t.2.2 + K := by
  rcases f with h0 | ⟨h1, -, -⟩
  · have := o.facts.2.2.2.1 h0
    rw [this]
    show (0 : Int) ≤ 0 + (K : Int)
    omega
  · omega

theorem same_T (t : Tr) (ht : dlen t.2.1 ≤ 2048) : Is2 12 t t := by
  intro W X Y hX hY
  obtain ⟨ua, uc, rfl, i1⟩ := hX
  obtain ⟨va, vc, rfl, i2⟩ := hY
  obtain ⟨_, _, e1, -, -, a1⟩ := i1
  obtain ⟨_, _, e2, -, -, a2⟩ := i2
  simp only [Value.slice.injEq] at e1 e2
  obtain ⟨rfl, -, rfl⟩ := e1
  obtain ⟨rfl, -, rfl⟩ := e2
  exact same_1 _ _ _ _ _ _ _ _ W a1 a2 (by omega)
theorem valid_T {t : Tr} (o : Ok t) : Is1 10 t (.bool true) := by
  intro W X hX
  obtain ⟨ua, uc, rfl, i1⟩ := hX
  obtain ⟨_, _, e1, -, -, a1⟩ := i1
  simp only [Value.slice.injEq] at e1
  obtain ⟨rfl, -, rfl⟩ := e1
  have hl := o.facts.1
  refine (c18 a1 (by omega)).mono ?_
  rintro r w' ⟨rfl, rfl⟩
  unfold Ok at o
  exact ⟨by rw [o], (Below.refl _ _).alloc (Nat.le_refl _) _⟩
theorem sign_T {t : Tr} (o : Ok t) : Is1 17 t (.int .i64 (sgI t.1 (dlen t.2.1))) := by
  intro W X hX
  obtain ⟨ua, uc, rfl, i1⟩ := hX
  have hl := o.facts.1
  exact sign_ok i1 (by omega) o

theorem fine_T {ng : Bool} {n z : Nat} {e : Int} (h : Fine ng n z e) (hz : dlen z ≤ n) : Ok (ng, z, e) ∧ FitsT (-5000) 11400 (ng, z, e) := by
  obtain ⟨h1, h2, h3, h4⟩ := h
  have hl : dlen z = n := by
    refine dlen_here hz ?_
    by_cases h0 : n = 0
    · exact .inl h0
    · right
      unfold okN at h1
      rw [if_neg h0] at h1
      simp only [Bool.and_eq_true, bne_iff_ne, ne_eq] at h1
      exact h1.1.1.1.2
  refine ⟨?_, .inr ⟨h3, by show e ≤ 11400; omega, ?_⟩⟩
  · unfold Ok; simp only; rw [hl]; exact h1
  · show z < 2 ^ (11400 - e).toNat
    have hB : ∀ n, B ^ n = 2 ^ (32 * n) := fun n => by
      have : (B : Nat) = 2 ^ 32 := by decide
      rw [this, ← Nat.pow_mul]
    refine Nat.lt_of_lt_of_le ((dlen_le n z).1 hz) ?_
    rw [hB]
    exact Nat.pow_le_pow_right (by omega) (by omega)

end Go.Proofs.YtmhpicccfaklcaaGreatDoor
