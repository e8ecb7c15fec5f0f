/- Own work: contracts of the program's functions, part 15: O2 O3. -/
import Derived.Test.YtejefbnfmglfeaaGreatDoorA14

/- DyadOwn: the law's walk. -/
namespace Go.Proofs.YtejefbnfmglfeaaGreatDoor
set_option linter.unusedVariables false
set_option linter.unusedSimpArgs false
open Go.RowKit

/-- what the overwriting leaves -/
structure Iv (w8 w12 w14 : World) (AO : Nat → Option Addr) (NN : Nat → Nat) (wr : World) : Prop where
  below : Below w8.heap.size w8 wr
  above : ∀ b, w12.heap.size ≤ b → wr.heap[b]? = w14.heap[b]?
  rows : ∀ i, i < 4 → NN i = 0 ∨ ∃ g c, AO i = some ⟨g, 0, none⟩ ∧ w8.heap.size ≤ g ∧ g < w12.heap.size ∧ wr.heap[g]? = some (.cells c 55 (0, 0)) ∧ NN i ≤ c.size

theorem Iv.write {w8 w12 w14 wr : World} {AO : Nat → Option Addr} {NN : Nat → Nat} (h : Iv w8 w12 w14 AO NN wr) {i k : Nat} (hi : i < 4) (hk : k < NN i) :
    ∃ g u, AO i = some ⟨g, 0, none⟩ ∧ wr.cell? ⟨g, k, none⟩ = some u ∧ wr.frozen? ⟨g, k, none⟩ = false ∧ ∀ v, Iv w8 w12 w14 AO NN (wr.setCell ⟨g, k, none⟩ v) := by
  rcases h.rows i hi with h0 | ⟨g, c, h1, h2, h3, h4, h5⟩
  · omega
  · refine ⟨g, c[k], h1, by simp [World.cell?, h4, show k < c.size by omega], by simp [World.frozen?, h4], fun v => ⟨h.below.setCell h2 _, fun b hb => ?_, fun j hj => ?_⟩⟩
    · rw [setCell_block _ _ (by omega)]; exact h.above b hb
    · rcases h.rows j hj with h0 | ⟨g', c', q1, q2, q3, q4, q5⟩
      · exact .inl h0
      · right
        by_cases e : g' = g
        · subst e
          rw [h4] at q4
          simp only [Option.some.injEq, Obj.cells.injEq] at q4
          obtain ⟨rfl, -, -⟩ := q4
          exact ⟨g', _, q1, q2, q3, by simp [World.setCell, Array.getElem?_modify, h4]; rfl, by simpa using q5⟩
        · exact ⟨g', c', q1, q2, q3, by rw [setCell_block _ _ e]; exact q4, q5⟩

def pick4 {α : Type} (a b c d : α) : Nat → α
  | 0 => a
  | 1 => b
  | 2 => c
  | _ => d
theorem lt4 {k : Nat} (h : k < 4) : k = 0 ∨ k = 1 ∨ k = 2 ∨ k = 3 := by omega

theorem rn_above {w14 wr : World} {B : Nat} {A : Value} {t : Bool × Nat × Int} (h : RN w14 B A t) (ha : ∀ b, B ≤ b → wr.heap[b]? = w14.heap[b]?) : RN wr B A t := by
  obtain ⟨ao, cap, h1, h2, b, o, h3, h4⟩ := h
  refine ⟨ao, cap, h1, h2, b, o, h3, fun i hi => ?_⟩
  have hb : B ≤ b := h2 _ (h3 (by omega)) (by omega)
  rw [← h4 i hi]
  simp [World.cell?, ha b hb]

structure OwnK (w : World) (A0 A1 : Value) (NG0 NG1 : Bool) (LN0 Z0 LN1 Z1 : Nat) (E0 E01 : Int) (PX PY : World → Value → Prop) (t : Bool × Nat × Int) (E E4 : Int) : Prop where
  lPX : Lasts PX
  lPY : Lasts PY
  e4 : 0 ≤ E4
  k1 : ∀ W X Y, Below w.heap.size w W → PX W X → PY W Y → Calls Tryz.prog 28 #[X, Y] W fun r w' => OutF W (fun W A => PN W A t) E r w'
  k2 : ∀ W X, PX W X → Calls Tryz.prog 13 #[X] W fun r w' => OutG W r w'
  k3 : ∀ W X, PX W X → Calls Tryz.prog 15 #[X] W fun r w' => OutG W r w'
  k4 : ∀ W X, PX W X → Calls Tryz.prog 34 #[X, .int .i64 3] W fun r w' => OutF W Any E4 r w'
  k5 : ∀ W, Below w.heap.size w W → Calls Tryz.prog 29 #[A0, A1] W fun r w' => ∃ s ao n cap e, r = .returned (.tuple #[.agg #[.bool s, .slice ao n cap, .int .i64 e], .int .i64 E]) ∧ RN w' W.heap.size (.agg #[.bool s, .slice ao n cap, .int .i64 e]) t ∧ Below W.heap.size W w'
  s1 : ∀ W A C, PN W A t → (∃ b, RN W b C t) → Calls Tryz.prog 12 #[A, C] W fun r w' => r = .returned (.bool true) ∧ Below W.heap.size W w'
  s5 : ∀ W X, Below w.heap.size w W → PX W X → Calls Tryz.prog 12 #[X, A0] W fun r w' => r = .returned (.bool true) ∧ Below W.heap.size W w'
  s6 : ∀ W Y, Below w.heap.size w W → PY W Y → Calls Tryz.prog 12 #[Y, A1] W fun r w' => r = .returned (.bool true) ∧ Below W.heap.size W w'
  gx : ∀ W v, Below w.heap.size w W → (∃ b, Dn W b v (LN0) (Z0)) → PX W (.agg #[.bool NG0, v, .int .i64 E0])
  gy : ∀ W v, Below w.heap.size w W → (∃ b, Dn W b v (LN1) (Z1)) → PY W (.agg #[.bool NG1, v, .int .i64 E01])
  works : ∀ W, Below w.heap.size w W → Calls Tryz.prog 27 #[] W fun r w' => r = .returned (.bool true) ∧ Below W.heap.size W w'

set_option maxHeartbeats 8000000 in
set_option maxRecDepth 200000 in
theorem law10_1 (ng : Nat → Bool) (ao : Nat → Option Addr) (ln cp z : Nat → Nat) (e : Nat → Int) (w : World) (hA : ∀ i, i < 2 → Arg w (ao i) (ln i) (cp i) (z i))
    {PX PY : World → Value → Prop} {t : Bool × Nat × Int} {E E4 : Int} (K : OwnK w (.agg #[.bool (ng 0), .slice (ao 0) (ln 0) (cp 0), .int .i64 (e 0)]) (.agg #[.bool (ng 1), .slice (ao 1) (ln 1) (cp 1), .int .i64 (e 1)]) (ng 0) (ng 1) (ln 0) (z 0) (ln 1) (z 1) (e 0) (e 1) PX PY t E E4) :
    Calls Tryz.prog 8 #[.agg #[.bool (ng 0), .slice (ao 0) (ln 0) (cp 0), .int .i64 (e 0)], .agg #[.bool (ng 1), .slice (ao 1) (ln 1) (cp 1), .int .i64 (e 1)]] w fun r w' => r = .returned (.bool true) ∧ Below w.heap.size w w' := by
  obtain ⟨W, hW⟩ : ∃ W, W = (w.alloc (.cells #[.bool (ng 0), .slice (ao 0) (ln 0) (cp 0), .int .i64 (e 0)] 24)).alloc (.cells #[.bool (ng 1), .slice (ao 1) (ln 1) (cp 1), .int .i64 (e 1)] 24) := ⟨_, rfl⟩
  obtain ⟨hs0, hs1, hsz, hBW⟩ := two29 _ _ hW
  have HBW : Hid (Below w.heap.size w W) := hBW
  have HA3 : ∀ i, i < 2 → Arg W (ao i) (ln i) (cp i) (z i) := fun i hi => (hA i hi).later hBW
  clear hBW hA hsz
  go_enter Tryz.func8, Tryz.ntmps8
  go_upto_region 1 with fail
  rw [← hW]
  clear hW
  go_cut [5, 6] from 20 to 23 (fun p q wx => ∃ (g : Nat → Nat) (v : Nat → Value), p = .pointer (some ⟨g 0, 0, none⟩) ∧ q = .pointer (some ⟨g 1, 0, none⟩) ∧ Hid (Given W wx 2 ng ln z e g v))
  case first =>
    refine give_region 2 (fun k => 2 + k) (fun k => 20 + 2 * k) (fun k => 21 + 2 * k) (fun k => 5 + k) (fun k => w.heap.size + k) ng ao ln cp z e W _ rfl (ord_of (by kernel_rfl)) ?_ ?_ ?_ ?_ ?_ ?_ ?_ ?_ ?_ ?_ ?_ ?_
    · intro k hk
      rcases lt2 hk with rfl | rfl
      · exact ⟨rfl, hs0, HA3 0 hk⟩
      · exact ⟨rfl, hs1, HA3 1 hk⟩
    · intro k hk
      rcases lt2 hk with rfl | rfl <;> decide
    · intro k hk
      rcases lt2 hk with rfl | rfl <;> exact ⟨_, rfl, rfl, rfl, rfl⟩
    · intro k hk
      rcases lt2 hk with rfl | rfl <;> exact ⟨_, rfl, rfl, ⟨_, rfl⟩, rfl, ⟨_, .data⟩, by simp, rfl, rfl⟩
    · intro k hk
      rcases lt2 hk with rfl | rfl <;> exact ⟨_, rfl, rfl, rfl, rfl⟩
    · intro k hk
      rcases lt2 hk with rfl | rfl <;> exact ⟨_, rfl, rfl, rfl, rfl, ⟨⟨_, .data⟩, by simp, rfl, rfl⟩, ⟨_, .data⟩, by simp, rfl, rfl⟩
    · show ∀ j, j < 2 * 2 → gslot (fun k => 20 + 2 * k) (fun k => 21 + 2 * k) j < 109
      decide
    · show ∀ k, k < 2 → 5 + k < 109
      decide
    · decide
    · decide
    · decide
    · intro u v g wx hb hk
      simp only [putL, gslot, show List.range (2 * 2) = [0, 1, 2, 3] from rfl, show List.range 2 = [0, 1] from rfl, List.map_cons, List.map_nil, List.cons_append, List.nil_append, List.foldl_cons, List.foldl_nil, Nat.reduceMod, Nat.reduceDiv, Nat.reduceMul, Nat.reduceAdd, reduceIte, Nat.one_ne_zero, Act.put, List.setIfInBounds_toArray, List.set_cons_zero, List.set_cons_succ]
      go_wp2_with fail
      go_meet
      exact ⟨g, v, rfl, rfl, hb, hk⟩
  case rest =>
    obtain ⟨w8, hw8⟩ : ∃ w8 : World, w8 = wc := ⟨_, rfl⟩
    subst hw8
    obtain ⟨g, v, rfl, rfl, HG⟩ := hcut
    have hB8 : Below w.heap.size w w8 := HBW.out.trans (HG.out.1.mono HBW.out.size)
    have b0 : ∃ ak ck, BB 25 PX w8 (g 0) (ng 0) ak (ln 0) ck (e 0) := by
      obtain ⟨h1, h2, h3⟩ := HG.out.2 0 (by omega)
      have hp := K.gx w8 _ hB8 ⟨_, h1⟩
      obtain ⟨ak, ck, hv, -, -⟩ := h1.at
      rw [hv] at hp h3
      exact ⟨ak, ck, h3, hp⟩
    have b1 : ∃ ak ck, BB 25 PY w8 (g 1) (ng 1) ak (ln 1) ck (e 1) := by
      obtain ⟨h1, h2, h3⟩ := HG.out.2 1 (by omega)
      have hp := K.gy w8 _ hB8 ⟨_, h1⟩
      obtain ⟨ak, ck, hv, -, -⟩ := h1.at
      rw [hv] at hp h3
      exact ⟨ak, ck, h3, hp⟩
    obtain ⟨xa, xc, X0⟩ := b0
    obtain ⟨ya, yc, X1⟩ := b1
    replace X0 : Hid (BB 25 PX w8 (g 0) (ng 0) xa (ln 0) xc (e 0)) := X0
    replace X1 : Hid (BB 25 PY w8 (g 1) (ng 1) ya (ln 1) yc (e 1)) := X1
    have X2 : Hid (BB 24 Any w8 (w.heap.size) (ng 0) (ao 0) (ln 0) (cp 0) (e 0)) := ⟨box_later hs0 HG.out.1 (Array.getElem?_eq_some_iff.1 hs0).1, trivial⟩
    have X3 : Hid (BB 24 Any w8 (w.heap.size + 1) (ng 1) (ao 1) (ln 1) (cp 1) (e 1)) := ⟨box_later hs1 HG.out.1 (Array.getElem?_eq_some_iff.1 hs1).1, trivial⟩
    have Y0 : Hid (BB 25 PX w8 (g 0) (ng 0) xa (ln 0) xc (e 0)) := X0
    have Y1 : Hid (BB 25 PY w8 (g 1) (ng 1) ya (ln 1) yc (e 1)) := X1
    have Y2 : Hid (BB 24 Any w8 (w.heap.size) (ng 0) (ao 0) (ln 0) (cp 0) (e 0)) := X2
    have Y3 : Hid (BB 24 Any w8 (w.heap.size + 1) (ng 1) (ao 1) (ln 1) (cp 1) (e 1)) := X3
    have HB8 : Hid (Below w.heap.size w w8) := hB8
    have HZ8 : Hid (Below w8.heap.size w8 w8) := Below.refl _ _
    have HC8 : Hid (Below w.heap.size w w8) := hB8
    clear HG hs0 hs1 HA3 hB8
    obtain ⟨⟨p0, p1, p2⟩, -⟩ := box_cells X0.out.1
    obtain ⟨⟨q0, q1, q2⟩, -⟩ := box_cells X1.out.1
    have kc := K.k1 w8 _ _ HB8.out X0.out.2 X1.out.2
    go_wp2_with fail
    refine kc.mono ?_
    rintro r v9 ⟨s9, a9, n9, c9, e9, rfl, hp, hf, hb⟩
    obtain ⟨w9, hW9⟩ : ∃ w9, w9 = v9.alloc (.cells #[.bool s9, .slice a9 n9 c9, .int .i64 e9] 25) := ⟨_, rfl⟩
    have hb' : Below w8.heap.size w8 w9 := by rw [hW9]; exact hb.alloc hb.size _
    have X4 : Hid (BB 25 Any w9 (v9.heap.size) (s9) a9 (n9) c9 (e9)) := (by rw [hW9]; exact BB.new Any.lasts trivial : BB 25 Any w9 (v9.heap.size) (s9) a9 (n9) c9 (e9))
    replace X0 : Hid (BB 25 PX w9 (g 0) (ng 0) xa (ln 0) xc (e 0)) := X0.out.later K.lPX hb'
    replace X1 : Hid (BB 25 PY w9 (g 1) (ng 1) ya (ln 1) yc (e 1)) := X1.out.later K.lPY hb'
    replace X2 : Hid (BB 24 Any w9 (w.heap.size) (ng 0) (ao 0) (ln 0) (cp 0) (e 0)) := X2.out.later Any.lasts hb'
    replace X3 : Hid (BB 24 Any w9 (w.heap.size + 1) (ng 1) (ao 1) (ln 1) (cp 1) (e 1)) := X3.out.later Any.lasts hb'
    have F9 : Hid (FW w9 w8.heap.size a9 n9) := (by rw [hW9]; exact (hf.mono HZ8.out.size).later ((Below.refl _ _).alloc (Nat.le_refl _) _) : FW w9 w8.heap.size a9 n9)
    have HB9 : Hid (Below w.heap.size w w9) := HB8.out.trans (hb'.mono HB8.out.size)
    have HZ9 : Hid (Below w8.heap.size w8 w9) := HZ8.out.trans (hb'.mono HZ8.out.size)
    clear kc hb hb' hp hf p0 p1 p2 q0 q1 q2 HB8 HZ8
    obtain ⟨⟨p0, p1, p2⟩, -⟩ := box_cells X0.out.1
    have kc := K.k2 w9 _ X0.out.2
    rw [hW9] at p0 p1 p2
    go_wp2_with fail
    rw [← hW9]
    clear hW9
    refine kc.mono ?_
    rintro r v10 ⟨s10, a10, n10, c10, e10, rfl, hf, hb⟩
    obtain ⟨w10, hW10⟩ : ∃ w10, w10 = v10.alloc (.cells #[.bool s10, .slice a10 n10 c10, .int .i64 e10] 25) := ⟨_, rfl⟩
    have hb' : Below w9.heap.size w9 w10 := by rw [hW10]; exact hb.alloc hb.size _
    have X5 : Hid (BB 25 Any w10 (v10.heap.size) (s10) a10 (n10) c10 (e10)) := (by rw [hW10]; exact BB.new Any.lasts trivial : BB 25 Any w10 (v10.heap.size) (s10) a10 (n10) c10 (e10))
    replace X0 : Hid (BB 25 PX w10 (g 0) (ng 0) xa (ln 0) xc (e 0)) := X0.out.later K.lPX hb'
    replace X1 : Hid (BB 25 PY w10 (g 1) (ng 1) ya (ln 1) yc (e 1)) := X1.out.later K.lPY hb'
    replace X2 : Hid (BB 24 Any w10 (w.heap.size) (ng 0) (ao 0) (ln 0) (cp 0) (e 0)) := X2.out.later Any.lasts hb'
    replace X3 : Hid (BB 24 Any w10 (w.heap.size + 1) (ng 1) (ao 1) (ln 1) (cp 1) (e 1)) := X3.out.later Any.lasts hb'
    replace X4 : Hid (BB 25 Any w10 (v9.heap.size) (s9) a9 (n9) c9 (e9)) := X4.out.later Any.lasts hb'
    replace F9 : Hid (FW w10 w8.heap.size a9 n9) := F9.out.later hb'
    have F10 : Hid (FW w10 w8.heap.size a10 n10) := (by rw [hW10]; exact (hf.mono HZ9.out.size).later ((Below.refl _ _).alloc (Nat.le_refl _) _) : FW w10 w8.heap.size a10 n10)
    have HB10 : Hid (Below w.heap.size w w10) := HB9.out.trans (hb'.mono HB9.out.size)
    have HZ10 : Hid (Below w8.heap.size w8 w10) := HZ9.out.trans (hb'.mono HZ9.out.size)
    clear kc hb hb' hf p0 p1 p2 HB9 HZ9
    obtain ⟨⟨p0, p1, p2⟩, -⟩ := box_cells X0.out.1
    have kc := K.k3 w10 _ X0.out.2
    rw [hW10] at p0 p1 p2
    go_wp2_with fail
    rw [← hW10]
    clear hW10
    refine kc.mono ?_
    rintro r v11 ⟨s11, a11, n11, c11, e11, rfl, hf, hb⟩
    obtain ⟨w11, hW11⟩ : ∃ w11, w11 = v11.alloc (.cells #[.bool s11, .slice a11 n11 c11, .int .i64 e11] 25) := ⟨_, rfl⟩
    have hb' : Below w10.heap.size w10 w11 := by rw [hW11]; exact hb.alloc hb.size _
    have X6 : Hid (BB 25 Any w11 (v11.heap.size) (s11) a11 (n11) c11 (e11)) := (by rw [hW11]; exact BB.new Any.lasts trivial : BB 25 Any w11 (v11.heap.size) (s11) a11 (n11) c11 (e11))
    replace X0 : Hid (BB 25 PX w11 (g 0) (ng 0) xa (ln 0) xc (e 0)) := X0.out.later K.lPX hb'
    replace X1 : Hid (BB 25 PY w11 (g 1) (ng 1) ya (ln 1) yc (e 1)) := X1.out.later K.lPY hb'
    replace X2 : Hid (BB 24 Any w11 (w.heap.size) (ng 0) (ao 0) (ln 0) (cp 0) (e 0)) := X2.out.later Any.lasts hb'
    replace X3 : Hid (BB 24 Any w11 (w.heap.size + 1) (ng 1) (ao 1) (ln 1) (cp 1) (e 1)) := X3.out.later Any.lasts hb'
    replace X4 : Hid (BB 25 Any w11 (v9.heap.size) (s9) a9 (n9) c9 (e9)) := X4.out.later Any.lasts hb'
    replace X5 : Hid (BB 25 Any w11 (v10.heap.size) (s10) a10 (n10) c10 (e10)) := X5.out.later Any.lasts hb'
    replace F9 : Hid (FW w11 w8.heap.size a9 n9) := F9.out.later hb'
    replace F10 : Hid (FW w11 w8.heap.size a10 n10) := F10.out.later hb'
    have F11 : Hid (FW w11 w8.heap.size a11 n11) := (by rw [hW11]; exact (hf.mono HZ10.out.size).later ((Below.refl _ _).alloc (Nat.le_refl _) _) : FW w11 w8.heap.size a11 n11)
    have HB11 : Hid (Below w.heap.size w w11) := HB10.out.trans (hb'.mono HB10.out.size)
    have HZ11 : Hid (Below w8.heap.size w8 w11) := HZ10.out.trans (hb'.mono HZ10.out.size)
    clear kc hb hb' hf p0 p1 p2 HB10 HZ10
    obtain ⟨⟨p0, p1, p2⟩, -⟩ := box_cells X0.out.1
    have kc := K.k4 w11 _ X0.out.2
    rw [hW11] at p0 p1 p2
    go_wp2_with fail
    rw [← hW11]
    clear hW11
    refine kc.mono ?_
    rintro r v12 ⟨s12, a12, n12, c12, e12, rfl, hp, hf, hb⟩
    obtain ⟨w12, hW12⟩ : ∃ w12, w12 = v12.alloc (.cells #[.bool s12, .slice a12 n12 c12, .int .i64 e12] 25) := ⟨_, rfl⟩
    have hb' : Below w11.heap.size w11 w12 := by rw [hW12]; exact hb.alloc hb.size _
    have X7 : Hid (BB 25 Any w12 (v12.heap.size) (s12) a12 (n12) c12 (e12)) := (by rw [hW12]; exact BB.new Any.lasts trivial : BB 25 Any w12 (v12.heap.size) (s12) a12 (n12) c12 (e12))
    replace X0 : Hid (BB 25 PX w12 (g 0) (ng 0) xa (ln 0) xc (e 0)) := X0.out.later K.lPX hb'
    replace X1 : Hid (BB 25 PY w12 (g 1) (ng 1) ya (ln 1) yc (e 1)) := X1.out.later K.lPY hb'
    replace X2 : Hid (BB 24 Any w12 (w.heap.size) (ng 0) (ao 0) (ln 0) (cp 0) (e 0)) := X2.out.later Any.lasts hb'
    replace X3 : Hid (BB 24 Any w12 (w.heap.size + 1) (ng 1) (ao 1) (ln 1) (cp 1) (e 1)) := X3.out.later Any.lasts hb'
    replace X4 : Hid (BB 25 Any w12 (v9.heap.size) (s9) a9 (n9) c9 (e9)) := X4.out.later Any.lasts hb'
    replace X5 : Hid (BB 25 Any w12 (v10.heap.size) (s10) a10 (n10) c10 (e10)) := X5.out.later Any.lasts hb'
    replace X6 : Hid (BB 25 Any w12 (v11.heap.size) (s11) a11 (n11) c11 (e11)) := X6.out.later Any.lasts hb'
    replace F9 : Hid (FW w12 w8.heap.size a9 n9) := F9.out.later hb'
    replace F10 : Hid (FW w12 w8.heap.size a10 n10) := F10.out.later hb'
    replace F11 : Hid (FW w12 w8.heap.size a11 n11) := F11.out.later hb'
    have F12 : Hid (FW w12 w8.heap.size a12 n12) := (by rw [hW12]; exact (hf.mono HZ11.out.size).later ((Below.refl _ _).alloc (Nat.le_refl _) _) : FW w12 w8.heap.size a12 n12)
    have G09 : Hid (FW w12 w8.heap.size a9 n9) := F9
    have G010 : Hid (FW w12 w8.heap.size a10 n10) := F10
    have G011 : Hid (FW w12 w8.heap.size a11 n11) := F11
    have G012 : Hid (FW w12 w8.heap.size a12 n12) := F12
    have HB12 : Hid (Below w.heap.size w w12) := HB11.out.trans (hb'.mono HB11.out.size)
    have HZ12 : Hid (Below w8.heap.size w8 w12) := HZ11.out.trans (hb'.mono HZ11.out.size)
    clear kc hb hb' hp hf p0 p1 p2 HB11 HZ11
    obtain ⟨⟨p0, p1, p2⟩, -⟩ := box_cells29 X2.out.1
    obtain ⟨⟨q0, q1, q2⟩, -⟩ := box_cells29 X3.out.1
    have kc := K.k5 w12 HB12.out
    rw [hW12] at p0 p1 p2 q0 q1 q2
    go_wp2_with fail
    rw [← hW12]
    clear hW12
    refine kc.mono ?_
    rintro r v13 ⟨s13, a13, n13, c13, e13, rfl, hp, hb⟩
    obtain ⟨w13, hW13⟩ : ∃ w13, w13 = v13.alloc (.cells #[.bool s13, .slice a13 n13 c13, .int .i64 e13] 24) := ⟨_, rfl⟩
    have hb' : Below w12.heap.size w12 w13 := by rw [hW13]; exact hb.alloc hb.size _
    have X8 : Hid (BB 24 (fun W A => RN W w12.heap.size A t) w13 (v13.heap.size) (s13) a13 (n13) c13 (e13)) := (by rw [hW13]; exact BB.new (fun W W' A hb h => h.later hb) hp : BB 24 (fun W A => RN W w12.heap.size A t) w13 (v13.heap.size) (s13) a13 (n13) c13 (e13))
    replace X0 : Hid (BB 25 PX w13 (g 0) (ng 0) xa (ln 0) xc (e 0)) := X0.out.later K.lPX hb'
    replace X1 : Hid (BB 25 PY w13 (g 1) (ng 1) ya (ln 1) yc (e 1)) := X1.out.later K.lPY hb'
    replace X2 : Hid (BB 24 Any w13 (w.heap.size) (ng 0) (ao 0) (ln 0) (cp 0) (e 0)) := X2.out.later Any.lasts hb'
    replace X3 : Hid (BB 24 Any w13 (w.heap.size + 1) (ng 1) (ao 1) (ln 1) (cp 1) (e 1)) := X3.out.later Any.lasts hb'
    replace X4 : Hid (BB 25 Any w13 (v9.heap.size) (s9) a9 (n9) c9 (e9)) := X4.out.later Any.lasts hb'
    replace X5 : Hid (BB 25 Any w13 (v10.heap.size) (s10) a10 (n10) c10 (e10)) := X5.out.later Any.lasts hb'
    replace X6 : Hid (BB 25 Any w13 (v11.heap.size) (s11) a11 (n11) c11 (e11)) := X6.out.later Any.lasts hb'
    replace X7 : Hid (BB 25 Any w13 (v12.heap.size) (s12) a12 (n12) c12 (e12)) := X7.out.later Any.lasts hb'
    replace F9 : Hid (FW w13 w8.heap.size a9 n9) := F9.out.later hb'
    replace F10 : Hid (FW w13 w8.heap.size a10 n10) := F10.out.later hb'
    replace F11 : Hid (FW w13 w8.heap.size a11 n11) := F11.out.later hb'
    replace F12 : Hid (FW w13 w8.heap.size a12 n12) := F12.out.later hb'
    have HV13 : Hid (w12.heap.size ≤ v13.heap.size) := hb.size
    have HW13S : Hid (w13.heap.size = v13.heap.size + 1) := (by rw [hW13]; simp : w13.heap.size = v13.heap.size + 1)
    have G9 : Hid (FW w12 w8.heap.size a9 n9) := G09
    have G10 : Hid (FW w12 w8.heap.size a10 n10) := G010
    have G11 : Hid (FW w12 w8.heap.size a11 n11) := G011
    have G12 : Hid (FW w12 w8.heap.size a12 n12) := G012
    have HB13 : Hid (Below w.heap.size w w13) := HB12.out.trans (hb'.mono HB12.out.size)
    have HZ13 : Hid (Below w8.heap.size w8 w13) := HZ12.out.trans (hb'.mono HZ12.out.size)
    clear kc hb hb' hp p0 p1 p2 q0 q1 q2 HB12 HZ12
    obtain ⟨⟨r00, r01, r02⟩, -⟩ := box_cells X4.out.1
    obtain ⟨⟨r10, r11, r12⟩, -⟩ := box_cells X5.out.1
    obtain ⟨⟨r20, r21, r22⟩, -⟩ := box_cells X6.out.1
    obtain ⟨⟨r30, r31, r32⟩, -⟩ := box_cells X7.out.1
    rw [hW13] at r00 r01 r02 r10 r11 r12 r20 r21 r22 r30 r31 r32
    go_wp2
    rw [← hW13]
    clear hW13 r00 r01 r02 r10 r11 r12 r20 r21 r22 r30 r31 r32
    obtain ⟨w14, hW14⟩ : ∃ w14, w14 = w13.alloc (.cells #[.slice a9 n9 c9, .slice a10 n10 c10, .slice a11 n11 c11, .slice a12 n12 c12] 22) := ⟨_, rfl⟩
    have HL : Hid (w14.heap[w13.heap.size]? = some (.cells #[.slice a9 n9 c9, .slice a10 n10 c10, .slice a11 n11 c11, .slice a12 n12 c12] 22 (0, 0)) ∧ w12.heap.size ≤ w13.heap.size) := ⟨by rw [hW14]; exact heap_alloc_new _ _, Nat.le_trans HV13.out (by have := HW13S.out; omega)⟩
    have hb14 : Below w13.heap.size w13 w14 := by rw [hW14]; exact (Below.refl _ _).alloc (Nat.le_refl _) _
    have X8' : Hid (BB 24 (fun W A => RN W w12.heap.size A t) w14 v13.heap.size s13 a13 n13 c13 e13) := X8.out.later (fun W W' A hb h => h.later hb) hb14
    have HI : Hid (Iv w8 w12 w14 (pick4 a9 a10 a11 a12) (pick4 n9 n10 n11 n12) w14) := (by
      refine ⟨HZ13.out.trans (hb14.mono HZ13.out.size), fun _ _ => rfl, fun i hi => ?_⟩
      have key : ∀ aa nn, FW w12 w8.heap.size aa nn → FW w13 w8.heap.size aa nn → nn = 0 ∨ ∃ g c, aa = some ⟨g, 0, none⟩ ∧ w8.heap.size ≤ g ∧ g < w12.heap.size ∧ w14.heap[g]? = some (.cells c 55 (0, 0)) ∧ nn ≤ c.size := by
        intro aa nn h12 h13
        obtain ⟨-, h | ⟨g, c, h1, h2, h3, h4⟩⟩ := h12
        · exact .inl h
        · obtain ⟨-, h | ⟨g', c', q1, q2, q3, q4⟩⟩ := h13.later hb14
          · exact .inl h
          · rw [h1] at q1
            simp only [Option.some.injEq, Addr.mk.injEq] at q1
            obtain ⟨rfl, -, -⟩ := q1
            exact .inr ⟨g, c', h1, h2, (Array.getElem?_eq_some_iff.1 h3).1, q3, q4⟩
      rcases lt4 hi with rfl | rfl | rfl | rfl
      · exact key _ _ G9.out F9.out
      · exact key _ _ G10.out F10.out
      · exact key _ _ G11.out F11.out
      · exact key _ _ G12.out F12.out
      : Iv w8 w12 w14 (pick4 a9 a10 a11 a12) (pick4 n9 n10 n11 n12) w14)
    have HN : Hid (∀ j, j < 4 → (pick4 n9 n10 n11 n12) j ≤ 35184372088832) := (by
      intro j hj
      rcases lt4 hj with rfl | rfl | rfl | rfl
      · exact G9.out.1
      · exact G10.out.1
      · exact G11.out.1
      · exact G12.out.1
      : ∀ j, j < 4 → (pick4 n9 n10 n11 n12) j ≤ 35184372088832)
    have HLL : Hid (∀ wr j, Iv w8 w12 w14 (pick4 a9 a10 a11 a12) (pick4 n9 n10 n11 n12) wr → j < 4 → wr.cell? ⟨v13.heap.size + 1, j, none⟩ = some (.slice ((pick4 a9 a10 a11 a12) j) ((pick4 n9 n10 n11 n12) j) ((pick4 c9 c10 c11 c12) j))) := (by
      intro wr j hI hj
      have h := (hI.above w13.heap.size HL.out.2).trans HL.out.1
      rw [HW13S.out] at h
      rcases lt4 hj with rfl | rfl | rfl | rfl <;> simp [World.cell?, h, pick4]
      : ∀ wr j, Iv w8 w12 w14 (pick4 a9 a10 a11 a12) (pick4 n9 n10 n11 n12) wr → j < 4 → wr.cell? ⟨v13.heap.size + 1, j, none⟩ = some (.slice ((pick4 a9 a10 a11 a12) j) ((pick4 n9 n10 n11 n12) j) ((pick4 c9 c10 c11 c12) j)))
    rw [← hW14]
    clear hW14 hb14 X0 X1 X2 X3 X4 X5 X6 X7 X8 F9 F10 F11 F12 G9 G10 G11 G12 G09 G010 G011 G012
    generalize (pick4 a9 a10 a11 a12) = AO at *
    generalize (pick4 n9 n10 n11 n12) = NN at *
    generalize (pick4 c9 c10 c11 c12) = CC at *
    go_loopw [16] (fun c wr => ∃ j : Nat, j ≤ 4 ∧ c = .int .i64 j ∧ Hid (Iv w8 w12 w14 AO NN wr)) (fun c _ => 4 - (intOf c).toNat)
    case atStart => exact ⟨0, by omega, rfl, HI⟩
    case round =>
      obtain ⟨j, hj, rfl, hI⟩ := hrel
      by_cases hj4 : j < 4
      · have hji : (j : Int) < 4 := by omega
        go_wp2
        go_loopw [17] (fun c wr => ∃ k : Nat, k ≤ NN j ∧ c = .int .i64 k ∧ Hid (Iv w8 w12 w14 AO NN wr)) (fun c _ => NN j - (intOf c).toNat)
        case atStart => exact ⟨0, Nat.zero_le _, rfl, hI⟩
        case round =>
          obtain ⟨k, hk, rfl, hI2⟩ := hrel
          have l1 := HLL.out wr j hI2.out hj4
          have hnn := HN.out j hj4
          by_cases hkn : k < NN j
          · have hki : (k : Int) < (NN j : Int) := by omega
            obtain ⟨gg, u, q1, q2, q3, q4⟩ := hI2.out.write hj4 hkn
            have Q4 : Hid (∀ v, Iv w8 w12 w14 AO NN (wr.setCell ⟨gg, k, none⟩ v)) := q4
            rw [q1] at l1
            clear q4
            go_wp2
            exact ⟨⟨k + 1, by omega, by simp, Q4.out _⟩, by simp [intOf]; omega⟩
          · have hki : ¬ (k : Int) < (NN j : Int) := by omega
            go_wp2
            exact ⟨⟨j + 1, by omega, by simp, hI2⟩, by simp [intOf]; omega⟩
      · obtain rfl : j = 4 := by omega
        have HI4 := hI
        clear hI HI HLL HN hj hj4 HL
        have HB15 : Hid (Below w.heap.size w wr) := HC8.out.trans (HI4.out.below.mono HC8.out.size)
        have X0 : Hid (BB 25 PX wr (g 0) (ng 0) xa (ln 0) xc (e 0)) := Y0.out.later K.lPX HI4.out.below
        have X1 : Hid (BB 25 PY wr (g 1) (ng 1) ya (ln 1) yc (e 1)) := Y1.out.later K.lPY HI4.out.below
        have X2 : Hid (BB 24 Any wr (w.heap.size) (ng 0) (ao 0) (ln 0) (cp 0) (e 0)) := Y2.out.later Any.lasts HI4.out.below
        have X3 : Hid (BB 24 Any wr (w.heap.size + 1) (ng 1) (ao 1) (ln 1) (cp 1) (e 1)) := Y3.out.later Any.lasts HI4.out.below
        have X8 : Hid (BB 24 (fun W A => RN W w12.heap.size A t) wr (v13.heap.size) (s13) a13 (n13) c13 (e13)) := ⟨(HI4.out.above _ HV13.out).trans X8'.out.1, rn_above X8'.out.2 HI4.out.above⟩
        have hE4 := K.e4
        clear X8' Y0 Y1 Y2 Y3 HC8 HI4 HV13 HW13S HB13 HZ13
        obtain ⟨⟨p0, p1, p2⟩, -⟩ := box_cells X0.out.1
        obtain ⟨⟨q0, q1, q2⟩, -⟩ := box_cells X1.out.1
        have kc := K.k1 wr _ _ HB15.out X0.out.2 X1.out.2
        go_wp2_with fail
        refine kc.mono ?_
        rintro r v16 ⟨s16, a16, n16, c16, e16, rfl, hp, hf, hb⟩
        obtain ⟨w16, hW16⟩ : ∃ w16, w16 = v16.alloc (.cells #[.bool s16, .slice a16 n16 c16, .int .i64 e16] 25) := ⟨_, rfl⟩
        have hb' : Below wr.heap.size wr w16 := by rw [hW16]; exact hb.alloc hb.size _
        have X9 : Hid (BB 25 (fun W A => PN W A t) w16 (v16.heap.size) (s16) a16 (n16) c16 (e16)) := (by rw [hW16]; exact BB.new (fun W W' A hb h => h.later hb) hp : BB 25 (fun W A => PN W A t) w16 (v16.heap.size) (s16) a16 (n16) c16 (e16))
        replace X0 : Hid (BB 25 PX w16 (g 0) (ng 0) xa (ln 0) xc (e 0)) := X0.out.later K.lPX hb'
        replace X1 : Hid (BB 25 PY w16 (g 1) (ng 1) ya (ln 1) yc (e 1)) := X1.out.later K.lPY hb'
        replace X2 : Hid (BB 24 Any w16 (w.heap.size) (ng 0) (ao 0) (ln 0) (cp 0) (e 0)) := X2.out.later Any.lasts hb'
        replace X3 : Hid (BB 24 Any w16 (w.heap.size + 1) (ng 1) (ao 1) (ln 1) (cp 1) (e 1)) := X3.out.later Any.lasts hb'
        replace X8 : Hid (BB 24 (fun W A => RN W w12.heap.size A t) w16 (v13.heap.size) (s13) a13 (n13) c13 (e13)) := X8.out.later (fun W W' A hb h => h.later hb) hb'
        have HB16 : Hid (Below w.heap.size w w16) := HB15.out.trans (hb'.mono HB15.out.size)
        clear kc hb hb' hp hf p0 p1 p2 q0 q1 q2 HB15
        obtain ⟨⟨p0, p1, p2⟩, -⟩ := box_cells X9.out.1
        obtain ⟨⟨q0, q1, q2⟩, -⟩ := box_cells29 X8.out.1
        have kc := K.s1 w16 _ _ X9.out.2 ⟨_, X8.out.2⟩
        rw [hW16] at p0 p1 p2 q0 q1 q2
        go_wp2_with fail
        rw [← hW16]
        clear hW16
        refine kc.mono ?_
        rintro r w20 ⟨rfl, hb'⟩
        replace X0 : Hid (BB 25 PX w20 (g 0) (ng 0) xa (ln 0) xc (e 0)) := X0.out.later K.lPX hb'
        replace X1 : Hid (BB 25 PY w20 (g 1) (ng 1) ya (ln 1) yc (e 1)) := X1.out.later K.lPY hb'
        replace X2 : Hid (BB 24 Any w20 (w.heap.size) (ng 0) (ao 0) (ln 0) (cp 0) (e 0)) := X2.out.later Any.lasts hb'
        replace X3 : Hid (BB 24 Any w20 (w.heap.size + 1) (ng 1) (ao 1) (ln 1) (cp 1) (e 1)) := X3.out.later Any.lasts hb'
        replace X8 : Hid (BB 24 (fun W A => RN W w12.heap.size A t) w20 (v13.heap.size) (s13) a13 (n13) c13 (e13)) := X8.out.later (fun W W' A hb h => h.later hb) hb'
        replace X9 : Hid (BB 25 (fun W A => PN W A t) w20 (v16.heap.size) (s16) a16 (n16) c16 (e16)) := X9.out.later (fun W W' A hb h => h.later hb) hb'
        have HB20 : Hid (Below w.heap.size w w20) := HB16.out.trans (hb'.mono HB16.out.size)
        clear kc hb' p0 p1 p2 q0 q1 q2 HB16
        obtain ⟨⟨p0, p1, p2⟩, -⟩ := box_cells X0.out.1
        obtain ⟨⟨q0, q1, q2⟩, -⟩ := box_cells29 X2.out.1
        have kc := K.s5 w20 _ HB20.out X0.out.2
        go_wp2_with fail
        refine kc.mono ?_
        rintro r w21 ⟨rfl, hb'⟩
        replace X0 : Hid (BB 25 PX w21 (g 0) (ng 0) xa (ln 0) xc (e 0)) := X0.out.later K.lPX hb'
        replace X1 : Hid (BB 25 PY w21 (g 1) (ng 1) ya (ln 1) yc (e 1)) := X1.out.later K.lPY hb'
        replace X2 : Hid (BB 24 Any w21 (w.heap.size) (ng 0) (ao 0) (ln 0) (cp 0) (e 0)) := X2.out.later Any.lasts hb'
        replace X3 : Hid (BB 24 Any w21 (w.heap.size + 1) (ng 1) (ao 1) (ln 1) (cp 1) (e 1)) := X3.out.later Any.lasts hb'
        replace X8 : Hid (BB 24 (fun W A => RN W w12.heap.size A t) w21 (v13.heap.size) (s13) a13 (n13) c13 (e13)) := X8.out.later (fun W W' A hb h => h.later hb) hb'
        replace X9 : Hid (BB 25 (fun W A => PN W A t) w21 (v16.heap.size) (s16) a16 (n16) c16 (e16)) := X9.out.later (fun W W' A hb h => h.later hb) hb'
        have HB21 : Hid (Below w.heap.size w w21) := HB20.out.trans (hb'.mono HB20.out.size)
        clear kc hb' p0 p1 p2 q0 q1 q2 HB20
        obtain ⟨⟨p0, p1, p2⟩, -⟩ := box_cells X1.out.1
        obtain ⟨⟨q0, q1, q2⟩, -⟩ := box_cells29 X3.out.1
        have kc := K.s6 w21 _ HB21.out X1.out.2
        go_wp2_with fail
        refine kc.mono ?_
        rintro r w22 ⟨rfl, hb'⟩
        replace X0 : Hid (BB 25 PX w22 (g 0) (ng 0) xa (ln 0) xc (e 0)) := X0.out.later K.lPX hb'
        replace X1 : Hid (BB 25 PY w22 (g 1) (ng 1) ya (ln 1) yc (e 1)) := X1.out.later K.lPY hb'
        replace X2 : Hid (BB 24 Any w22 (w.heap.size) (ng 0) (ao 0) (ln 0) (cp 0) (e 0)) := X2.out.later Any.lasts hb'
        replace X3 : Hid (BB 24 Any w22 (w.heap.size + 1) (ng 1) (ao 1) (ln 1) (cp 1) (e 1)) := X3.out.later Any.lasts hb'
        replace X8 : Hid (BB 24 (fun W A => RN W w12.heap.size A t) w22 (v13.heap.size) (s13) a13 (n13) c13 (e13)) := X8.out.later (fun W W' A hb h => h.later hb) hb'
        replace X9 : Hid (BB 25 (fun W A => PN W A t) w22 (v16.heap.size) (s16) a16 (n16) c16 (e16)) := X9.out.later (fun W W' A hb h => h.later hb) hb'
        have HB22 : Hid (Below w.heap.size w w22) := HB21.out.trans (hb'.mono HB21.out.size)
        clear kc hb' p0 p1 p2 q0 q1 q2 HB21
        have kc := K.works w22 HB22.out
        go_wp2_with fail
        refine kc.mono ?_
        rintro r w23 ⟨rfl, hb'⟩
        have HB23 : Hid (Below w.heap.size w w23) := HB22.out.trans (hb'.mono HB22.out.size)
        clear kc hb'
        go_wp2_with fail
        go_ret
        exact ⟨rfl, HB23.out⟩
end Go.Proofs.YtejefbnfmglfeaaGreatDoor

/- DyadOwn. -/
namespace Go.Proofs.YtejefbnfmglfeaaGreatDoor
set_option linter.unusedVariables false
set_option linter.unusedSimpArgs false
open Go.RowKit

theorem dyadOwn_ok (ng : Nat → Bool) (ao : Nat → Option Addr) (ln cp z : Nat → Nat) (e : Nat → Int) (w : World) (hA : ∀ i, i < 2 → Arg w (ao i) (ln i) (cp i) (z i)) (he : ∀ i, -9223372036854775808 ≤ e i ∧ e i ≤ 9223372036854775807) (hzl : ∀ i, i < 2 → dlen (z i) ≤ ln i)
    (hT : Tab32 w) (hI : Ie.Tab w) (h10 : Tab10 w) :
    Calls Tryz.prog 8 #[.agg #[.bool (ng 0), .slice (ao 0) (ln 0) (cp 0), .int .i64 (e 0)], .agg #[.bool (ng 1), .slice (ao 1) (ln 1) (cp 1), .int .i64 (e 1)]] w fun r w' => r = .returned (.bool true) ∧ Below w.heap.size w w' := by
  obtain ⟨t, E, l1, k1, k5⟩ := joinF_Add (na := ng 0) (nb := ng 1) (ea := e 0) (eb := e 1) hT (hA 0 (by omega)) (hA 1 (by omega)) (hzl 0 (by omega)) (hzl 1 (by omega))
  obtain ⟨E4, e4, k2, k3, k4⟩ := joinF_one (na := ng 0) (ea := e 0) (w := w) (hA 0 (by omega)).small (hzl 0 (by omega))
  exact law10_1 ng ao ln cp z e w hA (PX := PI (ng 0) (ln 0) (z 0) (e 0)) (PY := PI (ng 1) (ln 1) (z 1) (e 1)) (t := t) (E := E) (E4 := E4)
    { lPX := PI.lasts _ _ _ _, lPY := PI.lasts _ _ _ _, e4 := e4, k1 := k1, k2 := k2, k3 := k3, k4 := k4, k5 := k5, s1 := fun W A C a c => same_pr l1 a c,
      s5 := fun W X hW hX => same_in hX ((hA 0 (by omega)).later hW), s6 := fun W X hW hX => same_in hX ((hA 1 (by omega)).later hW),
      gx := fun W v hW ⟨b, h⟩ => ⟨v, b, rfl, h⟩, gy := fun W v hW ⟨b, h⟩ => ⟨v, b, rfl, h⟩,
      works := fun W hW => works_ok W (hT.later hW) (Tab.later hI hW) (h10.later hW) }
end Go.Proofs.YtejefbnfmglfeaaGreatDoor
