/- Own work: contracts of the program's functions, part 11: L7 RB1 RB2 RB3 R7. -/
import Derived.Test.YtejefbnfmglfeaaGreatDoorA10
import Derived.Test.YtejefbnfmglfeaaGreatDoorA8
import Derived.Test.YtejefbnfmglfeaaGreatDoorA6
import Derived.Test.YtejefbnfmglfeaaGreatDoorA2
import Derived.Test.YtejefbnfmglfeaaGreatDoorA3
import Derived.Test.YtejefbnfmglfeaaGreatDoorA9

/- DyadLeast: the law's walk. -/
namespace Go.Proofs.YtejefbnfmglfeaaGreatDoor
set_option linter.unusedVariables false
set_option linter.unusedSimpArgs false
open Go.RowKit Go.Fl64

theorem lt2 {k : Nat} (h : k < 2) : k = 0 ∨ k = 1 := by omega
/-- one of two -/
def pick2 {α : Type} (a b : α) : Nat → α
  | 0 => a
  | _ => b
/-- Cmp's answer -/
def Cm2 (t1 t2 : Bool × Nat × Int) (c : Int) : Prop := ∀ W X Y, PN W X t1 → PN W Y t2 → Calls Tryz.prog 23 #[X, Y] W fun r w' => r = .returned (.int .i64 c) ∧ Below W.heap.size W w'
/-- numbers that the law goes on with -/
def Fine2 (ng : Nat → Bool) (ln z : Nat → Nat) (e : Nat → Int) : Prop := okN (ng 0) (ln 0) (z 0) (e 0) = true ∧ okN (ng 1) (ln 1) (z 1) (e 1) = true ∧ ln 0 ≤ 100 ∧ ln 1 ≤ 100 ∧ ln 1 ≠ 0 ∧ max (e 0) (e 1) ≤ 3000 ∧ -3000 ≤ min (e 0) (e 1)
/-- what the law's calls answer -/
structure LeastK (tx ty un tq tm tp tu tr ta ts tt : Bool × Nat × Int) (P : Int) (ex wh : Bool) (c1 c2 c3 c4 : Int) : Prop where
  kM : ∀ W g, Tab32 W → W.heap[g]? = some (.cells #[.int .u32 1] 55 (0, 0)) → Calls Tryz.prog 38 #[.bool false, .slice (some ⟨g, 0, none⟩) 1 1, .int .i64 (-P)] W fun r w' => ∃ s ao n cap e, r = .returned (.tuple #[.agg #[.bool s, .slice ao n cap, .int .i64 e], .int .i64 0]) ∧ PN w' (.agg #[.bool s, .slice ao n cap, .int .i64 e]) un ∧ Below W.heap.size W w'
  kQ : ∀ W X Y, Tab32 W → PN W X tx → PN W Y ty → Calls Tryz.prog 39 #[X, Y, .int .i64 P] W fun r w' => ∃ s ao n cap e, r = .returned (.tuple #[.agg #[.bool s, .slice ao n cap, .int .i64 e], .bool ex, .int .i64 0]) ∧ PN w' (.agg #[.bool s, .slice ao n cap, .int .i64 e]) tq ∧ Below W.heap.size W w'
  k1 : Op2 28 tq un tm
  k2 : Op2 32 tq ty tp
  k3 : Op2 32 tm ty tu
  kR : ∀ W X, Tab32 W → PN W X tx → Calls Tryz.prog 40 #[X, .int .i64 P] W fun r w' => ∃ s ao n cap e, r = .returned (.tuple #[.agg #[.bool s, .slice ao n cap, .int .i64 e], .bool wh, .int .i64 0]) ∧ PN w' (.agg #[.bool s, .slice ao n cap, .int .i64 e]) tr ∧ Below W.heap.size W w'
  k4 : Op2 28 tr un ta
  k5 : Op2 32 tr tr ts
  k6 : Op2 32 ta ta tt
  m1 : Cm2 tp tx c1
  m2 : Cm2 tu tx c2
  m3 : Cm2 ts tx c3
  m4 : Cm2 tt tx c4
  f1 : c1 ≤ 0 ∧ (ex == (c1 == 0)) = true
  f2 : 0 < c2
  f3 : c3 ≤ 0 ∧ (wh == (c3 == 0)) = true
  f4 : 0 < c4

set_option maxHeartbeats 16000000 in
set_option maxRecDepth 200000 in
theorem law7_1 (ng : Nat → Bool) (ao : Nat → Option Addr) (ln cp z : Nat → Nat) (e : Nat → Int) (P0 P : Int) (w : World) (hA : ∀ i, i < 2 → Arg w (ao i) (ln i) (cp i) (z i)) (he : ∀ i, -9223372036854775808 ≤ e i ∧ e i ≤ 9223372036854775807) (hzl : ∀ i, i < 2 → dlen (z i) ≤ ln i) (hT : Tab32 w)
    (hP : max (-500) (min P0 500) = P) (hP1 : -500 ≤ P) (hP2 : P ≤ 500)
    (hK : Fine2 ng ln z e → ∃ un tq tm tp tu tr ta ts tt ex wh c1 c2 c3 c4, LeastK (false, z 0, e 0) (false, z 1, e 1) un tq tm tp tu tr ta ts tt P ex wh c1 c2 c3 c4)
    (k14 : ∀ W, Below w.heap.size w W → Calls Tryz.prog 27 #[] W fun r w' => r = .returned (.bool true) ∧ Below W.heap.size W w') :
    Calls Tryz.prog 7 #[.agg #[.bool (ng 0), .slice (ao 0) (ln 0) (cp 0), .int .i64 (e 0)], .agg #[.bool (ng 1), .slice (ao 1) (ln 1) (cp 1), .int .i64 (e 1)], .int .i64 P0] w fun r w' => r = .returned (.bool true) ∧ Below w.heap.size w w' := by
  obtain ⟨W, hW⟩ : ∃ W, W = (w.alloc (.cells #[.bool (ng 0), .slice (ao 0) (ln 0) (cp 0), .int .i64 (e 0)] 24)).alloc (.cells #[.bool (ng 1), .slice (ao 1) (ln 1) (cp 1), .int .i64 (e 1)] 24) := ⟨_, rfl⟩
  have hB0 : W.heap[w.heap.size]? = some (.cells #[.bool (ng 0), .slice (ao 0) (ln 0) (cp 0), .int .i64 (e 0)] 24 (0, 0)) := by
    rw [hW, Below.heap_alloc _ _ _ (by simp)]; exact heap_alloc_new _ _
  have hB1 : W.heap[w.heap.size + 1]? = some (.cells #[.bool (ng 1), .slice (ao 1) (ln 1) (cp 1), .int .i64 (e 1)] 24 (0, 0)) := by
    have := heap_alloc_new (w.alloc (.cells #[.bool (ng 0), .slice (ao 0) (ln 0) (cp 0), .int .i64 (e 0)] 24)) (.cells #[.bool (ng 1), .slice (ao 1) (ln 1) (cp 1), .int .i64 (e 1)] 24)
    rw [hW]; simpa using this
  have hsz : W.heap.size = w.heap.size + 1 + 1 := by rw [hW]; simp
  have hBW : Below w.heap.size w W := by rw [hW]; exact ((Below.refl _ _).alloc (Nat.le_refl _) _).alloc (by simp) _
  have HH : Hid (W.heap[w.heap.size]? = some (.cells #[.bool (ng 0), .slice (ao 0) (ln 0) (cp 0), .int .i64 (e 0)] 24 (0, 0)) ∧ W.heap[w.heap.size + 1]? = some (.cells #[.bool (ng 1), .slice (ao 1) (ln 1) (cp 1), .int .i64 (e 1)] 24 (0, 0)) ∧ W.heap.size = w.heap.size + 1 + 1 ∧ Below w.heap.size w W) := ⟨hB0, hB1, hsz, hBW⟩
  have HA : Hid (∀ wr, Below W.heap.size W wr → ∀ i, i < 2 → Arg wr (ao i) (ln i) (cp i) (z i)) := fun wr hb i hi => ((hA i hi).later hBW).later hb
  have HZL : Hid (∀ i, i < 2 → dlen (z i) ≤ ln i) := hzl
  have HT : Hid (Tab32 w) := hT
  have HKK : Hid (Fine2 ng ln z e → ∃ un tq tm tp tu tr ta ts tt ex wh c1 c2 c3 c4, LeastK (false, z 0, e 0) (false, z 1, e 1) un tq tm tp tu tr ta ts tt P ex wh c1 c2 c3 c4) := hK
  have H14 : Hid (∀ W, Below w.heap.size w W → Calls Tryz.prog 27 #[] W fun r w' => r = .returned (.bool true) ∧ Below W.heap.size W w') := k14
  obtain ⟨e01, e02⟩ := he 0
  obtain ⟨e11, e12⟩ := he 1
  have l0 := (hA 0 (by omega)).small
  have l1 := (hA 1 (by omega)).small
  obtain ⟨⟨a0, a1, a2⟩, -⟩ := box_cells29 hB0
  have kv0 := rvalid (s := ng 0) (e := e 0) (HA.out W (Below.refl _ _) 0 (by omega))
  generalize hv0 : okN (ng 0) (ln 0) (z 0) (e 0) = ok0 at *
  generalize hv1 : okN (ng 1) (ln 1) (z 1) (e 1) = ok1 at *
  have HV : Hid (okN (ng 0) (ln 0) (z 0) (e 0) = ok0 ∧ okN (ng 1) (ln 1) (z 1) (e 1) = ok1) := ⟨hv0, hv1⟩
  clear hB0 hB1 hsz hBW hA k14 hzl hT hK he hv0 hv1
  rw [hW] at a0 a1 a2
  go_enter Tryz.func7, Tryz.ntmps7
  go_wp2_with fail
  rw [← hW]
  clear hW
  refine kv0.mono ?_
  rintro r w1 ⟨rfl, hb1⟩
  have HB1 : Hid (Below W.heap.size W w1) := hb1
  have HW1 : Hid (Below w.heap.size w w1) := HH.out.2.2.2.trans (HB1.out.mono HH.out.2.2.2.size)
  clear kv0 hb1 a0 a1 a2
  obtain ⟨⟨a0, a1, a2⟩, -⟩ := box_cells29 (box_later HH.out.1 HB1.out (by have := HH.out.2.2.1; omega))
  obtain ⟨⟨b0, b1, b2⟩, -⟩ := box_cells29 (box_later HH.out.2.1 HB1.out (by have := HH.out.2.2.1; omega))
  cases ok0
  · have k2 := H14.out w1 HW1.out
    go_wp2_with fail
    refine k2.mono ?_
    rintro r w9 ⟨rfl, hb9⟩
    have HW9 : Hid (Below w.heap.size w w9) := HW1.out.trans (hb9.mono HW1.out.size)
    clear k2 hb9
    go_wp2_with fail
    go_ret
    exact ⟨rfl, HW9.out⟩
  · have kv1 := rvalid (s := ng 1) (e := e 1) (HA.out w1 HB1.out 1 (by omega))
    rw [HV.out.2] at kv1
    go_wp2_with fail
    refine kv1.mono ?_
    rintro r w2 ⟨rfl, hb2⟩
    have HB2 : Hid (Below W.heap.size W w2) := HB1.out.trans (hb2.mono HB1.out.size)
    have HW2 : Hid (Below w.heap.size w w2) := HH.out.2.2.2.trans (HB2.out.mono HH.out.2.2.2.size)
    clear kv1 hb2 a0 a1 a2 b0 b1 b2
    obtain ⟨⟨a0, a1, a2⟩, -⟩ := box_cells29 (box_later HH.out.1 HB2.out (by have := HH.out.2.2.1; omega))
    obtain ⟨⟨b0, b1, b2⟩, -⟩ := box_cells29 (box_later HH.out.2.1 HB2.out (by have := HH.out.2.2.1; omega))
    have k2 := H14.out w2 HW2.out
    cases ok1
    · skip
      go_wp2_with fail
      refine k2.mono ?_
      rintro r w9 ⟨rfl, hb9⟩
      have HW9 : Hid (Below w.heap.size w w9) := HW2.out.trans (hb9.mono HW2.out.size)
      clear k2 hb9
      go_wp2_with fail
      go_ret
      exact ⟨rfl, HW9.out⟩
    · skip
      by_cases c0 : ln 0 ≤ 100
      · have c0' : ¬ (100 : Int) < (ln 0 : Int) := by omega
        by_cases c1 : ln 1 ≤ 100
        · have c1' : ¬ (100 : Int) < (ln 1 : Int) := by omega
          by_cases c2 : ln 1 ≠ 0
          · have c2' : ((ln 1 : Int) == 0) = false := by simp; omega
            by_cases c3 : max (e 0) (e 1) ≤ 3000
            · have c3' : ¬ (3000 : Int) < max (e 0) (e 1) := by omega
              by_cases c4 : -3000 ≤ min (e 0) (e 1)
              · have c4' : ¬ min (e 0) (e 1) < -3000 := by omega
                clear k2
                obtain ⟨un, tq, tm, tp, tu, tr, ta, ts, tt, ex, wh, q1, q2, q3, q4, K⟩ := HKK.out ⟨HV.out.1, HV.out.2, c0, c1, c2, c3, c4⟩
                have HA3 := HA.out w2 HB2.out
                have hs0 := box_later HH.out.1 HB2.out (by have := HH.out.2.2.1; omega)
                have hs1 := box_later HH.out.2.1 HB2.out (by have := HH.out.2.2.1; omega)
                have hl : ∀ k, k < 2 → okN (ng k) (ln k) (z k) (e k) = true → dlen (z k) = ln k := fun k hk hF => by
                  refine dlen_here (HZL.out k hk) ?_
                  by_cases h0 : ln k = 0
                  · exact .inl h0
                  · right
                    unfold okN at hF
                    rw [if_neg h0] at hF
                    simp only [Bool.and_eq_true, bne_iff_ne, ne_eq] at hF
                    exact hF.1.1.1.2
                have HLL : Hid (dlen (z 0) = ln 0 ∧ dlen (z 1) = ln 1) := ⟨hl 0 (by omega) HV.out.1, hl 1 (by omega) HV.out.2⟩
                clear hl
                go_upto_region 4 with fail
                go_cut [7, 8] from 75 to 80 (fun p q wx => ∃ (g : Nat → Nat) (v : Nat → Value), p = .pointer (some ⟨g 0, 0, none⟩) ∧ q = .pointer (some ⟨g 1, 0, none⟩) ∧ Hid (Below w2.heap.size w2 wx ∧ ∀ k, k < 2 → Own wx w2.heap.size (v k) (z k) ∧ w2.heap.size ≤ g k ∧ wx.heap[g k]? = some (.cells #[.bool false, v k, .int .i64 (e k)] 25 (0, 0))))
                case first =>
                  refine abs_region 2 (fun k => 3 + k) (fun k => 75 + 3 * k) (fun k => 76 + 3 * k) (fun k => 77 + 3 * k) (fun k => 7 + k) (fun k => w.heap.size + k) ng ao ln cp z e w2 _ rfl (ord_of (by kernel_rfl)) ?_ ?_ ?_ ?_ ?_ ?_ ?_ ?_ ?_ ?_ ?_ ?_ ?_
                  · intro k hk
                    rcases lt2 hk with rfl | rfl
                    · exact ⟨rfl, hs0, HA3 0 hk, HLL.out.1, HV.out.1, by omega⟩
                    · exact ⟨rfl, hs1, HA3 1 hk, HLL.out.2, HV.out.2, by omega⟩
                  · intro k hk
                    rcases lt2 hk with rfl | rfl <;> decide
                  · intro k hk
                    rcases lt2 hk with rfl | rfl <;> exact ⟨_, rfl, rfl, rfl, rfl⟩
                  · intro k hk
                    rcases lt2 hk with rfl | rfl <;> exact ⟨_, rfl, rfl, ⟨_, rfl⟩, rfl, ⟨_, .data⟩, by simp, rfl, rfl⟩
                  · intro k hk
                    rcases lt2 hk with rfl | rfl <;> exact ⟨_, rfl, rfl, ⟨_, rfl⟩, rfl, ⟨_, .data⟩, by simp, rfl, rfl⟩
                  · intro k hk
                    rcases lt2 hk with rfl | rfl <;> exact ⟨_, rfl, rfl, rfl, rfl⟩
                  · intro k hk
                    rcases lt2 hk with rfl | rfl <;> exact ⟨_, rfl, rfl, rfl, rfl, ⟨⟨_, .data⟩, by simp, rfl, rfl⟩, ⟨_, .data⟩, by simp, rfl, rfl⟩
                  · show ∀ j, j < 3 * 2 → aslot (fun k => 75 + 3 * k) (fun k => 76 + 3 * k) (fun k => 77 + 3 * k) j < 188
                    decide
                  · show ∀ k, k < 2 → 7 + k < 188
                    decide
                  · decide
                  · decide
                  · decide
                  · intro u v g wx hb hk
                    simp only [putL, aslot, show List.range (3 * 2) = [0, 1, 2, 3, 4, 5] from rfl, show List.range 2 = [0, 1] from rfl, List.map_cons, List.map_nil, List.cons_append, List.nil_append, List.foldl_cons, List.foldl_nil, Nat.reduceMod, Nat.reduceDiv, Nat.reduceMul, Nat.reduceAdd, Nat.reduceEqDiff, reduceIte, Nat.one_ne_zero, Act.put, List.setIfInBounds_toArray, List.set_cons_zero, List.set_cons_succ]
                    go_wp2_with fail
                    go_meet
                    exact ⟨g, v, rfl, rfl, hb, hk⟩
                case rest =>
                  obtain ⟨w8, hw8⟩ : ∃ w8 : World, w8 = wc := ⟨_, rfl⟩
                  subst hw8
                  obtain ⟨g, v, rfl, rfl, HG⟩ := hcut
                  have bx : ∀ k, k < 2 → ∃ ak ck, Bn w8 (g k) false ak (dlen (z k)) ck (e k) (false, z k, e k) := fun k hk => by
                    obtain ⟨h1, h2, h3⟩ := HG.out.2 k hk
                    obtain ⟨ak, ck, hv, p1, p2, p3⟩ := h1.is
                    rw [hv] at h3
                    exact ⟨ak, ck, h3, ak, ck, rfl, ak, ck, rfl, p1, p2, p3⟩
                  obtain ⟨xa, xc, X0⟩ := bx 0 (by omega)
                  obtain ⟨ya, yc, X1⟩ := bx 1 (by omega)
                  replace X0 : Hid (Bn w8 (g 0) false xa (dlen (z 0)) xc (e 0) (false, z 0, e 0)) := X0
                  replace X1 : Hid (Bn w8 (g 1) false ya (dlen (z 1)) yc (e 1) (false, z 1, e 1)) := X1
                  have HB8 : Hid (Below w.heap.size w w8) := HW2.out.trans (HG.out.1.mono HW2.out.size)
                  clear bx HG hs0 hs1 HA3 HA HZL HKK HH HV HB1 HB2 HW1 HW2 a0 a1 a2 b0 b1 b2 c0' c1' c2' c3' c4' c0 c1 c2 c3 c4
                  have hbm : Below w8.heap.size w8 (w8.alloc (.cells #[.int .u32 1] 55)) := (Below.refl _ _).alloc (Nat.le_refl _) _
                  have kc := K.kM (w8.alloc (.cells #[.int .u32 1] 55)) w8.heap.size ((HT.out.later HB8.out).later hbm) (heap_alloc_new _ _)
                  go_wp2_with fail
                  refine kc.mono ?_
                  rintro r v9 ⟨s9, a9, n9, c9, e9, rfl, hp, hb⟩
                  obtain ⟨w9, hW9⟩ : ∃ w9, w9 = v9.alloc (.cells #[.bool s9, .slice a9 n9 c9, .int .i64 e9] 25) := ⟨_, rfl⟩
                  replace hb : Below w8.heap.size w8 v9 := hbm.trans (hb.mono hbm.size)
                  have hb' : Below w8.heap.size w8 w9 := by rw [hW9]; exact hb.alloc hb.size _
                  have X2 : Hid (Bn w9 (v9.heap.size) (s9) a9 (n9) c9 (e9) un) := (by rw [hW9]; exact Bn.new hp : Bn w9 (v9.heap.size) (s9) a9 (n9) c9 (e9) un)
                  replace X0 : Hid (Bn w9 (g 0) (false) xa (dlen (z 0)) xc (e 0) (false, z 0, e 0)) := X0.out.later hb'
                  replace X1 : Hid (Bn w9 (g 1) (false) ya (dlen (z 1)) yc (e 1) (false, z 1, e 1)) := X1.out.later hb'
                  have HB9 : Hid (Below w.heap.size w w9) := HB8.out.trans (hb'.mono HB8.out.size)
                  clear kc hb hb' hp  HB8 hbm
                  obtain ⟨⟨p0, p1, p2⟩, -⟩ := box_cells X0.out.1
                  obtain ⟨⟨q0, q1, q2⟩, -⟩ := box_cells X1.out.1
                  have kc := K.kQ w9 _ _ (HT.out.later HB9.out) X0.out.2 X1.out.2
                  rw [hW9] at p0 p1 p2 q0 q1 q2
                  go_wp2_with fail
                  rw [← hW9]
                  clear hW9
                  refine kc.mono ?_
                  rintro r v10 ⟨s10, a10, n10, c10, e10, rfl, hp, hb⟩
                  obtain ⟨w10, hW10⟩ : ∃ w10, w10 = v10.alloc (.cells #[.bool s10, .slice a10 n10 c10, .int .i64 e10] 25) := ⟨_, rfl⟩
                  have hb' : Below w9.heap.size w9 w10 := by rw [hW10]; exact hb.alloc hb.size _
                  have X3 : Hid (Bn w10 (v10.heap.size) (s10) a10 (n10) c10 (e10) tq) := (by rw [hW10]; exact Bn.new hp : Bn w10 (v10.heap.size) (s10) a10 (n10) c10 (e10) tq)
                  replace X0 : Hid (Bn w10 (g 0) (false) xa (dlen (z 0)) xc (e 0) (false, z 0, e 0)) := X0.out.later hb'
                  replace X1 : Hid (Bn w10 (g 1) (false) ya (dlen (z 1)) yc (e 1) (false, z 1, e 1)) := X1.out.later hb'
                  replace X2 : Hid (Bn w10 (v9.heap.size) (s9) a9 (n9) c9 (e9) un) := X2.out.later hb'
                  have HB10 : Hid (Below w.heap.size w w10) := HB9.out.trans (hb'.mono HB9.out.size)
                  clear kc hb hb' hp p0 p1 p2 q0 q1 q2 HB9
                  obtain ⟨⟨p0, p1, p2⟩, -⟩ := box_cells X3.out.1
                  obtain ⟨⟨q0, q1, q2⟩, -⟩ := box_cells X2.out.1
                  have kc := K.k1 w10 _ _ (HT.out.later HB10.out) X3.out.2 X2.out.2
                  rw [hW10] at p0 p1 p2 q0 q1 q2
                  go_wp2_with fail
                  rw [← hW10]
                  clear hW10
                  refine kc.mono ?_
                  rintro r v11 ⟨s11, a11, n11, c11, e11, rfl, hp, hb⟩
                  obtain ⟨w11, hW11⟩ : ∃ w11, w11 = v11.alloc (.cells #[.bool s11, .slice a11 n11 c11, .int .i64 e11] 25) := ⟨_, rfl⟩
                  have hb' : Below w10.heap.size w10 w11 := by rw [hW11]; exact hb.alloc hb.size _
                  have X4 : Hid (Bn w11 (v11.heap.size) (s11) a11 (n11) c11 (e11) tm) := (by rw [hW11]; exact Bn.new hp : Bn w11 (v11.heap.size) (s11) a11 (n11) c11 (e11) tm)
                  replace X0 : Hid (Bn w11 (g 0) (false) xa (dlen (z 0)) xc (e 0) (false, z 0, e 0)) := X0.out.later hb'
                  replace X1 : Hid (Bn w11 (g 1) (false) ya (dlen (z 1)) yc (e 1) (false, z 1, e 1)) := X1.out.later hb'
                  replace X2 : Hid (Bn w11 (v9.heap.size) (s9) a9 (n9) c9 (e9) un) := X2.out.later hb'
                  replace X3 : Hid (Bn w11 (v10.heap.size) (s10) a10 (n10) c10 (e10) tq) := X3.out.later hb'
                  have HB11 : Hid (Below w.heap.size w w11) := HB10.out.trans (hb'.mono HB10.out.size)
                  clear kc hb hb' hp p0 p1 p2 q0 q1 q2 HB10
                  obtain ⟨⟨p0, p1, p2⟩, -⟩ := box_cells X3.out.1
                  obtain ⟨⟨q0, q1, q2⟩, -⟩ := box_cells X1.out.1
                  have kc := K.k2 w11 _ _ (HT.out.later HB11.out) X3.out.2 X1.out.2
                  rw [hW11] at p0 p1 p2 q0 q1 q2
                  go_wp2_with fail
                  rw [← hW11]
                  clear hW11
                  refine kc.mono ?_
                  rintro r v12 ⟨s12, a12, n12, c12, e12, rfl, hp, hb⟩
                  obtain ⟨w12, hW12⟩ : ∃ w12, w12 = v12.alloc (.cells #[.bool s12, .slice a12 n12 c12, .int .i64 e12] 25) := ⟨_, rfl⟩
                  have hb' : Below w11.heap.size w11 w12 := by rw [hW12]; exact hb.alloc hb.size _
                  have X5 : Hid (Bn w12 (v12.heap.size) (s12) a12 (n12) c12 (e12) tp) := (by rw [hW12]; exact Bn.new hp : Bn w12 (v12.heap.size) (s12) a12 (n12) c12 (e12) tp)
                  replace X0 : Hid (Bn w12 (g 0) (false) xa (dlen (z 0)) xc (e 0) (false, z 0, e 0)) := X0.out.later hb'
                  replace X1 : Hid (Bn w12 (g 1) (false) ya (dlen (z 1)) yc (e 1) (false, z 1, e 1)) := X1.out.later hb'
                  replace X2 : Hid (Bn w12 (v9.heap.size) (s9) a9 (n9) c9 (e9) un) := X2.out.later hb'
                  replace X3 : Hid (Bn w12 (v10.heap.size) (s10) a10 (n10) c10 (e10) tq) := X3.out.later hb'
                  replace X4 : Hid (Bn w12 (v11.heap.size) (s11) a11 (n11) c11 (e11) tm) := X4.out.later hb'
                  have HB12 : Hid (Below w.heap.size w w12) := HB11.out.trans (hb'.mono HB11.out.size)
                  clear kc hb hb' hp p0 p1 p2 q0 q1 q2 HB11
                  obtain ⟨⟨p0, p1, p2⟩, -⟩ := box_cells X4.out.1
                  obtain ⟨⟨q0, q1, q2⟩, -⟩ := box_cells X1.out.1
                  have kc := K.k3 w12 _ _ (HT.out.later HB12.out) X4.out.2 X1.out.2
                  rw [hW12] at p0 p1 p2 q0 q1 q2
                  go_wp2_with fail
                  rw [← hW12]
                  clear hW12
                  refine kc.mono ?_
                  rintro r v13 ⟨s13, a13, n13, c13, e13, rfl, hp, hb⟩
                  obtain ⟨w13, hW13⟩ : ∃ w13, w13 = v13.alloc (.cells #[.bool s13, .slice a13 n13 c13, .int .i64 e13] 25) := ⟨_, rfl⟩
                  have hb' : Below w12.heap.size w12 w13 := by rw [hW13]; exact hb.alloc hb.size _
                  have X6 : Hid (Bn w13 (v13.heap.size) (s13) a13 (n13) c13 (e13) tu) := (by rw [hW13]; exact Bn.new hp : Bn w13 (v13.heap.size) (s13) a13 (n13) c13 (e13) tu)
                  replace X0 : Hid (Bn w13 (g 0) (false) xa (dlen (z 0)) xc (e 0) (false, z 0, e 0)) := X0.out.later hb'
                  replace X1 : Hid (Bn w13 (g 1) (false) ya (dlen (z 1)) yc (e 1) (false, z 1, e 1)) := X1.out.later hb'
                  replace X2 : Hid (Bn w13 (v9.heap.size) (s9) a9 (n9) c9 (e9) un) := X2.out.later hb'
                  replace X3 : Hid (Bn w13 (v10.heap.size) (s10) a10 (n10) c10 (e10) tq) := X3.out.later hb'
                  replace X4 : Hid (Bn w13 (v11.heap.size) (s11) a11 (n11) c11 (e11) tm) := X4.out.later hb'
                  replace X5 : Hid (Bn w13 (v12.heap.size) (s12) a12 (n12) c12 (e12) tp) := X5.out.later hb'
                  have HB13 : Hid (Below w.heap.size w w13) := HB12.out.trans (hb'.mono HB12.out.size)
                  clear kc hb hb' hp p0 p1 p2 q0 q1 q2 HB12
                  obtain ⟨⟨p0, p1, p2⟩, -⟩ := box_cells X0.out.1
                  have kc := K.kR w13 _ (HT.out.later HB13.out) X0.out.2
                  rw [hW13] at p0 p1 p2
                  go_wp2_with fail
                  rw [← hW13]
                  clear hW13
                  refine kc.mono ?_
                  rintro r v14 ⟨s14, a14, n14, c14, e14, rfl, hp, hb⟩
                  obtain ⟨w14, hW14⟩ : ∃ w14, w14 = v14.alloc (.cells #[.bool s14, .slice a14 n14 c14, .int .i64 e14] 25) := ⟨_, rfl⟩
                  have hb' : Below w13.heap.size w13 w14 := by rw [hW14]; exact hb.alloc hb.size _
                  have X7 : Hid (Bn w14 (v14.heap.size) (s14) a14 (n14) c14 (e14) tr) := (by rw [hW14]; exact Bn.new hp : Bn w14 (v14.heap.size) (s14) a14 (n14) c14 (e14) tr)
                  replace X0 : Hid (Bn w14 (g 0) (false) xa (dlen (z 0)) xc (e 0) (false, z 0, e 0)) := X0.out.later hb'
                  replace X1 : Hid (Bn w14 (g 1) (false) ya (dlen (z 1)) yc (e 1) (false, z 1, e 1)) := X1.out.later hb'
                  replace X2 : Hid (Bn w14 (v9.heap.size) (s9) a9 (n9) c9 (e9) un) := X2.out.later hb'
                  replace X3 : Hid (Bn w14 (v10.heap.size) (s10) a10 (n10) c10 (e10) tq) := X3.out.later hb'
                  replace X4 : Hid (Bn w14 (v11.heap.size) (s11) a11 (n11) c11 (e11) tm) := X4.out.later hb'
                  replace X5 : Hid (Bn w14 (v12.heap.size) (s12) a12 (n12) c12 (e12) tp) := X5.out.later hb'
                  replace X6 : Hid (Bn w14 (v13.heap.size) (s13) a13 (n13) c13 (e13) tu) := X6.out.later hb'
                  have HB14 : Hid (Below w.heap.size w w14) := HB13.out.trans (hb'.mono HB13.out.size)
                  clear kc hb hb' hp p0 p1 p2 HB13
                  obtain ⟨⟨p0, p1, p2⟩, -⟩ := box_cells X7.out.1
                  obtain ⟨⟨q0, q1, q2⟩, -⟩ := box_cells X2.out.1
                  have kc := K.k4 w14 _ _ (HT.out.later HB14.out) X7.out.2 X2.out.2
                  rw [hW14] at p0 p1 p2 q0 q1 q2
                  go_wp2_with fail
                  rw [← hW14]
                  clear hW14
                  refine kc.mono ?_
                  rintro r v15 ⟨s15, a15, n15, c15, e15, rfl, hp, hb⟩
                  obtain ⟨w15, hW15⟩ : ∃ w15, w15 = v15.alloc (.cells #[.bool s15, .slice a15 n15 c15, .int .i64 e15] 25) := ⟨_, rfl⟩
                  have hb' : Below w14.heap.size w14 w15 := by rw [hW15]; exact hb.alloc hb.size _
                  have X8 : Hid (Bn w15 (v15.heap.size) (s15) a15 (n15) c15 (e15) ta) := (by rw [hW15]; exact Bn.new hp : Bn w15 (v15.heap.size) (s15) a15 (n15) c15 (e15) ta)
                  replace X0 : Hid (Bn w15 (g 0) (false) xa (dlen (z 0)) xc (e 0) (false, z 0, e 0)) := X0.out.later hb'
                  replace X1 : Hid (Bn w15 (g 1) (false) ya (dlen (z 1)) yc (e 1) (false, z 1, e 1)) := X1.out.later hb'
                  replace X2 : Hid (Bn w15 (v9.heap.size) (s9) a9 (n9) c9 (e9) un) := X2.out.later hb'
                  replace X3 : Hid (Bn w15 (v10.heap.size) (s10) a10 (n10) c10 (e10) tq) := X3.out.later hb'
                  replace X4 : Hid (Bn w15 (v11.heap.size) (s11) a11 (n11) c11 (e11) tm) := X4.out.later hb'
                  replace X5 : Hid (Bn w15 (v12.heap.size) (s12) a12 (n12) c12 (e12) tp) := X5.out.later hb'
                  replace X6 : Hid (Bn w15 (v13.heap.size) (s13) a13 (n13) c13 (e13) tu) := X6.out.later hb'
                  replace X7 : Hid (Bn w15 (v14.heap.size) (s14) a14 (n14) c14 (e14) tr) := X7.out.later hb'
                  have HB15 : Hid (Below w.heap.size w w15) := HB14.out.trans (hb'.mono HB14.out.size)
                  clear kc hb hb' hp p0 p1 p2 q0 q1 q2 HB14
                  obtain ⟨⟨p0, p1, p2⟩, -⟩ := box_cells X7.out.1
                  have kc := K.k5 w15 _ _ (HT.out.later HB15.out) X7.out.2 X7.out.2
                  rw [hW15] at p0 p1 p2
                  go_wp2_with fail
                  rw [← hW15]
                  clear hW15
                  refine kc.mono ?_
                  rintro r v16 ⟨s16, a16, n16, c16, e16, rfl, hp, hb⟩
                  obtain ⟨w16, hW16⟩ : ∃ w16, w16 = v16.alloc (.cells #[.bool s16, .slice a16 n16 c16, .int .i64 e16] 25) := ⟨_, rfl⟩
                  have hb' : Below w15.heap.size w15 w16 := by rw [hW16]; exact hb.alloc hb.size _
                  have X9 : Hid (Bn w16 (v16.heap.size) (s16) a16 (n16) c16 (e16) ts) := (by rw [hW16]; exact Bn.new hp : Bn w16 (v16.heap.size) (s16) a16 (n16) c16 (e16) ts)
                  replace X0 : Hid (Bn w16 (g 0) (false) xa (dlen (z 0)) xc (e 0) (false, z 0, e 0)) := X0.out.later hb'
                  replace X1 : Hid (Bn w16 (g 1) (false) ya (dlen (z 1)) yc (e 1) (false, z 1, e 1)) := X1.out.later hb'
                  replace X2 : Hid (Bn w16 (v9.heap.size) (s9) a9 (n9) c9 (e9) un) := X2.out.later hb'
                  replace X3 : Hid (Bn w16 (v10.heap.size) (s10) a10 (n10) c10 (e10) tq) := X3.out.later hb'
                  replace X4 : Hid (Bn w16 (v11.heap.size) (s11) a11 (n11) c11 (e11) tm) := X4.out.later hb'
                  replace X5 : Hid (Bn w16 (v12.heap.size) (s12) a12 (n12) c12 (e12) tp) := X5.out.later hb'
                  replace X6 : Hid (Bn w16 (v13.heap.size) (s13) a13 (n13) c13 (e13) tu) := X6.out.later hb'
                  replace X7 : Hid (Bn w16 (v14.heap.size) (s14) a14 (n14) c14 (e14) tr) := X7.out.later hb'
                  replace X8 : Hid (Bn w16 (v15.heap.size) (s15) a15 (n15) c15 (e15) ta) := X8.out.later hb'
                  have HB16 : Hid (Below w.heap.size w w16) := HB15.out.trans (hb'.mono HB15.out.size)
                  clear kc hb hb' hp p0 p1 p2 HB15
                  obtain ⟨⟨p0, p1, p2⟩, -⟩ := box_cells X8.out.1
                  have kc := K.k6 w16 _ _ (HT.out.later HB16.out) X8.out.2 X8.out.2
                  rw [hW16] at p0 p1 p2
                  go_wp2_with fail
                  rw [← hW16]
                  clear hW16
                  refine kc.mono ?_
                  rintro r v17 ⟨s17, a17, n17, c17, e17, rfl, hp, hb⟩
                  obtain ⟨w17, hW17⟩ : ∃ w17, w17 = v17.alloc (.cells #[.bool s17, .slice a17 n17 c17, .int .i64 e17] 25) := ⟨_, rfl⟩
                  have hb' : Below w16.heap.size w16 w17 := by rw [hW17]; exact hb.alloc hb.size _
                  have X10 : Hid (Bn w17 (v17.heap.size) (s17) a17 (n17) c17 (e17) tt) := (by rw [hW17]; exact Bn.new hp : Bn w17 (v17.heap.size) (s17) a17 (n17) c17 (e17) tt)
                  replace X0 : Hid (Bn w17 (g 0) (false) xa (dlen (z 0)) xc (e 0) (false, z 0, e 0)) := X0.out.later hb'
                  replace X1 : Hid (Bn w17 (g 1) (false) ya (dlen (z 1)) yc (e 1) (false, z 1, e 1)) := X1.out.later hb'
                  replace X2 : Hid (Bn w17 (v9.heap.size) (s9) a9 (n9) c9 (e9) un) := X2.out.later hb'
                  replace X3 : Hid (Bn w17 (v10.heap.size) (s10) a10 (n10) c10 (e10) tq) := X3.out.later hb'
                  replace X4 : Hid (Bn w17 (v11.heap.size) (s11) a11 (n11) c11 (e11) tm) := X4.out.later hb'
                  replace X5 : Hid (Bn w17 (v12.heap.size) (s12) a12 (n12) c12 (e12) tp) := X5.out.later hb'
                  replace X6 : Hid (Bn w17 (v13.heap.size) (s13) a13 (n13) c13 (e13) tu) := X6.out.later hb'
                  replace X7 : Hid (Bn w17 (v14.heap.size) (s14) a14 (n14) c14 (e14) tr) := X7.out.later hb'
                  replace X8 : Hid (Bn w17 (v15.heap.size) (s15) a15 (n15) c15 (e15) ta) := X8.out.later hb'
                  replace X9 : Hid (Bn w17 (v16.heap.size) (s16) a16 (n16) c16 (e16) ts) := X9.out.later hb'
                  have HB17 : Hid (Below w.heap.size w w17) := HB16.out.trans (hb'.mono HB16.out.size)
                  clear kc hb hb' hp p0 p1 p2 HB16
                  obtain ⟨f1, f1'⟩ := K.f1
                  have f2 := K.f2
                  obtain ⟨f3, f3'⟩ := K.f3
                  have f4 := K.f4
                  obtain ⟨⟨p0, p1, p2⟩, -⟩ := box_cells X5.out.1
                  obtain ⟨⟨q0, q1, q2⟩, -⟩ := box_cells X0.out.1
                  have kc := K.m1 w17 _ _ X5.out.2 X0.out.2
                  rw [hW17] at p0 p1 p2 q0 q1 q2
                  go_wp2_with fail
                  rw [← hW17]
                  clear hW17
                  refine kc.mono ?_
                  rintro r w18 ⟨rfl, hb'⟩
                  replace X0 : Hid (Bn w18 (g 0) (false) xa (dlen (z 0)) xc (e 0) (false, z 0, e 0)) := X0.out.later hb'
                  replace X5 : Hid (Bn w18 (v12.heap.size) (s12) a12 (n12) c12 (e12) tp) := X5.out.later hb'
                  replace X6 : Hid (Bn w18 (v13.heap.size) (s13) a13 (n13) c13 (e13) tu) := X6.out.later hb'
                  replace X9 : Hid (Bn w18 (v16.heap.size) (s16) a16 (n16) c16 (e16) ts) := X9.out.later hb'
                  replace X10 : Hid (Bn w18 (v17.heap.size) (s17) a17 (n17) c17 (e17) tt) := X10.out.later hb'
                  have HB18 : Hid (Below w.heap.size w w18) := HB17.out.trans (hb'.mono HB17.out.size)
                  clear kc hb' p0 p1 p2 q0 q1 q2 HB17
                  obtain ⟨⟨p0, p1, p2⟩, -⟩ := box_cells X6.out.1
                  obtain ⟨⟨q0, q1, q2⟩, -⟩ := box_cells X0.out.1
                  have kc := K.m2 w18 _ _ X6.out.2 X0.out.2
                  go_wp2_with fail
                  refine kc.mono ?_
                  rintro r w19 ⟨rfl, hb'⟩
                  replace X0 : Hid (Bn w19 (g 0) (false) xa (dlen (z 0)) xc (e 0) (false, z 0, e 0)) := X0.out.later hb'
                  replace X5 : Hid (Bn w19 (v12.heap.size) (s12) a12 (n12) c12 (e12) tp) := X5.out.later hb'
                  replace X6 : Hid (Bn w19 (v13.heap.size) (s13) a13 (n13) c13 (e13) tu) := X6.out.later hb'
                  replace X9 : Hid (Bn w19 (v16.heap.size) (s16) a16 (n16) c16 (e16) ts) := X9.out.later hb'
                  replace X10 : Hid (Bn w19 (v17.heap.size) (s17) a17 (n17) c17 (e17) tt) := X10.out.later hb'
                  have HB19 : Hid (Below w.heap.size w w19) := HB18.out.trans (hb'.mono HB18.out.size)
                  clear kc hb' p0 p1 p2 q0 q1 q2 HB18
                  obtain ⟨⟨p0, p1, p2⟩, -⟩ := box_cells X5.out.1
                  obtain ⟨⟨q0, q1, q2⟩, -⟩ := box_cells X0.out.1
                  have kc := K.m1 w19 _ _ X5.out.2 X0.out.2
                  go_wp2_with fail
                  refine kc.mono ?_
                  rintro r w20 ⟨rfl, hb'⟩
                  replace X0 : Hid (Bn w20 (g 0) (false) xa (dlen (z 0)) xc (e 0) (false, z 0, e 0)) := X0.out.later hb'
                  replace X5 : Hid (Bn w20 (v12.heap.size) (s12) a12 (n12) c12 (e12) tp) := X5.out.later hb'
                  replace X6 : Hid (Bn w20 (v13.heap.size) (s13) a13 (n13) c13 (e13) tu) := X6.out.later hb'
                  replace X9 : Hid (Bn w20 (v16.heap.size) (s16) a16 (n16) c16 (e16) ts) := X9.out.later hb'
                  replace X10 : Hid (Bn w20 (v17.heap.size) (s17) a17 (n17) c17 (e17) tt) := X10.out.later hb'
                  have HB20 : Hid (Below w.heap.size w w20) := HB19.out.trans (hb'.mono HB19.out.size)
                  clear kc hb' p0 p1 p2 q0 q1 q2 HB19
                  obtain ⟨⟨p0, p1, p2⟩, -⟩ := box_cells X9.out.1
                  obtain ⟨⟨q0, q1, q2⟩, -⟩ := box_cells X0.out.1
                  have kc := K.m3 w20 _ _ X9.out.2 X0.out.2
                  go_wp2_with fail
                  refine kc.mono ?_
                  rintro r w21 ⟨rfl, hb'⟩
                  replace X0 : Hid (Bn w21 (g 0) (false) xa (dlen (z 0)) xc (e 0) (false, z 0, e 0)) := X0.out.later hb'
                  replace X5 : Hid (Bn w21 (v12.heap.size) (s12) a12 (n12) c12 (e12) tp) := X5.out.later hb'
                  replace X6 : Hid (Bn w21 (v13.heap.size) (s13) a13 (n13) c13 (e13) tu) := X6.out.later hb'
                  replace X9 : Hid (Bn w21 (v16.heap.size) (s16) a16 (n16) c16 (e16) ts) := X9.out.later hb'
                  replace X10 : Hid (Bn w21 (v17.heap.size) (s17) a17 (n17) c17 (e17) tt) := X10.out.later hb'
                  have HB21 : Hid (Below w.heap.size w w21) := HB20.out.trans (hb'.mono HB20.out.size)
                  clear kc hb' p0 p1 p2 q0 q1 q2 HB20
                  obtain ⟨⟨p0, p1, p2⟩, -⟩ := box_cells X10.out.1
                  obtain ⟨⟨q0, q1, q2⟩, -⟩ := box_cells X0.out.1
                  have kc := K.m4 w21 _ _ X10.out.2 X0.out.2
                  go_wp2_with fail
                  refine kc.mono ?_
                  rintro r w22 ⟨rfl, hb'⟩
                  replace X0 : Hid (Bn w22 (g 0) (false) xa (dlen (z 0)) xc (e 0) (false, z 0, e 0)) := X0.out.later hb'
                  replace X5 : Hid (Bn w22 (v12.heap.size) (s12) a12 (n12) c12 (e12) tp) := X5.out.later hb'
                  replace X6 : Hid (Bn w22 (v13.heap.size) (s13) a13 (n13) c13 (e13) tu) := X6.out.later hb'
                  replace X9 : Hid (Bn w22 (v16.heap.size) (s16) a16 (n16) c16 (e16) ts) := X9.out.later hb'
                  replace X10 : Hid (Bn w22 (v17.heap.size) (s17) a17 (n17) c17 (e17) tt) := X10.out.later hb'
                  have HB22 : Hid (Below w.heap.size w w22) := HB21.out.trans (hb'.mono HB21.out.size)
                  clear kc hb' p0 p1 p2 q0 q1 q2 HB21
                  obtain ⟨⟨p0, p1, p2⟩, -⟩ := box_cells X9.out.1
                  obtain ⟨⟨q0, q1, q2⟩, -⟩ := box_cells X0.out.1
                  have kc := K.m3 w22 _ _ X9.out.2 X0.out.2
                  go_wp2_with fail
                  refine kc.mono ?_
                  rintro r w23 ⟨rfl, hb'⟩
                  replace X0 : Hid (Bn w23 (g 0) (false) xa (dlen (z 0)) xc (e 0) (false, z 0, e 0)) := X0.out.later hb'
                  replace X5 : Hid (Bn w23 (v12.heap.size) (s12) a12 (n12) c12 (e12) tp) := X5.out.later hb'
                  replace X6 : Hid (Bn w23 (v13.heap.size) (s13) a13 (n13) c13 (e13) tu) := X6.out.later hb'
                  replace X9 : Hid (Bn w23 (v16.heap.size) (s16) a16 (n16) c16 (e16) ts) := X9.out.later hb'
                  replace X10 : Hid (Bn w23 (v17.heap.size) (s17) a17 (n17) c17 (e17) tt) := X10.out.later hb'
                  have HB23 : Hid (Below w.heap.size w w23) := HB22.out.trans (hb'.mono HB22.out.size)
                  clear kc hb' p0 p1 p2 q0 q1 q2 HB22
                  have kc := H14.out w23 HB23.out
                  go_wp2_with fail
                  refine kc.mono ?_
                  rintro r w24 ⟨rfl, hb'⟩
                  have HB24 : Hid (Below w.heap.size w w24) := HB23.out.trans (hb'.mono HB23.out.size)
                  clear kc hb'
                  go_wp2_with fail
                  go_ret
                  exact ⟨rfl, HB24.out⟩
              · have c4' : min (e 0) (e 1) < -3000 := by omega
                go_wp2_with fail
                refine k2.mono ?_
                rintro r w9 ⟨rfl, hb9⟩
                have HW9 : Hid (Below w.heap.size w w9) := HW2.out.trans (hb9.mono HW2.out.size)
                clear k2 hb9
                go_wp2_with fail
                go_ret
                exact ⟨rfl, HW9.out⟩
            · have c3' : (3000 : Int) < max (e 0) (e 1) := by omega
              go_wp2_with fail
              refine k2.mono ?_
              rintro r w9 ⟨rfl, hb9⟩
              have HW9 : Hid (Below w.heap.size w w9) := HW2.out.trans (hb9.mono HW2.out.size)
              clear k2 hb9
              go_wp2_with fail
              go_ret
              exact ⟨rfl, HW9.out⟩
          · have c2' : ((ln 1 : Int) == 0) = true := by simp; omega
            go_wp2_with fail
            refine k2.mono ?_
            rintro r w9 ⟨rfl, hb9⟩
            have HW9 : Hid (Below w.heap.size w w9) := HW2.out.trans (hb9.mono HW2.out.size)
            clear k2 hb9
            go_wp2_with fail
            go_ret
            exact ⟨rfl, HW9.out⟩
        · have c1' : (100 : Int) < (ln 1 : Int) := by omega
          go_wp2_with fail
          refine k2.mono ?_
          rintro r w9 ⟨rfl, hb9⟩
          have HW9 : Hid (Below w.heap.size w w9) := HW2.out.trans (hb9.mono HW2.out.size)
          clear k2 hb9
          go_wp2_with fail
          go_ret
          exact ⟨rfl, HW9.out⟩
      · have c0' : (100 : Int) < (ln 0 : Int) := by omega
        go_wp2_with fail
        refine k2.mono ?_
        rintro r w9 ⟨rfl, hb9⟩
        have HW9 : Hid (Below w.heap.size w w9) := HW2.out.trans (hb9.mono HW2.out.size)
        clear k2 hb9
        go_wp2_with fail
        go_ret
        exact ⟨rfl, HW9.out⟩
end Go.Proofs.YtejefbnfmglfeaaGreatDoor

/- The document's product and order. -/
namespace Go.Proofs.YtejefbnfmglfeaaGreatDoor
set_option linter.unusedVariables false
set_option linter.unusedSimpArgs false
open Go.RowKit

/-- v is a slice that holds the digits of x (whatever its room) -/
def Ir (w : World) (v : Value) (x : Nat) : Prop := ∃ ao cap, v = .slice ao (dlen x) cap ∧ dlen x ≤ cap ∧ At w ao (dlen x) x
theorem Is.ir {w : World} {v : Value} {x : Nat} (h : Is w v x) : Ir w v x := by
  obtain ⟨ao, cap, h1, h2, h3, h4⟩ := h
  exact ⟨ao, cap, h1, h2, h4⟩
theorem Ir.later {w w' : World} {v : Value} {x : Nat} (h : Ir w v x) (hb : Below w.heap.size w w') : Ir w' v x := by
  obtain ⟨ao, cap, h1, h2, h3⟩ := h
  exact ⟨ao, cap, h1, h2, h3.later hb⟩
theorem Ir.nil (w : World) (ao : Option Addr) (cap : Nat) : Ir w (.slice ao 0 cap) 0 := ⟨ao, cap, by rw [dlen_zero], by rw [dlen_zero]; omega, 0, 0, fun h => by rw [dlen_zero] at h; omega, fun i hi => by rw [dlen_zero] at hi; omega⟩

theorem Mk.drewN {w wr : World} {n : Nat} {f : Nat → Nat} (h : Mk w wr n f) (d : Nat) : Mk w (wr.drewN d) n f :=
  ⟨⟨h.below.os, h.below.tape, h.below.output, h.below.size, h.below.block⟩, h.size, h.row⟩

theorem mul_word2 {c f d e : Nat} (hc : c < B) (hf : f < B) (hd : d < B) (he : e < B) :
    IntKind.u64.wrap (IntKind.u64.wrap (IntKind.u64.wrap (IntKind.u64.wrap (d : Int) * IntKind.u64.wrap (e : Int)) + IntKind.u64.wrap (f : Int)) + (c : Int)) = ((c + f + e * d : Nat) : Int) := by
  obtain ⟨h1, h2, h3⟩ := mac_fits hc hf hd he
  rw [wrap_d hd, wrap_d he, wrap_d hf, ← Int.natCast_mul, Nat.mul_comm d e]
  generalize e * d = m at *
  rw [IntKind.wrap_u64, IntKind.wrap_u64, IntKind.wrap_u64]
  omega

set_option maxHeartbeats 4000000 in
set_option maxRecDepth 200000 in
theorem rprod_1 (ao bo : Option Addr) (ba oa bb ob na nb ca cb x y : Nat) (w : World) (ha : ao = some ⟨ba, oa, none⟩) (hb : bo = some ⟨bb, ob, none⟩) (hna0 : 0 < na) (hnb0 : 0 < nb) (hna : na ≤ 1000000000) (hnb : nb ≤ 1000000000) (hx : dlen x = na) (hy : dlen y = nb)
    (hca : ∀ i, i < na → w.cell? ⟨ba, oa + i, none⟩ = some (.int .u32 (dg x i : Nat))) (hcb : ∀ i, i < nb → w.cell? ⟨bb, ob + i, none⟩ = some (.int .u32 (dg y i : Nat))) :
    Calls Tryz.prog 110 #[.slice ao na ca, .slice bo nb cb] w fun e w' => ∃ v, e = .returned v ∧ Own w' w.heap.size v (x * y) ∧ Below w.heap.size w w' := by
  subst ha hb
  have hmk := run_make_row' (P := Tryz.prog) 22 55 (.int .u32 0) 4 Tryz.underlying22 Tryz.info55 rfl .i64 .i64 (na + nb) (by omega) (by omega)
  rw [show ((na + nb : Nat) : Int) = (na : Int) + nb by omega] at hmk
  have HX : Hid (dlen x = na) := hx
  have HY : Hid (dlen y = nb) := hy
  have z1 : ((na : Int) == 0) = false := by simp; omega
  have z2 : ((nb : Int) == 0) = false := by simp; omega
  clear hx hy
  go_enter Tryz.func110, Tryz.ntmps110
  go_wp2
  clear hmk z1 z2
  go_loopw [6] (fun c wr => ∃ i : Nat, i ≤ na ∧ c = .int .i64 i ∧ Mk w wr (na + nb) (dg (x % B ^ i * y))) (fun c _ => na - (intOf c).toNat)
  case atStart => exact ⟨0, Nat.zero_le _, rfl, (Mk.start w _).congr fun t ht => by simp [Nat.mod_one, dg]⟩
  case round =>
    obtain ⟨i, hi, rfl, hO⟩ := hrel
    by_cases hia : i < na
    · have g1 := hO.old (hca i hia)
      have hii : (i : Int) < (na : Int) := by omega
      have HO : Hid (Mk w wr (na + nb) (dg (x % B ^ i * y))) := hO
      generalize hd : dg x i = d at *
      have HD : Hid (dg x i = d) := hd
      have HDL : Hid (d < B) := hd ▸ dg_lt _ _
      clear hd hO
      go_wp2
      go_loopw [7, 8] (fun c s wi => ∃ j : Nat, j ≤ nb ∧ c = .int .u64 (macc (x % B ^ i * y / B ^ i) y d j : Nat) ∧ s = .int .i64 j ∧ Mk w wi (na + nb) (mid x y i j)) (fun _ s _ => nb - (intOf s).toNat)
      case atStart => exact ⟨0, Nat.zero_le _, by rw [macc_zero]; rfl, rfl, HO.out.congr fun t ht => by
          unfold mid
          by_cases e : t < i + 0
          · rw [if_pos e, prod_low (by omega)]
          · rw [if_neg e]⟩
      case round =>
        obtain ⟨j, hj, rfl, rfl, hM⟩ := hrel
        by_cases hjb : j < nb
        · have g4 := hM.old (hcb j hjb)
          have g1' := hM.old (hca i hia)
          rw [HD.out] at g1'
          have hji : (j : Int) < (nb : Int) := by omega
          have g2 := hM.cell (i := i + j) (by omega)
          have g3 := hM.frozen (i + j)
          have hcl := macc_le (x % B ^ i * y / B ^ i) y d j
          have ef : mid x y i j (i + j) = dg (x % B ^ i * y) (i + j) := if_neg (by omega)
          rw [ef] at g2
          generalize hf : dg (x % B ^ i * y) (i + j) = f at *
          generalize he : dg y j = e at *
          generalize hc : macc (x % B ^ i * y / B ^ i) y d j = c at *
          have HE : Hid (dg (x % B ^ i * y) (i + j) = f ∧ dg y j = e ∧ macc (x % B ^ i * y / B ^ i) y d j = c) := ⟨hf, he, hc⟩
          have HL : Hid (c < B ∧ f < B ∧ e < B) := ⟨by have := HDL.out; omega, hf ▸ dg_lt _ _, he ▸ dg_lt _ _⟩
          have HM : Hid (Mk w wr (na + nb) (mid x y i j)) := hM
          clear hf he hc hcl hM hca hcb ef g1
          go_wp2
          go_quiet (fail)
          have g2' : (wr.drewN nq).cell? ⟨w.heap.size, i + j, none⟩ = some (.int .u32 (f : Nat)) := g2
          have g3' : (wr.drewN nq).frozen? ⟨w.heap.size, i + j, none⟩ = false := g3
          have HM2 : Hid (Mk w (wr.drewN nq) (na + nb) (mid x y i j)) := HM.out.drewN nq
          generalize wr.drewN nq = wq at *
          clear g1' g2 g3 g4
          go_wp2
          exact mul_round HM2.out (mul_word2 HL.out.1 HL.out.2.1 HDL.out HL.out.2.2) HD.out HE.out hjb
        · obtain rfl : j = nb := by omega
          have g2 := hM.cell (i := i + j) (by omega)
          have g3 := hM.frozen (i + j)
          have HM : Hid (Mk w wr (na + j) (mid x y i j)) := hM
          generalize hf : mid x y i j (i + j) = f at *
          generalize hc : macc (x % B ^ i * y / B ^ i) y d j = c at *
          have HC : Hid (macc (x % B ^ i * y / B ^ i) y d j = c) := hc
          clear hf hc hM hca hcb g1
          go_wp2
          exact mul_row HM.out HY.out HD.out HDL.out (by rw [HC.out]) hia
    · obtain rfl : i = na := by omega
      have hE : Mk w wr (i + nb) (dg (x * y)) := by
        have e : x % B ^ i = x := Nat.mod_eq_of_lt (by rw [← HX.out]; exact lt_dlen x)
        rw [e] at hO
        exact hO
      have hA := hE.at
      have hL : dlen (x * y) ≤ i + nb := by
        have h1 := prod_lt x y i
        rw [Nat.mod_eq_of_lt (by rw [← HX.out]; exact lt_dlen x), HY.out] at h1
        exact (dlen_le _ _).2 h1
      have HC : Hid (Mk w wr (i + nb) (dg (x * y))) := hE
      have k40 := r40 (some ⟨w.heap.size, 0, none⟩) (i + nb) (i + nb) (x * y) wr hL (Nat.le_refl _) (by omega) hA
      clear hO hca hcb hE hA
      go_wp2_with (first | (go_at_call 139; refine k40.mono ?_; rintro e w' ⟨rfl, rfl⟩))
      go_ret
      exact ⟨_, rfl, HC.out.own hL (by omega), HC.out.below⟩

set_option maxRecDepth 200000 in
theorem rprod_0 (ao bo : Option Addr) (na nb ca cb : Nat) (w : World) (h : na = 0 ∨ nb = 0) :
    Calls Tryz.prog 110 #[.slice ao na ca, .slice bo nb cb] w fun e w' => e = .returned (.slice none 0 0) ∧ w' = w := by
  by_cases h1 : na = 0
  · subst h1
    go_enter Tryz.func110, Tryz.ntmps110
    go_wp2
    go_ret
    exact ⟨rfl, rfl⟩
  · obtain rfl : nb = 0 := h.resolve_left h1
    have z1 : ((na : Int) == 0) = false := by simp; omega
    go_enter Tryz.func110, Tryz.ntmps110
    go_wp2
    go_ret
    exact ⟨rfl, rfl⟩

theorem rprod {u v : Value} {x y : Nat} {w : World} (h1 : Ir w u x) (h2 : Ir w v y) (hx : dlen x ≤ 1000000000) (hy : dlen y ≤ 1000000000) :
    Calls Tryz.prog 110 #[u, v] w fun e w' => ∃ v, e = .returned v ∧ Own w' w.heap.size v (x * y) ∧ Below w.heap.size w w' := by
  obtain ⟨ao, ca, rfl, a1, ba, oa, a3, a4⟩ := h1
  obtain ⟨bo, cb, rfl, b1, bb, ob, b3, b4⟩ := h2
  by_cases h : x = 0 ∨ y = 0
  · refine (rprod_0 ao bo _ _ ca cb w (h.imp (fun e => by rw [e, dlen_zero]) (fun e => by rw [e, dlen_zero]))).mono ?_
    rintro e w' ⟨rfl, rfl⟩
    refine ⟨_, rfl, .inl ⟨rfl, ?_⟩, Below.refl _ _⟩
    rcases h with h | h <;> rw [h] <;> simp
  · have hx0 : 0 < dlen x := Nat.pos_of_ne_zero fun e => h (.inl (dlen_eq_zero.1 e))
    have hy0 : 0 < dlen y := Nat.pos_of_ne_zero fun e => h (.inr (dlen_eq_zero.1 e))
    exact rprod_1 ao bo ba oa bb ob _ _ ca cb x y w (a3 hx0) (b3 hy0) hx0 hy0 hx hy rfl rfl a4 b4

set_option maxRecDepth 200000 in
theorem rord_1 (ao bo : Option Addr) (na nb ca cb : Nat) (w : World) (h : na ≠ nb) (hna : na ≤ 1000000000) (hnb : nb ≤ 1000000000) :
    Calls Tryz.prog 107 #[.slice ao na ca, .slice bo nb cb] w fun e w' => e = .returned (.int .i64 (cmpI na nb)) ∧ w' = w := by
  have h'' : ((na : Int) != (nb : Int)) = true := by simp; omega
  unfold cmpI
  by_cases hlt : (na : Int) < (nb : Int)
  · rw [if_pos hlt]
    go_enter Tryz.func107, Tryz.ntmps107
    go_wp2
    go_ret
    exact ⟨rfl, rfl⟩
  · rw [if_neg hlt, if_pos (by omega)]
    go_enter Tryz.func107, Tryz.ntmps107
    go_wp2
    go_ret
    exact ⟨rfl, rfl⟩

set_option maxRecDepth 200000 in
theorem rord_2 (ao bo : Option Addr) (ba oa bb ob n ca cb x y : Nat) (w : World) (ha : 0 < n → ao = some ⟨ba, oa, none⟩) (hb : 0 < n → bo = some ⟨bb, ob, none⟩) (hn : n ≤ 1000000000) (hx : dlen x = n) (hy : dlen y = n)
    (hca : ∀ i, i < n → w.cell? ⟨ba, oa + i, none⟩ = some (.int .u32 (dg x i : Nat))) (hcb : ∀ i, i < n → w.cell? ⟨bb, ob + i, none⟩ = some (.int .u32 (dg y i : Nat))) :
    Calls Tryz.prog 107 #[.slice ao n ca, .slice bo n cb] w fun e w' => e = .returned (.int .i64 (cmpI x y)) ∧ ∃ d, w' = w.drewN d := by
  have h'' : ((n : Int) != (n : Int)) = false := by simp
  have HXY : Hid (dlen x = n ∧ dlen y = n) := ⟨hx, hy⟩
  clear hx hy
  go_enter Tryz.func107, Tryz.ntmps107
  go_wp2
  go_loopw [5] (fun i wr => ∃ (j d : Nat), j ≤ n ∧ i = .int .i64 ((j : Int) - 1) ∧ wr = w.drewN d ∧ Hid (x / B ^ j = y / B ^ j)) (fun i _ => (intOf i + 1).toNat)
  case atStart => exact ⟨n, 0, Nat.le_refl _, rfl, rfl, (by rw [Nat.div_eq_of_lt ((dlen_le n x).1 (by rw [HXY.out.1]; omega)), Nat.div_eq_of_lt ((dlen_le n y).1 (by rw [HXY.out.2]; omega))] : x / B ^ n = y / B ^ n)⟩
  case round =>
    obtain ⟨j, d, hj, rfl, rfl, hh⟩ := hrel
    by_cases hj0 : j = 0
    · subst hj0
      have e : x = y := by have := hh.out; simpa using this
      have HE : Hid (cmpI x y = 0) := (by subst e; unfold cmpI; simp : cmpI x y = 0)
      clear hh e hca hcb
      go_wp2
      go_ret
      rw [HE.out]
      exact ⟨rfl, d, rfl⟩
    · obtain ⟨i, rfl⟩ : ∃ i, j = i + 1 := ⟨j - 1, by omega⟩
      have hi : i < n := by omega
      obtain rfl := ha (by omega)
      obtain rfl := hb (by omega)
      have g1 : (w.drewN d).cell? ⟨ba, oa + i, none⟩ = some (.int .u32 (dg x i : Nat)) := hca i hi
      have g2 : (w.drewN d).cell? ⟨bb, ob + i, none⟩ = some (.int .u32 (dg y i : Nat)) := hcb i hi
      have hii : (i : Int) < (n : Int) := by omega
      have ei : ((i + 1 : Nat) : Int) - 1 = (i : Int) := by omega
      rw [ei]
      generalize hdx : dg x i = dx at *
      generalize hdy : dg y i = dy at *
      have HD : Hid (dg x i = dx ∧ dg y i = dy) := ⟨hdx, hdy⟩
      clear hca hcb hdx hdy ei
      have HW : Hid (∃ d', w.drewN d = w.drewN d') := ⟨d, rfl⟩
      generalize w.drewN d = wd at *
      by_cases hne : dx = dy
      · subst hne
        have t1 : ((dx : Int) != (dx : Int)) = false := by simp
        go_wp2
        go_quiet (fail)
        go_wp2
        obtain ⟨d', rfl⟩ := HW.out
        exact ⟨⟨i, _, by omega, rfl, World.drewN_drewN .., (top_step hh.out (HD.out.1.trans HD.out.2.symm) : x / B ^ i = y / B ^ i)⟩, by simp [intOf]⟩
      · have t1 : ((dx : Int) != (dy : Int)) = true := by simp; omega
        by_cases hlt : dx < dy
        · have t2 : (dx : Int) < (dy : Int) := by omega
          have HC : Hid (cmpI x y = -1) := by
            have h1 := HD.out
            have := lt_of_top (i := i) hh.out (by omega)
            show cmpI x y = -1
            unfold cmpI
            rw [if_pos (by omega)]
          go_wp2
          go_quiet (fail)
          go_wp2
          have HV : Hid (∃ d', wd.drewN nq = w.drewN d') := by
            obtain ⟨d', e⟩ := HW.out
            exact ⟨_, by rw [e]; exact World.drewN_drewN ..⟩
          have g1' : (wd.drewN nq).cell? ⟨ba, oa + i, none⟩ = some (.int .u32 (dx : Nat)) := g1
          have g2' : (wd.drewN nq).cell? ⟨bb, ob + i, none⟩ = some (.int .u32 (dy : Nat)) := g2
          generalize wd.drewN nq = wq at *
          go_quiet (fail)
          go_wp2
          go_ret
          obtain ⟨d', e⟩ := HV.out
          rw [HC.out, e]
          exact ⟨rfl, _, World.drewN_drewN ..⟩
        · have t2 : ¬ (dx : Int) < (dy : Int) := by omega
          have HC : Hid (cmpI x y = 1) := by
            have h1 := HD.out
            have := lt_of_top (i := i) hh.out.symm (by omega)
            show cmpI x y = 1
            unfold cmpI
            rw [if_neg (by omega), if_pos (by omega)]
          go_wp2
          go_quiet (fail)
          go_wp2
          have HV : Hid (∃ d', wd.drewN nq = w.drewN d') := by
            obtain ⟨d', e⟩ := HW.out
            exact ⟨_, by rw [e]; exact World.drewN_drewN ..⟩
          have g1' : (wd.drewN nq).cell? ⟨ba, oa + i, none⟩ = some (.int .u32 (dx : Nat)) := g1
          have g2' : (wd.drewN nq).cell? ⟨bb, ob + i, none⟩ = some (.int .u32 (dy : Nat)) := g2
          generalize wd.drewN nq = wq at *
          go_quiet (fail)
          go_wp2
          go_ret
          obtain ⟨d', e⟩ := HV.out
          rw [HC.out, e]
          exact ⟨rfl, _, World.drewN_drewN ..⟩

theorem rord {u v : Value} {x y : Nat} {w : World} (h1 : Ir w u x) (h2 : Ir w v y) (hx : dlen x ≤ 1000000000) (hy : dlen y ≤ 1000000000) :
    Calls Tryz.prog 107 #[u, v] w fun e w' => e = .returned (.int .i64 (cmpI x y)) ∧ ∃ d, w' = w.drewN d := by
  obtain ⟨ao, ca, rfl, a1, ba, oa, a3, a4⟩ := h1
  obtain ⟨bo, cb, rfl, b1, bb, ob, b3, b4⟩ := h2
  by_cases h : dlen x = dlen y
  · rw [← h] at b3 b4 ⊢
    exact rord_2 ao bo ba oa bb ob _ ca cb x y w a3 b3 hx rfl h.symm a4 b4
  · refine (rord_1 ao bo _ _ ca cb w h hx hy).mono ?_
    rintro e w' ⟨rfl, rfl⟩
    refine ⟨congrArg Ending.returned (congrArg (Value.int IntKind.i64) ?_), 0, rfl⟩
    unfold cmpI
    rcases Nat.lt_or_gt_of_ne h with h2 | h2
    · have := lt_of_dlen h2
      rw [if_pos (by omega), if_pos (by omega)]
    · have := lt_of_dlen h2
      rw [if_neg (by omega), if_pos (by omega), if_neg (by omega), if_pos (by omega)]
end Go.Proofs.YtejefbnfmglfeaaGreatDoor

/- The document's sum and less. -/
namespace Go.Proofs.YtejefbnfmglfeaaGreatDoor
set_option linter.unusedVariables false
set_option linter.unusedSimpArgs false
open Go.RowKit

/-- a digit appended to a row -/
theorem row_step {w wr w' : World} {j z : Nat} {q : Int} {v v' : Value} (hq : q = (dg z j : Nat)) (hB : Below w.heap.size w wr) (ho : wr.ownsRow w.heap.size 55 1 v j (cells z j))
    (ho' : w'.ownsRow w.heap.size 55 1 v' (j + 1) (cells z j ++ [.int .u32 q])) (hg : (wr.alloc (.cells #[.int .u32 q] 55)).grownBy w' v.ownBlock) :
    w'.ownsRow w.heap.size 55 1 v' (j + 1) (cells z (j + 1)) ∧ Below w.heap.size w w' :=
  ⟨by rw [cells_succ, ← hq]; exact ho', (hB.alloc hB.size _).grown hg (by simp; have := hB.size; omega) (fun k hk => (ho.lt k hk).1)⟩

theorem addc_top {x y n : Nat} (hx : x < B ^ n) (hy : y < B ^ n) : addc x y n = (x + y) / B ^ n := by
  unfold addc
  rw [Nat.mod_eq_of_lt hx, Nat.mod_eq_of_lt hy]

set_option maxHeartbeats 4000000 in
set_option maxRecDepth 200000 in
theorem rsum_1 (ao bo : Option Addr) (ba oa bb ob na nb ca cb x y N : Nat) (w : World) (ha : 0 < na → ao = some ⟨ba, oa, none⟩) (hb : 0 < nb → bo = some ⟨bb, ob, none⟩) (hN : N = max na nb) (hNb : N ≤ 1000000000) (hx : dlen x = na) (hy : dlen y = nb)
    (hca : ∀ i, i < na → w.cell? ⟨ba, oa + i, none⟩ = some (.int .u32 (dg x i : Nat))) (hcb : ∀ i, i < nb → w.cell? ⟨bb, ob + i, none⟩ = some (.int .u32 (dg y i : Nat))) :
    Calls Tryz.prog 106 #[.slice ao na ca, .slice bo nb cb] w fun e w' => ∃ v, e = .returned v ∧ Ir w' v (x + y) ∧ Below w.heap.size w w' := by
  have HXY : Hid (dlen x = na ∧ dlen y = nb ∧ N = max na nb) := ⟨hx, hy, hN⟩
  have HCA : Hid (∀ i, i < na → w.cell? ⟨ba, oa + i, none⟩ = some (.int .u32 (dg x i : Nat))) := hca
  have HCB : Hid (∀ i, i < nb → w.cell? ⟨bb, ob + i, none⟩ = some (.int .u32 (dg y i : Nat))) := hcb
  have hNa : na ≤ N := by omega
  have hNb2 : nb ≤ N := by omega
  clear hx hy hca hcb hN
  go_enter Tryz.func106, Tryz.ntmps106
  go_wp2
  go_loopw [5, 6, 7] (fun v c i wr => ∃ j : Nat, j ≤ N ∧ c = .int .u64 (addc x y j : Nat) ∧ i = .int .i64 j ∧ wr.ownsRow w.heap.size 55 1 v j (cells (x + y) j) ∧ Below w.heap.size w wr) (fun _ _ i _ => N - (intOf i).toNat)
  case atStart => exact ⟨0, Nat.zero_le _, by rw [addc_zero]; rfl, rfl, World.ownsRow_nil .., Below.refl _ _⟩
  case round =>
    obtain ⟨j, hj, rfl, rfl, ho, hB⟩ := hrel
    have HO : Hid (wr.ownsRow w.heap.size 55 1 u5 j (cells (x + y) j)) := ho
    have HB : Hid (Below w.heap.size w wr) := hB
    have hbs : w.heap.size ≤ wr.heap.size := hB.size
    have HL : Hid (dg x j < B ∧ dg y j < B ∧ addc x y j ≤ 1) := ⟨dg_lt _ _, dg_lt _ _, addc_le _ _ _⟩
    by_cases hjN : j < N
    · -- what comes to the carry, from both
      have hkey : ∀ (dx dy c Q : Nat), dg x j = dx → dg y j = dy → addc x y j = c → Q = c + dx + dy → ((Q : Int) % 4294967296 = (dg (x + y) j : Nat)) ∧ ((Q : Int) / 4294967296 = (addc x y (j + 1) : Nat)) := by
        rintro dx dy c Q rfl rfl rfl rfl
        rw [dg_add, addc_succ]
        unfold B
        omega
      have HKY : Hid (∀ (dx dy c Q : Nat), dg x j = dx → dg y j = dy → addc x y j = c → Q = c + dx + dy → ((Q : Int) % 4294967296 = (dg (x + y) j : Nat)) ∧ ((Q : Int) / 4294967296 = (addc x y (j + 1) : Nat))) := hkey
      obtain ⟨i0, hi0, hz0, hz1, hz2⟩ := info_parts Tryz.info55
      have e64 : ∀ q : Int, 0 ≤ q → q < 18446744073709551616 → IntKind.u64.wrap q = q := fun q h1 h2 => by rw [IntKind.wrap_u64]; omega
      by_cases hja : j < na
      · obtain rfl := ha (by omega)
        have g1 := (hB.cell (World.block_lt_of_cell? _ _ (HCA.out j hja))).trans (HCA.out j hja)
        have hji : (j : Int) < (na : Int) := by omega
        by_cases hjb : j < nb
        · obtain rfl := hb (by omega)
          have g4 := (hB.cell (World.block_lt_of_cell? _ _ (HCB.out j hjb))).trans (HCB.out j hjb)
          have hji2 : (j : Int) < (nb : Int) := by omega
          generalize hd : dg x j = d at *
          generalize hd1 : dg y j = d1 at *
          generalize hc : addc x y j = c at *
          obtain ⟨K, hK⟩ : ∃ K : Nat, K = c + d := ⟨_, rfl⟩
          obtain ⟨Q, hQ⟩ : ∃ Q : Nat, Q = c + d + d1 := ⟨_, rfl⟩
          have w1 : IntKind.u64.wrap (d : Int) = (d : Int) := wrap_d HL.out.1
          have w2 : IntKind.u64.wrap (d1 : Int) = (d1 : Int) := wrap_d HL.out.2.1
          have hl := HL.out
          unfold B at hl
          have w3 : IntKind.u64.wrap ((c : Int) + (d : Int)) = (K : Int) := by rw [e64 _ (by omega) (by omega)]; omega
          have w4 : IntKind.u64.wrap ((K : Int) + (d1 : Int)) = (Q : Int) := by rw [e64 _ (by omega) (by omega)]; omega
          have HD : Hid ((Q : Int) % 4294967296 = (dg (x + y) j : Nat) ∧ (Q : Int) / 4294967296 = (addc x y (j + 1) : Nat)) := HKY.out d d1 c Q rfl rfl rfl hQ
          clear hd hd1 hc hB hl hkey e64 hK hQ
          go_wp2_with (at_builtin; refine wpList_append_own _ rfl _ _ 22 rfl w.heap.size 55 i0 (.int .u32 0) 1 4 Tryz.underlying22 hi0 hz0 hz1 hz2 rfl (by decide) _ _ _ rfl (ho.alloc _) ⟨wr.heap.size, 0, none⟩ 1 1 [.int .u32 ((Q : Int) % 4294967296)] rfl rfl (cell_one_new _ _ _) (by intro u hu; simp at hu; subst hu; rfl) (by unfold maxLen; omega) (by omega) (by simp; omega) ?_)
          intro v' w5 hown5 hgrow _
          obtain ⟨r1, r2⟩ := row_step HD.out.1 HB.out HO.out hown5 hgrow
          have HR : Hid (w5.ownsRow w.heap.size 55 1 v' (j + 1) (cells (x + y) (j + 1)) ∧ Below w.heap.size w w5) := ⟨r1, r2⟩
          clear hown5 hgrow r1 r2 ho
          go_wp2
          exact ⟨⟨j + 1, by omega, by rw [HD.out.2], by simp, HR.out⟩, by simp [intOf]; omega⟩
        · have hji2 : ¬ (j : Int) < (nb : Int) := by omega
          have hd1 : dg y j = 0 := dg_past (by rw [HXY.out.2.1]; omega)
          generalize hd : dg x j = d at *
          generalize hc : addc x y j = c at *
          obtain ⟨Q, hQ⟩ : ∃ Q : Nat, Q = c + d + 0 := ⟨_, rfl⟩
          have w1 : IntKind.u64.wrap (d : Int) = (d : Int) := wrap_d HL.out.1
          have hl := HL.out
          unfold B at hl
          have w3 : IntKind.u64.wrap ((c : Int) + (d : Int)) = (Q : Int) := by rw [e64 _ (by omega) (by omega)]; omega
          have HD : Hid ((Q : Int) % 4294967296 = (dg (x + y) j : Nat) ∧ (Q : Int) / 4294967296 = (addc x y (j + 1) : Nat)) := HKY.out d 0 c Q rfl hd1 rfl hQ
          clear hd hd1 hc hB hl hkey e64 hQ
          go_wp2_with (at_builtin; refine wpList_append_own _ rfl _ _ 22 rfl w.heap.size 55 i0 (.int .u32 0) 1 4 Tryz.underlying22 hi0 hz0 hz1 hz2 rfl (by decide) _ _ _ rfl (ho.alloc _) ⟨wr.heap.size, 0, none⟩ 1 1 [.int .u32 ((Q : Int) % 4294967296)] rfl rfl (cell_one_new _ _ _) (by intro u hu; simp at hu; subst hu; rfl) (by unfold maxLen; omega) (by omega) (by simp; omega) ?_)
          intro v' w5 hown5 hgrow _
          obtain ⟨r1, r2⟩ := row_step HD.out.1 HB.out HO.out hown5 hgrow
          have HR : Hid (w5.ownsRow w.heap.size 55 1 v' (j + 1) (cells (x + y) (j + 1)) ∧ Below w.heap.size w w5) := ⟨r1, r2⟩
          clear hown5 hgrow r1 r2 ho
          go_wp2
          exact ⟨⟨j + 1, by omega, by rw [HD.out.2], by simp, HR.out⟩, by simp [intOf]; omega⟩
      · have hji : ¬ (j : Int) < (na : Int) := by omega
        have hjb : j < nb := by have := HXY.out.2.2; omega
        obtain rfl := hb (by omega)
        have g4 := (hB.cell (World.block_lt_of_cell? _ _ (HCB.out j hjb))).trans (HCB.out j hjb)
        have hji2 : (j : Int) < (nb : Int) := by omega
        have hd : dg x j = 0 := dg_past (by rw [HXY.out.1]; omega)
        generalize hd1 : dg y j = d1 at *
        generalize hc : addc x y j = c at *
        obtain ⟨Q, hQ⟩ : ∃ Q : Nat, Q = c + 0 + d1 := ⟨_, rfl⟩
        have w2 : IntKind.u64.wrap (d1 : Int) = (d1 : Int) := wrap_d HL.out.2.1
        have hl := HL.out
        unfold B at hl
        have w4 : IntKind.u64.wrap ((c : Int) + (d1 : Int)) = (Q : Int) := by rw [e64 _ (by omega) (by omega)]; omega
        have HD : Hid ((Q : Int) % 4294967296 = (dg (x + y) j : Nat) ∧ (Q : Int) / 4294967296 = (addc x y (j + 1) : Nat)) := HKY.out 0 d1 c Q hd rfl rfl hQ
        clear hd hd1 hc hB hl hkey e64 hQ
        go_wp2_with (at_builtin; refine wpList_append_own _ rfl _ _ 22 rfl w.heap.size 55 i0 (.int .u32 0) 1 4 Tryz.underlying22 hi0 hz0 hz1 hz2 rfl (by decide) _ _ _ rfl (ho.alloc _) ⟨wr.heap.size, 0, none⟩ 1 1 [.int .u32 ((Q : Int) % 4294967296)] rfl rfl (cell_one_new _ _ _) (by intro u hu; simp at hu; subst hu; rfl) (by unfold maxLen; omega) (by omega) (by simp; omega) ?_)
        intro v' w5 hown5 hgrow _
        obtain ⟨r1, r2⟩ := row_step HD.out.1 HB.out HO.out hown5 hgrow
        have HR : Hid (w5.ownsRow w.heap.size 55 1 v' (j + 1) (cells (x + y) (j + 1)) ∧ Below w.heap.size w w5) := ⟨r1, r2⟩
        clear hown5 hgrow r1 r2 ho
        go_wp2
        exact ⟨⟨j + 1, by omega, by rw [HD.out.2], by simp, HR.out⟩, by simp [intOf]; omega⟩
    · obtain rfl : j = N := by omega
      have hjna : ¬ (j : Int) < (na : Int) := by omega
      have hjnb : ¬ (j : Int) < (nb : Int) := by omega
      obtain ⟨l1, l2, l3⟩ := HXY.out
      have hxl : x < B ^ j := (dlen_le j x).1 (by omega)
      have hyl : y < B ^ j := (dlen_le j y).1 (by omega)
      have htop := addc_top hxl hyl
      have hc1 := HL.out.2.2
      by_cases hc0 : addc x y j = 0
      · have hlen : dlen (x + y) = j := by
          have h1 : x + y < B ^ j := by
            rw [hc0] at htop
            exact (Nat.div_eq_zero_iff.1 htop.symm).resolve_left (by have := Bpow_pos j; omega)
          have h2 : dlen (x + y) ≤ j := (dlen_le _ _).2 h1
          have h3 : dlen x ≤ dlen (x + y) := dlen_mono (by omega)
          have h4 : dlen y ≤ dlen (x + y) := dlen_mono (by omega)
          omega
        rw [hc0]
        obtain ⟨ao', cap', rfl, hcp, hA⟩ := at_of_row ho
        have HR : Hid (Ir wr (.slice ao' j cap') (x + y)) := ⟨ao', cap', by rw [hlen], by omega, by rw [hlen]; exact hA⟩
        clear ho hB hlen htop hxl hyl l1 l2 l3 hA hc0 hc1
        go_wp2
        go_ret
        exact ⟨_, rfl, HR.out, HB.out⟩
      · have hc : addc x y j = 1 := by omega
        have hlen : dlen (x + y) = j + 1 := by
          have h1 : B ^ j ≤ x + y := by
            rw [hc] at htop
            refine Nat.le_of_not_lt fun h => ?_
            rw [Nat.div_eq_of_lt h] at htop; omega
          have h2 : ¬ dlen (x + y) ≤ j := fun h => by have := (dlen_le _ _).1 h; omega
          have h3 := dlen_add_le x y
          omega
        have hdg : dg (x + y) j = 1 := by
          rw [dg_add, dg_past (x := x) (by omega), dg_past (x := y) (by omega), hc]
          decide
        have HD : Hid ((1 : Int) = (dg (x + y) j : Nat)) := (by rw [hdg]; rfl : (1 : Int) = (dg (x + y) j : Nat))
        have HLN : Hid (dlen (x + y) = j + 1) := hlen
        rw [hc]
        obtain ⟨i0, hi0, hz0, hz1, hz2⟩ := info_parts Tryz.info55
        clear hB hlen htop hxl hyl l1 l2 l3 hc0 hc1 hc hdg
        go_wp2_with (at_builtin; refine wpList_append_own _ rfl _ _ 22 rfl w.heap.size 55 i0 (.int .u32 0) 1 4 Tryz.underlying22 hi0 hz0 hz1 hz2 rfl (by decide) _ _ _ rfl (ho.alloc _) ⟨wr.heap.size, 0, none⟩ 1 1 [.int .u32 1] rfl rfl (cell_one_new _ _ _) (by intro u hu; simp at hu; subst hu; rfl) (by unfold maxLen; omega) (by omega) (by simp; omega) ?_)
        intro v' w5 hown5 hgrow _
        obtain ⟨r1, r2⟩ := row_step HD.out HB.out HO.out hown5 hgrow
        obtain ⟨ao', cap', rfl, hcp, hA⟩ := at_of_row r1
        have HR : Hid (Ir w5 (.slice ao' (j + 1) cap') (x + y) ∧ Below w.heap.size w w5) := ⟨⟨ao', cap', by rw [HLN.out], by rw [HLN.out]; omega, by rw [HLN.out]; exact hA⟩, r2⟩
        clear hown5 hgrow r1 r2 ho hA hcp
        go_wp2
        go_ret
        exact ⟨_, rfl, HR.out⟩

theorem rsum {u v : Value} {x y : Nat} {w : World} (h1 : Ir w u x) (h2 : Ir w v y) (hx : dlen x ≤ 1000000000) (hy : dlen y ≤ 1000000000) :
    Calls Tryz.prog 106 #[u, v] w fun e w' => ∃ v, e = .returned v ∧ Ir w' v (x + y) ∧ Below w.heap.size w w' := by
  obtain ⟨ao, ca, rfl, a1, ba, oa, a3, a4⟩ := h1
  obtain ⟨bo, cb, rfl, b1, bb, ob, b3, b4⟩ := h2
  exact rsum_1 ao bo ba oa bb ob _ _ ca cb x y _ w a3 b3 rfl (by omega) rfl rfl a4 b4
end Go.Proofs.YtejefbnfmglfeaaGreatDoor

/- The document's less and up. -/
namespace Go.Proofs.YtejefbnfmglfeaaGreatDoor
set_option linter.unusedVariables false
set_option linter.unusedSimpArgs false
open Go.RowKit

set_option maxHeartbeats 4000000 in
set_option maxRecDepth 200000 in
theorem rless_1 (ao bo : Option Addr) (ba oa bb ob na nb ca cb x y : Nat) (w : World) (ha : 0 < na → ao = some ⟨ba, oa, none⟩) (hb : 0 < nb → bo = some ⟨bb, ob, none⟩) (hna : na ≤ 1000000000) (hx : dlen x = na) (hy : dlen y = nb) (hle : y ≤ x)
    (hca : ∀ i, i < na → w.cell? ⟨ba, oa + i, none⟩ = some (.int .u32 (dg x i : Nat))) (hcb : ∀ i, i < nb → w.cell? ⟨bb, ob + i, none⟩ = some (.int .u32 (dg y i : Nat))) :
    Calls Tryz.prog 108 #[.slice ao na ca, .slice bo nb cb] w fun e w' => ∃ v, e = .returned v ∧ Ir w' v (x - y) ∧ Below w.heap.size w w' := by
  have hnb : nb ≤ na := by have := dlen_mono hle; omega
  have HXY : Hid (dlen x = na ∧ dlen y = nb) := ⟨hx, hy⟩
  have HWS : Hid (wsub x y na = x - y) := wsub_of_le (by rw [← hx]; exact lt_dlen x) hle
  have HCA : Hid (∀ i, i < na → w.cell? ⟨ba, oa + i, none⟩ = some (.int .u32 (dg x i : Nat))) := hca
  have HCB : Hid (∀ i, i < nb → w.cell? ⟨bb, ob + i, none⟩ = some (.int .u32 (dg y i : Nat))) := hcb
  clear hx hy hca hcb hle
  go_enter Tryz.func108, Tryz.ntmps108
  go_wp2
  go_loopw [5, 6, 7] (fun v c i wr => ∃ j : Nat, j ≤ na ∧ c = .int .u64 (subb x y j : Nat) ∧ i = .int .i64 j ∧ wr.ownsRow w.heap.size 55 1 v j (cells (x - y) j) ∧ Below w.heap.size w wr) (fun _ _ i _ => na - (intOf i).toNat)
  case atStart => exact ⟨0, Nat.zero_le _, by rw [subb_zero]; rfl, rfl, World.ownsRow_nil .., Below.refl _ _⟩
  case round =>
    obtain ⟨j, hj, rfl, rfl, ho, hB⟩ := hrel
    have HO : Hid (wr.ownsRow w.heap.size 55 1 u5 j (cells (x - y) j)) := ho
    have HB : Hid (Below w.heap.size w wr) := hB
    have hbs : w.heap.size ≤ wr.heap.size := hB.size
    by_cases hja : j < na
    · have HL : Hid (dg x j < B ∧ dg y j < B ∧ subb x y j ≤ 1) := ⟨dg_lt _ _, dg_lt _ _, subb_le _ _ _⟩
      have HKY : Hid (∀ (dx dy c : Nat) (Q : Int), dg x j = dx → dg y j = dy → subb x y j = c → Q = ((dx : Int) - c - dy) % 18446744073709551616 → (Q % 4294967296 = (dg (x - y) j : Nat)) ∧ (Q / 9223372036854775808 = (subb x y (j + 1) : Nat))) := by
        intro dx dy c Q e1 e2 e3 e4
        have h1 : dg (x - y) j = (dg x j + B + B - dg y j - subb x y j) % B := by rw [← HWS.out, dg_wsub hja]
        have h2 := subb_succ x y j
        obtain ⟨l1, l2, l3⟩ := HL.out
        rw [e1, e2, e3] at h1 h2
        rw [e1] at l1
        rw [e2] at l2
        rw [e3] at l3
        unfold B at *
        rw [h1, h2]
        by_cases hlt : dx < dy + c
        · rw [if_pos hlt]; omega
        · rw [if_neg hlt]; omega
      obtain rfl := ha (by omega)
      have g1 := (hB.cell (World.block_lt_of_cell? _ _ (HCA.out j hja))).trans (HCA.out j hja)
      have hji : (j : Int) < (na : Int) := by omega
      obtain ⟨i0, hi0, hz0, hz1, hz2⟩ := info_parts Tryz.info55
      by_cases hjb : j < nb
      · obtain rfl := hb (by omega)
        have g4 := (hB.cell (World.block_lt_of_cell? _ _ (HCB.out j hjb))).trans (HCB.out j hjb)
        have hji2 : (j : Int) < (nb : Int) := by omega
        generalize hd : dg x j = d at *
        generalize hd1 : dg y j = d1 at *
        generalize hc : subb x y j = c at *
        obtain ⟨K, hK⟩ : ∃ K : Int, K = ((d : Int) - c) % 18446744073709551616 := ⟨_, rfl⟩
        obtain ⟨Q, hQ⟩ : ∃ Q : Int, Q = ((d : Int) - c - d1) % 18446744073709551616 := ⟨_, rfl⟩
        have w1 : IntKind.u64.wrap (d : Int) = (d : Int) := wrap_d HL.out.1
        have w2 : IntKind.u64.wrap (d1 : Int) = (d1 : Int) := wrap_d HL.out.2.1
        have w3 : IntKind.u64.wrap ((d : Int) - (c : Int)) = K := by rw [IntKind.wrap_u64]; omega
        have w4 : IntKind.u64.wrap (K - (d1 : Int)) = Q := by rw [IntKind.wrap_u64]; omega
        have HD : Hid (Q % 4294967296 = (dg (x - y) j : Nat) ∧ Q / 9223372036854775808 = (subb x y (j + 1) : Nat)) := HKY.out d d1 c Q rfl rfl rfl hQ
        clear hd hd1 hc hB hK hQ
        go_wp2_with (at_builtin; refine wpList_append_own _ rfl _ _ 22 rfl w.heap.size 55 i0 (.int .u32 0) 1 4 Tryz.underlying22 hi0 hz0 hz1 hz2 rfl (by decide) _ _ _ rfl (ho.alloc _) ⟨wr.heap.size, 0, none⟩ 1 1 [.int .u32 (Q % 4294967296)] rfl rfl (cell_one_new _ _ _) (by intro u hu; simp at hu; subst hu; rfl) (by unfold maxLen; omega) (by omega) (by simp; omega) ?_)
        intro v' w5 hown5 hgrow _
        obtain ⟨r1, r2⟩ := row_step HD.out.1 HB.out HO.out hown5 hgrow
        have HR : Hid (w5.ownsRow w.heap.size 55 1 v' (j + 1) (cells (x - y) (j + 1)) ∧ Below w.heap.size w w5) := ⟨r1, r2⟩
        clear hown5 hgrow r1 r2 ho
        go_wp2
        exact ⟨⟨j + 1, by omega, by rw [HD.out.2], by simp, HR.out⟩, by simp [intOf]; omega⟩
      · have hji2 : ¬ (j : Int) < (nb : Int) := by omega
        have hd1 : dg y j = 0 := dg_past (by rw [HXY.out.2]; omega)
        generalize hd : dg x j = d at *
        generalize hc : subb x y j = c at *
        obtain ⟨Q, hQ⟩ : ∃ Q : Int, Q = ((d : Int) - c - ((0 : Nat) : Int)) % 18446744073709551616 := ⟨_, rfl⟩
        have w1 : IntKind.u64.wrap (d : Int) = (d : Int) := wrap_d HL.out.1
        have w3 : IntKind.u64.wrap ((d : Int) - (c : Int)) = Q := by rw [IntKind.wrap_u64]; omega
        have HD : Hid (Q % 4294967296 = (dg (x - y) j : Nat) ∧ Q / 9223372036854775808 = (subb x y (j + 1) : Nat)) := HKY.out d 0 c Q rfl hd1 rfl hQ
        clear hd hd1 hc hB hQ
        go_wp2_with (at_builtin; refine wpList_append_own _ rfl _ _ 22 rfl w.heap.size 55 i0 (.int .u32 0) 1 4 Tryz.underlying22 hi0 hz0 hz1 hz2 rfl (by decide) _ _ _ rfl (ho.alloc _) ⟨wr.heap.size, 0, none⟩ 1 1 [.int .u32 (Q % 4294967296)] rfl rfl (cell_one_new _ _ _) (by intro u hu; simp at hu; subst hu; rfl) (by unfold maxLen; omega) (by omega) (by simp; omega) ?_)
        intro v' w5 hown5 hgrow _
        obtain ⟨r1, r2⟩ := row_step HD.out.1 HB.out HO.out hown5 hgrow
        have HR : Hid (w5.ownsRow w.heap.size 55 1 v' (j + 1) (cells (x - y) (j + 1)) ∧ Below w.heap.size w w5) := ⟨r1, r2⟩
        clear hown5 hgrow r1 r2 ho
        go_wp2
        exact ⟨⟨j + 1, by omega, by rw [HD.out.2], by simp, HR.out⟩, by simp [intOf]; omega⟩
    · obtain rfl : j = na := by omega
      obtain ⟨ao', cap', rfl, hcp, hA⟩ := at_of_row ho
      have hL : dlen (x - y) ≤ j := by have := HXY.out.1; rw [← this]; exact dlen_mono (Nat.sub_le ..)
      have HR : Hid (Ir wr (.slice ao' (dlen (x - y)) cap') (x - y)) := ⟨ao', cap', rfl, by omega, at_short hA hL⟩
      have k40 := r40 ao' j cap' (x - y) wr hL hcp (by omega) hA
      generalize subb x y j = c at *
      clear ho hB hA
      go_wp2_with (first | (go_at_call 139; refine k40.mono ?_; rintro e w' ⟨rfl, rfl⟩))
      go_ret
      exact ⟨_, rfl, HR.out, HB.out⟩

theorem rless {u v : Value} {x y : Nat} {w : World} (h1 : Ir w u x) (h2 : Ir w v y) (hx : dlen x ≤ 1000000000) (hle : y ≤ x) :
    Calls Tryz.prog 108 #[u, v] w fun e w' => ∃ v, e = .returned v ∧ Ir w' v (x - y) ∧ Below w.heap.size w w' := by
  obtain ⟨ao, ca, rfl, a1, ba, oa, a3, a4⟩ := h1
  obtain ⟨bo, cb, rfl, b1, bb, ob, b3, b4⟩ := h2
  exact rless_1 ao bo ba oa bb ob _ _ ca cb x y w a3 b3 hx rfl rfl hle a4 b4

theorem made_row {w : World} {z n : Nat} (hn : n ≤ maxLen) (h : ∀ i, i < n → dg z i = 0) : (w.alloc (.cells (madeCells #[.int .u32 0] n) 55)).ownsRow w.heap.size 55 1 (.slice (some ⟨w.heap.size, 0, none⟩) n n) n (cells z n) := by
  obtain ⟨c, hc, hs, hf⟩ := World.rowIs_made w (.int .u32 0) n 55
  refine ⟨by rw [cells_length, Nat.mul_one], .inr ⟨w.heap.size, n, c, rfl, Nat.le_refl _, hc, Nat.le_refl _, hn, by omega, ?_⟩⟩
  apply List.ext_getElem?
  intro i
  rw [Nat.mul_one, List.getElem?_take]
  by_cases hi : i < n
  · rw [if_pos hi, Array.getElem?_toList, hf i hi, cells_get hi, h i hi]; rfl
  · rw [if_neg hi, List.getElem?_eq_none (by rw [cells_length]; omega)]

theorem up_word {d c p : Nat} (hd : d < B) (hp : p < 32) (hc : c < 2 ^ p) : bits .or .u64 (IntKind.u64.wrap (IntKind.u64.wrap (d : Int) * 2 ^ p)) (IntKind.u64.wrap (c : Int)) = ((c + d * 2 ^ p : Nat) : Int) := by
  have h1 := shl_word hd hp
  have h2 := two_small hp
  have h3 := mul_small hd h2
  have hcB : c < B := by unfold B; omega
  rw [h1, wrap_d hcB, u64_or_nat _ _ (by omega) (by unfold B at hcB; omega), or_add (p := p) (Nat.mul_mod_left ..) hc, Nat.add_comm]

set_option maxHeartbeats 4000000 in
set_option maxRecDepth 200000 in
theorem rup_1 (b o cap n x k whole part : Nat) (w : World) (hn0 : 0 < n) (hn : n ≤ 1000000000) (hk : k ≤ 1000000000) (hwh : k / 32 = whole) (hpa : k % 32 = part) (hx : dlen x = n) (hcell : ∀ i, i < n → w.cell? ⟨b, o + i, none⟩ = some (.int .u32 (dg x i : Nat))) :
    Calls Tryz.prog 104 #[.slice (some ⟨b, o, none⟩) n cap, .int .i64 k] w fun e w' => ∃ v, e = .returned v ∧ Ir w' v (x * 2 ^ k) ∧ Below w.heap.size w w' := by
  have hq : (k : Int).tdiv 32 = ((k / 32 : Nat) : Int) := by rw [Int.tdiv_eq_ediv_of_nonneg (by omega)]; rfl
  have hr : (k : Int).tmod 32 = ((k % 32 : Nat) : Int) := by rw [Int.tmod_eq_emod_of_nonneg (by omega)]; rfl
  rw [hwh] at hq
  rw [hpa] at hr
  have hwb : whole ≤ 1000000000 := by omega
  have hpb : part < 32 := by omega
  have hmk := run_make_row' (P := Tryz.prog) 22 55 (.int .u32 0) 4 Tryz.underlying22 Tryz.info55 rfl .i64 .i64 whole (by omega) (by omega)
  have hn0' : ((n : Int) == 0) = false := by simp; omega
  have HN : Hid (dlen x = n ∧ k / 32 = whole ∧ k % 32 = part) := ⟨hx, hwh, hpa⟩
  have HZ : Hid (∀ i, i < whole → dg (x * 2 ^ k) i = 0) := fun i hi => by rw [shl_split, hwh, dg_shl_low hi]
  have HCA : Hid (∀ i, i < n → w.cell? ⟨b, o + i, none⟩ = some (.int .u32 (dg x i : Nat))) := hcell
  have HST : Hid (∀ j, dg (x * 2 ^ k) (whole + j) = (mulc x (2 ^ part) j + dg x j * 2 ^ part) % B) := fun j => by rw [shl_split, hwh, hpa, dg_shl, dg_mul]
  clear hx hwh hpa hcell
  go_enter Tryz.func104, Tryz.ntmps104
  go_wp2
  clear hmk
  go_loopw [5, 7, 8] (fun v c i wr => ∃ j : Nat, j ≤ n ∧ c = .int .u32 (mulc x (2 ^ part) j : Nat) ∧ i = .int .i64 j ∧ wr.ownsRow w.heap.size 55 1 v (whole + j) (cells (x * 2 ^ k) (whole + j)) ∧ Below w.heap.size w wr) (fun _ _ i _ => n - (intOf i).toNat)
  case atStart => exact ⟨0, Nat.zero_le _, by rw [mulc_zero]; rfl, rfl, made_row (by unfold maxLen; omega) HZ.out, (Below.refl _ _).alloc (Nat.le_refl _) _⟩
  case round =>
    obtain ⟨j, hj, rfl, rfl, ho, hB⟩ := hrel
    have HO : Hid (wr.ownsRow w.heap.size 55 1 u5 (whole + j) (cells (x * 2 ^ k) (whole + j))) := ho
    have HB : Hid (Below w.heap.size w wr) := hB
    have hbs : w.heap.size ≤ wr.heap.size := hB.size
    obtain ⟨i0, hi0, hz0, hz1, hz2⟩ := info_parts Tryz.info55
    by_cases hja : j < n
    · have g1 := (hB.cell (World.block_lt_of_cell? _ _ (HCA.out j hja))).trans (HCA.out j hja)
      have hji : (j : Int) < (n : Int) := by omega
      have hcl := mulc_lt (x := x) (i := j) (Nat.two_pow_pos part)
      have hdl := dg_lt x j
      have hst := HST.out j
      have hsc := mulc_succ x (2 ^ part) j
      have h2 := two_small hpb
      generalize hd : dg x j = d at *
      generalize hc : mulc x (2 ^ part) j = c at *
      have h3 := mul_small hdl h2
      obtain ⟨T, hT⟩ : ∃ T : Nat, T = c + d * 2 ^ part := ⟨_, rfl⟩
      have w1 : bits .or .u64 (IntKind.u64.wrap (IntKind.u64.wrap (d : Int) * 2 ^ part)) (IntKind.u64.wrap (c : Int)) = (T : Int) := by rw [hT]; exact up_word hdl hpb hcl
      have HD : Hid ((T : Int) % 4294967296 = (dg (x * 2 ^ k) (whole + j) : Nat) ∧ (T : Int) / 4294967296 % 4294967296 = (mulc x (2 ^ part) (j + 1) : Nat)) := by
        refine ⟨?_, ?_⟩
        · rw [hst, ← hT]; unfold B; omega
        · rw [hsc, ← hT]; unfold B; omega
      clear hd hc hB hcl hdl hst hsc h2 h3 hT
      go_wp2_with (at_builtin; refine wpList_append_own _ rfl _ _ 22 rfl w.heap.size 55 i0 (.int .u32 0) 1 4 Tryz.underlying22 hi0 hz0 hz1 hz2 rfl (by decide) _ _ _ rfl (ho.alloc _) ⟨wr.heap.size, 0, none⟩ 1 1 [.int .u32 ((T : Int) % 4294967296)] rfl rfl (cell_one_new _ _ _) (by intro u hu; simp at hu; subst hu; rfl) (by unfold maxLen; omega) (by omega) (by simp; omega) ?_)
      intro v' w5 hown5 hgrow _
      obtain ⟨r1, r2⟩ := row_step HD.out.1 HB.out HO.out hown5 hgrow
      have HR : Hid (w5.ownsRow w.heap.size 55 1 v' (whole + (j + 1)) (cells (x * 2 ^ k) (whole + (j + 1))) ∧ Below w.heap.size w w5) := ⟨r1, r2⟩
      clear hown5 hgrow r1 r2 ho
      go_wp2
      exact ⟨⟨j + 1, by omega, by rw [HD.out.2], by simp, HR.out⟩, by simp [intOf]; omega⟩
    · obtain rfl : j = n := by omega
      have hcl := mulc_lt (x := x) (i := j) (Nat.two_pow_pos part)
      have hst := HST.out j
      rw [dg_past (x := x) (i := j) (by rw [HN.out.1]; omega), Nat.zero_mul, Nat.add_zero] at hst
      have h2 := two_small hpb
      have hL : dlen (x * 2 ^ k) ≤ whole + j + 1 := by have := shl_len (k := k) HN.out.1; rw [HN.out.2.1] at this; exact this
      generalize hc : mulc x (2 ^ part) j = c at *
      have HD : Hid ((c : Int) = (dg (x * 2 ^ k) (whole + j) : Nat)) := (by rw [hst]; unfold B; omega : (c : Int) = (dg (x * 2 ^ k) (whole + j) : Nat))
      have HL : Hid (dlen (x * 2 ^ k) ≤ whole + j + 1) := hL
      clear hc hB hcl hst h2 hL
      go_wp2_with (at_builtin; refine wpList_append_own _ rfl _ _ 22 rfl w.heap.size 55 i0 (.int .u32 0) 1 4 Tryz.underlying22 hi0 hz0 hz1 hz2 rfl (by decide) _ _ _ rfl (ho.alloc _) ⟨wr.heap.size, 0, none⟩ 1 1 [.int .u32 (c : Int)] rfl rfl (cell_one_new _ _ _) (by intro u hu; simp at hu; subst hu; rfl) (by unfold maxLen; omega) (by omega) (by simp; omega) ?_)
      intro v' w5 hown5 hgrow _
      obtain ⟨r1, r2⟩ := row_step HD.out HB.out HO.out hown5 hgrow
      obtain ⟨ao', cap', rfl, hcp, hA⟩ := at_of_row r1
      have HR : Hid (Ir w5 (.slice ao' (dlen (x * 2 ^ k)) cap') (x * 2 ^ k) ∧ Below w.heap.size w w5) := ⟨⟨ao', cap', rfl, by have := HL.out; omega, at_short hA HL.out⟩, r2⟩
      have k40 := r40 ao' (whole + j + 1) cap' (x * 2 ^ k) w5 HL.out hcp (by omega) hA
      clear hown5 hgrow r1 r2 ho hA hcp
      go_wp2_with (first | (go_at_call 139; refine k40.mono ?_; rintro e w' ⟨rfl, rfl⟩))
      go_ret
      exact ⟨_, rfl, HR.out⟩

set_option maxRecDepth 200000 in
theorem rup_0 (ao : Option Addr) (cap : Nat) (k : Int) (w : World) :
    Calls Tryz.prog 104 #[.slice ao 0 cap, .int .i64 k] w fun e w' => e = .returned (.slice none 0 0) ∧ w' = w := by
  go_enter Tryz.func104, Tryz.ntmps104
  go_wp2
  go_ret
  exact ⟨rfl, rfl⟩

theorem rup {v : Value} {x : Nat} {w : World} (h : Ir w v x) (k : Nat) (hx : dlen x ≤ 1000000000) (hk : k ≤ 1000000000) :
    Calls Tryz.prog 104 #[v, .int .i64 k] w fun e w' => ∃ v, e = .returned v ∧ Ir w' v (x * 2 ^ k) ∧ Below w.heap.size w w' := by
  obtain ⟨ao, cap, rfl, h1, b, o, h3, h4⟩ := h
  by_cases h0 : x = 0
  · subst h0
    rw [dlen_zero]
    refine (rup_0 ao cap k w).mono ?_
    rintro e w' ⟨rfl, rfl⟩
    exact ⟨_, rfl, by rw [Nat.zero_mul]; exact Ir.nil _ _ _, Below.refl _ _⟩
  · have hl : 0 < dlen x := Nat.pos_of_ne_zero fun e => h0 (dlen_eq_zero.1 e)
    obtain rfl := h3 hl
    exact rup_1 b o cap _ x k _ _ w hl hx hk rfl rfl rfl h4
end Go.Proofs.YtejefbnfmglfeaaGreatDoor

/- The document's kept and Make. -/
namespace Go.Proofs.YtejefbnfmglfeaaGreatDoor
set_option linter.unusedVariables false
set_option linter.unusedSimpArgs false
open Go.RowKit Go.Fl64

theorem two29 {w W : World} (a b : Obj) (hW : W = (w.alloc a).alloc b) : W.heap[w.heap.size]? = some a ∧ W.heap[w.heap.size + 1]? = some b ∧ W.heap.size = w.heap.size + 1 + 1 ∧ Below w.heap.size w W := by
  subst hW
  refine ⟨?_, ?_, by simp, ((Below.refl _ _).alloc (Nat.le_refl _) _).alloc (by simp) _⟩
  · rw [Below.heap_alloc _ _ _ (by simp)]; exact heap_alloc_new _ _
  · have := heap_alloc_new (w.alloc a) b
    simpa using this

set_option maxRecDepth 200000 in
theorem r41 (s : Bool) (ao : Option Addr) (n cap : Nat) (e : Int) (V : Bool) (w : World)
    (k17 : ∀ W, Below w.heap.size w W → Calls Tryz.prog 11 #[.agg #[.bool s, .slice ao n cap, .int .i64 e]] W fun r w' => r = .returned (.bool V) ∧ Below W.heap.size W w') :
    Calls Tryz.prog 70 #[.agg #[.bool s, .slice ao n cap, .int .i64 e]] w fun r w' => r = .returned (.tuple #[if V then .agg #[.bool s, .slice ao n cap, .int .i64 e] else .agg #[.bool false, .slice none 0 0, .int .i64 0], .int .i64 (if V then 0 else 2)]) ∧ Below w.heap.size w w' := by
  obtain ⟨W, hW⟩ : ∃ W, W = (w.alloc (.cells #[.bool s, .slice ao n cap, .int .i64 e] 24)).alloc (.cells #[.bool false, .slice none 0 0, .int .i64 0] 24) := ⟨_, rfl⟩
  obtain ⟨hA, hB, hsz, hBW⟩ := two29 _ _ hW
  have k := k17 W hBW
  obtain ⟨⟨a0, a1, a2⟩, -⟩ := box_cells29 hA
  rw [hW] at a0 a1 a2
  have HX : Hid (Below w.heap.size w W ∧ W.heap.size = w.heap.size + 1 + 1 ∧ W.heap[w.heap.size]? = some (.cells #[.bool s, .slice ao n cap, .int .i64 e] 24 (0, 0)) ∧ W.heap[w.heap.size + 1]? = some (.cells #[.bool false, .slice none 0 0, .int .i64 0] 24 (0, 0))) := ⟨hBW, hsz, hA, hB⟩
  clear k17 hA hB hsz hBW
  go_enter Tryz.func70, Tryz.ntmps70
  go_wp2_with fail
  rw [← hW]
  clear hW a0 a1 a2
  refine k.mono ?_
  rintro r w1 ⟨rfl, hb1⟩
  have HA : Hid (w1.heap[w.heap.size]? = some (.cells #[.bool s, .slice ao n cap, .int .i64 e] 24 (0, 0))) := box_later HX.out.2.2.1 hb1 (by have := HX.out.2.1; omega)
  have HBx : Hid (w1.heap[w.heap.size + 1]? = some (.cells #[.bool false, .slice none 0 0, .int .i64 0] 24 (0, 0))) := box_later HX.out.2.2.2 hb1 (by have := HX.out.2.1; omega)
  have HB1 : Hid (Below w.heap.size w w1) := HX.out.1.trans (hb1.mono HX.out.1.size)
  obtain ⟨⟨a0, a1, a2⟩, -⟩ := box_cells29 HA.out
  obtain ⟨⟨b0, b1, b2⟩, b3, b4, b5⟩ := box_cells29 HBx.out
  clear k hb1
  cases V
  · go_wp2_with fail
    refine bodyPost_ret (results_cell_tmp_row rfl _ _ (w.heap.size + 1) 24 #[.bool false, .slice none 0 0, .int .i64 0] (0, 0) _ rfl (store3_29 _ _ _ HBx.out) Tryz.underlying24 rfl Tryz.info24) rfl ?_
    exact ⟨rfl, below_store3 HB1.out (by omega) _ _ _⟩
  · go_wp2_with fail
    refine bodyPost_ret (results_cell_tmp_row rfl _ _ (w.heap.size + 1) 24 #[.bool s, .slice ao n cap, .int .i64 e] (0, 0) _ rfl (store3_29 _ _ _ HBx.out) Tryz.underlying24 rfl Tryz.info24) rfl ?_
    exact ⟨rfl, below_store3 HB1.out (by omega) _ _ _⟩

theorem tz_in {x : Nat} (hx0 : x ≠ 0) : tz x / 32 < dlen x := by
  have h1 := (tz_spec _ x (Nat.le_refl _) hx0)
  have h2 : 2 ^ tz x ≤ x := by
    have h3 : 1 ≤ x / 2 ^ tz x := Nat.pos_of_ne_zero fun e0 => by have := h1.2; rw [e0] at this; simp at this
    have := Nat.mul_le_mul_left (2 ^ tz x) h3
    omega
  have h4 := lt_bl x
  have h5 : tz x < bl x := Nat.lt_of_not_le fun h6 => by
    have := Nat.pow_le_pow_right (n := 2) (by omega) h6
    omega
  have hd0 : dlen x ≠ 0 := fun e => hx0 (dlen_eq_zero.1 e)
  have := bl_top hx0
  have := bl_le32 (dg_lt x (dlen x - 1))
  omega

/-- what the document's Make answers of digits that are not all noughts -/
def Mk29 (w w' : World) (neg V : Bool) (y : Nat) (E : Int) (r : Ending) : Prop :=
  ∃ g cap, r = .returned (.tuple #[if V then .agg #[.bool neg, .slice (some ⟨g, 0, none⟩) (dlen y) cap, .int .i64 E] else .agg #[.bool false, .slice none 0 0, .int .i64 0], .int .i64 (if V then 0 else 2)]) ∧ w.heap.size < g ∧ At w' (some ⟨g, 0, none⟩) (dlen y) y
theorem lt_of_box' {w : World} {g : Nat} {o : Obj} (h : w.heap[g]? = some o) : g < w.heap.size := (Array.getElem?_eq_some_iff.1 h).1

end Go.Proofs.YtejefbnfmglfeaaGreatDoor
