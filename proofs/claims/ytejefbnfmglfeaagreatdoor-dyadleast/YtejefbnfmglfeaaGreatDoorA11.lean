/- Own work: contracts of the program's functions, part 11: L7 V1 V2 L8. -/
import Derived.Test.YtejefbnfmglfeaaGreatDoorA10
import Derived.Test.YtejefbnfmglfeaaGreatDoorA8
import Derived.Test.YtejefbnfmglfeaaGreatDoorA3
import Derived.Test.YtejefbnfmglfeaaGreatDoorA6

/- DyadLeast: the law's walk. -/
namespace Go.Proofs.YtejefbnfmglfeaaGreatDoor
set_option linter.unusedVariables false
set_option linter.unusedSimpArgs false
open Go.RowKit Go.Fl64

theorem lt2 {k : Nat} (h : k < 2) : k = 0 ∨ k = 1 := by omega
/-- one of two -/
def pick2 {α : Type} (a b : α) : Nat → α
  | 0 => a
  | _ => b
/-- Cmp's answer -/
def Cm2 (t1 t2 : Bool × Nat × Int) (c : Int) : Prop := ∀ W X Y, PN W X t1 → PN W Y t2 → Calls Tryz.prog 23 #[X, Y] W fun r w' => r = .returned (.int .i64 c) ∧ Below W.heap.size W w'
/-- numbers that the law goes on with -/
def Fine2 (ng : Nat → Bool) (ln z : Nat → Nat) (e : Nat → Int) : Prop := okN (ng 0) (ln 0) (z 0) (e 0) = true ∧ okN (ng 1) (ln 1) (z 1) (e 1) = true ∧ ln 0 ≤ 100 ∧ ln 1 ≤ 100 ∧ ln 1 ≠ 0 ∧ max (e 0) (e 1) ≤ 3000 ∧ -3000 ≤ min (e 0) (e 1)
/-- what the law's calls answer -/
structure LeastK (tx ty un tq tm tp tu tr ta ts tt : Bool × Nat × Int) (P : Int) (ex wh : Bool) (c1 c2 c3 c4 : Int) : Prop where
  kM : ∀ W g, Tab32 W → W.heap[g]? = some (.cells #[.int .u32 1] 55 (0, 0)) → Calls Tryz.prog 38 #[.bool false, .slice (some ⟨g, 0, none⟩) 1 1, .int .i64 (-P)] W fun r w' => ∃ s ao n cap e, r = .returned (.tuple #[.agg #[.bool s, .slice ao n cap, .int .i64 e], .int .i64 0]) ∧ PN w' (.agg #[.bool s, .slice ao n cap, .int .i64 e]) un ∧ Below W.heap.size W w'
  kQ : ∀ W X Y, Tab32 W → PN W X tx → PN W Y ty → Calls Tryz.prog 39 #[X, Y, .int .i64 P] W fun r w' => ∃ s ao n cap e, r = .returned (.tuple #[.agg #[.bool s, .slice ao n cap, .int .i64 e], .bool ex, .int .i64 0]) ∧ PN w' (.agg #[.bool s, .slice ao n cap, .int .i64 e]) tq ∧ Below W.heap.size W w'
  k1 : Op2 28 tq un tm
  k2 : Op2 32 tq ty tp
  k3 : Op2 32 tm ty tu
  kR : ∀ W X, Tab32 W → PN W X tx → Calls Tryz.prog 40 #[X, .int .i64 P] W fun r w' => ∃ s ao n cap e, r = .returned (.tuple #[.agg #[.bool s, .slice ao n cap, .int .i64 e], .bool wh, .int .i64 0]) ∧ PN w' (.agg #[.bool s, .slice ao n cap, .int .i64 e]) tr ∧ Below W.heap.size W w'
  k4 : Op2 28 tr un ta
  k5 : Op2 32 tr tr ts
  k6 : Op2 32 ta ta tt
  m1 : Cm2 tp tx c1
  m2 : Cm2 tu tx c2
  m3 : Cm2 ts tx c3
  m4 : Cm2 tt tx c4
  f1 : c1 ≤ 0 ∧ (ex == (c1 == 0)) = true
  f2 : 0 < c2
  f3 : c3 ≤ 0 ∧ (wh == (c3 == 0)) = true
  f4 : 0 < c4

set_option maxHeartbeats 16000000 in
set_option maxRecDepth 200000 in
theorem law7_1 (ng : Nat → Bool) (ao : Nat → Option Addr) (ln cp z : Nat → Nat) (e : Nat → Int) (P0 P : Int) (w : World) (hA : ∀ i, i < 2 → Arg w (ao i) (ln i) (cp i) (z i)) (he : ∀ i, -9223372036854775808 ≤ e i ∧ e i ≤ 9223372036854775807) (hzl : ∀ i, i < 2 → dlen (z i) ≤ ln i) (hT : Tab32 w)
    (hP : max (-500) (min P0 500) = P) (hP1 : -500 ≤ P) (hP2 : P ≤ 500)
    (hK : Fine2 ng ln z e → ∃ un tq tm tp tu tr ta ts tt ex wh c1 c2 c3 c4, LeastK (false, z 0, e 0) (false, z 1, e 1) un tq tm tp tu tr ta ts tt P ex wh c1 c2 c3 c4)
    (k14 : ∀ W, Below w.heap.size w W → Calls Tryz.prog 27 #[] W fun r w' => r = .returned (.bool true) ∧ Below W.heap.size W w') :
    Calls Tryz.prog 7 #[.agg #[.bool (ng 0), .slice (ao 0) (ln 0) (cp 0), .int .i64 (e 0)], .agg #[.bool (ng 1), .slice (ao 1) (ln 1) (cp 1), .int .i64 (e 1)], .int .i64 P0] w fun r w' => r = .returned (.bool true) ∧ Below w.heap.size w w' := by
  obtain ⟨W, hW⟩ : ∃ W, W = (w.alloc (.cells #[.bool (ng 0), .slice (ao 0) (ln 0) (cp 0), .int .i64 (e 0)] 24)).alloc (.cells #[.bool (ng 1), .slice (ao 1) (ln 1) (cp 1), .int .i64 (e 1)] 24) := ⟨_, rfl⟩
  have hB0 : W.heap[w.heap.size]? = some (.cells #[.bool (ng 0), .slice (ao 0) (ln 0) (cp 0), .int .i64 (e 0)] 24 (0, 0)) := by
    rw [hW, Below.heap_alloc _ _ _ (by simp)]; exact heap_alloc_new _ _
  have hB1 : W.heap[w.heap.size + 1]? = some (.cells #[.bool (ng 1), .slice (ao 1) (ln 1) (cp 1), .int .i64 (e 1)] 24 (0, 0)) := by
    have := heap_alloc_new (w.alloc (.cells #[.bool (ng 0), .slice (ao 0) (ln 0) (cp 0), .int .i64 (e 0)] 24)) (.cells #[.bool (ng 1), .slice (ao 1) (ln 1) (cp 1), .int .i64 (e 1)] 24)
    rw [hW]; simpa using this
  have hsz : W.heap.size = w.heap.size + 1 + 1 := by rw [hW]; simp
  have hBW : Below w.heap.size w W := by rw [hW]; exact ((Below.refl _ _).alloc (Nat.le_refl _) _).alloc (by simp) _
  have HH : Hid (W.heap[w.heap.size]? = some (.cells #[.bool (ng 0), .slice (ao 0) (ln 0) (cp 0), .int .i64 (e 0)] 24 (0, 0)) ∧ W.heap[w.heap.size + 1]? = some (.cells #[.bool (ng 1), .slice (ao 1) (ln 1) (cp 1), .int .i64 (e 1)] 24 (0, 0)) ∧ W.heap.size = w.heap.size + 1 + 1 ∧ Below w.heap.size w W) := ⟨hB0, hB1, hsz, hBW⟩
  have HA : Hid (∀ wr, Below W.heap.size W wr → ∀ i, i < 2 → Arg wr (ao i) (ln i) (cp i) (z i)) := fun wr hb i hi => ((hA i hi).later hBW).later hb
  have HZL : Hid (∀ i, i < 2 → dlen (z i) ≤ ln i) := hzl
  have HT : Hid (Tab32 w) := hT
  have HKK : Hid (Fine2 ng ln z e → ∃ un tq tm tp tu tr ta ts tt ex wh c1 c2 c3 c4, LeastK (false, z 0, e 0) (false, z 1, e 1) un tq tm tp tu tr ta ts tt P ex wh c1 c2 c3 c4) := hK
  have H14 : Hid (∀ W, Below w.heap.size w W → Calls Tryz.prog 27 #[] W fun r w' => r = .returned (.bool true) ∧ Below W.heap.size W w') := k14
  obtain ⟨e01, e02⟩ := he 0
  obtain ⟨e11, e12⟩ := he 1
  have l0 := (hA 0 (by omega)).small
  have l1 := (hA 1 (by omega)).small
  obtain ⟨⟨a0, a1, a2⟩, -⟩ := box_cells29 hB0
  have kv0 := rvalid (s := ng 0) (e := e 0) (HA.out W (Below.refl _ _) 0 (by omega))
  generalize hv0 : okN (ng 0) (ln 0) (z 0) (e 0) = ok0 at *
  generalize hv1 : okN (ng 1) (ln 1) (z 1) (e 1) = ok1 at *
  have HV : Hid (okN (ng 0) (ln 0) (z 0) (e 0) = ok0 ∧ okN (ng 1) (ln 1) (z 1) (e 1) = ok1) := ⟨hv0, hv1⟩
  clear hB0 hB1 hsz hBW hA k14 hzl hT hK he hv0 hv1
  rw [hW] at a0 a1 a2
  go_enter Tryz.func7, Tryz.ntmps7
  go_wp2_with fail
  rw [← hW]
  clear hW
  refine kv0.mono ?_
  rintro r w1 ⟨rfl, hb1⟩
  have HB1 : Hid (Below W.heap.size W w1) := hb1
  have HW1 : Hid (Below w.heap.size w w1) := HH.out.2.2.2.trans (HB1.out.mono HH.out.2.2.2.size)
  clear kv0 hb1 a0 a1 a2
  obtain ⟨⟨a0, a1, a2⟩, -⟩ := box_cells29 (box_later HH.out.1 HB1.out (by have := HH.out.2.2.1; omega))
  obtain ⟨⟨b0, b1, b2⟩, -⟩ := box_cells29 (box_later HH.out.2.1 HB1.out (by have := HH.out.2.2.1; omega))
  cases ok0
  · have k2 := H14.out w1 HW1.out
    go_wp2_with fail
    refine k2.mono ?_
    rintro r w9 ⟨rfl, hb9⟩
    have HW9 : Hid (Below w.heap.size w w9) := HW1.out.trans (hb9.mono HW1.out.size)
    clear k2 hb9
    go_wp2_with fail
    go_ret
    exact ⟨rfl, HW9.out⟩
  · have kv1 := rvalid (s := ng 1) (e := e 1) (HA.out w1 HB1.out 1 (by omega))
    rw [HV.out.2] at kv1
    go_wp2_with fail
    refine kv1.mono ?_
    rintro r w2 ⟨rfl, hb2⟩
    have HB2 : Hid (Below W.heap.size W w2) := HB1.out.trans (hb2.mono HB1.out.size)
    have HW2 : Hid (Below w.heap.size w w2) := HH.out.2.2.2.trans (HB2.out.mono HH.out.2.2.2.size)
    clear kv1 hb2 a0 a1 a2 b0 b1 b2
    obtain ⟨⟨a0, a1, a2⟩, -⟩ := box_cells29 (box_later HH.out.1 HB2.out (by have := HH.out.2.2.1; omega))
    obtain ⟨⟨b0, b1, b2⟩, -⟩ := box_cells29 (box_later HH.out.2.1 HB2.out (by have := HH.out.2.2.1; omega))
    have k2 := H14.out w2 HW2.out
    cases ok1
    · skip
      go_wp2_with fail
      refine k2.mono ?_
      rintro r w9 ⟨rfl, hb9⟩
      have HW9 : Hid (Below w.heap.size w w9) := HW2.out.trans (hb9.mono HW2.out.size)
      clear k2 hb9
      go_wp2_with fail
      go_ret
      exact ⟨rfl, HW9.out⟩
    · skip
      by_cases c0 : ln 0 ≤ 100
      · have c0' : ¬ (100 : Int) < (ln 0 : Int) := by omega
        by_cases c1 : ln 1 ≤ 100
        · have c1' : ¬ (100 : Int) < (ln 1 : Int) := by omega
          by_cases c2 : ln 1 ≠ 0
          · have c2' : ((ln 1 : Int) == 0) = false := by simp; omega
            by_cases c3 : max (e 0) (e 1) ≤ 3000
            · have c3' : ¬ (3000 : Int) < max (e 0) (e 1) := by omega
              by_cases c4 : -3000 ≤ min (e 0) (e 1)
              · have c4' : ¬ min (e 0) (e 1) < -3000 := by omega
                clear k2
                obtain ⟨un, tq, tm, tp, tu, tr, ta, ts, tt, ex, wh, q1, q2, q3, q4, K⟩ := HKK.out ⟨HV.out.1, HV.out.2, c0, c1, c2, c3, c4⟩
                have HA3 := HA.out w2 HB2.out
                have hs0 := box_later HH.out.1 HB2.out (by have := HH.out.2.2.1; omega)
                have hs1 := box_later HH.out.2.1 HB2.out (by have := HH.out.2.2.1; omega)
                have hl : ∀ k, k < 2 → okN (ng k) (ln k) (z k) (e k) = true → dlen (z k) = ln k := fun k hk hF => by
                  refine dlen_here (HZL.out k hk) ?_
                  by_cases h0 : ln k = 0
                  · exact .inl h0
                  · right
                    unfold okN at hF
                    rw [if_neg h0] at hF
                    simp only [Bool.and_eq_true, bne_iff_ne, ne_eq] at hF
                    exact hF.1.1.1.2
                have HLL : Hid (dlen (z 0) = ln 0 ∧ dlen (z 1) = ln 1) := ⟨hl 0 (by omega) HV.out.1, hl 1 (by omega) HV.out.2⟩
                clear hl
                go_upto_region 4 with fail
                go_cut [7, 8] from 75 to 80 (fun p q wx => ∃ (g : Nat → Nat) (v : Nat → Value), p = .pointer (some ⟨g 0, 0, none⟩) ∧ q = .pointer (some ⟨g 1, 0, none⟩) ∧ Hid (Below w2.heap.size w2 wx ∧ ∀ k, k < 2 → Own wx w2.heap.size (v k) (z k) ∧ w2.heap.size ≤ g k ∧ wx.heap[g k]? = some (.cells #[.bool false, v k, .int .i64 (e k)] 25 (0, 0))))
                case first =>
                  refine abs_region 2 (fun k => 3 + k) (fun k => 75 + 3 * k) (fun k => 76 + 3 * k) (fun k => 77 + 3 * k) (fun k => 7 + k) (fun k => w.heap.size + k) ng ao ln cp z e w2 _ rfl (ord_of (by kernel_rfl)) ?_ ?_ ?_ ?_ ?_ ?_ ?_ ?_ ?_ ?_ ?_ ?_ ?_
                  · intro k hk
                    rcases lt2 hk with rfl | rfl
                    · exact ⟨rfl, hs0, HA3 0 hk, HLL.out.1, HV.out.1, by omega⟩
                    · exact ⟨rfl, hs1, HA3 1 hk, HLL.out.2, HV.out.2, by omega⟩
                  · intro k hk
                    rcases lt2 hk with rfl | rfl <;> decide
                  · intro k hk
                    rcases lt2 hk with rfl | rfl <;> exact ⟨_, rfl, rfl, rfl, rfl⟩
                  · intro k hk
                    rcases lt2 hk with rfl | rfl <;> exact ⟨_, rfl, rfl, ⟨_, rfl⟩, rfl, ⟨_, .data⟩, by simp, rfl, rfl⟩
                  · intro k hk
                    rcases lt2 hk with rfl | rfl <;> exact ⟨_, rfl, rfl, ⟨_, rfl⟩, rfl, ⟨_, .data⟩, by simp, rfl, rfl⟩
                  · intro k hk
                    rcases lt2 hk with rfl | rfl <;> exact ⟨_, rfl, rfl, rfl, rfl⟩
                  · intro k hk
                    rcases lt2 hk with rfl | rfl <;> exact ⟨_, rfl, rfl, rfl, rfl, ⟨⟨_, .data⟩, by simp, rfl, rfl⟩, ⟨_, .data⟩, by simp, rfl, rfl⟩
                  · show ∀ j, j < 3 * 2 → aslot (fun k => 75 + 3 * k) (fun k => 76 + 3 * k) (fun k => 77 + 3 * k) j < 188
                    decide
                  · show ∀ k, k < 2 → 7 + k < 188
                    decide
                  · decide
                  · decide
                  · decide
                  · intro u v g wx hb hk
                    simp only [putL, aslot, show List.range (3 * 2) = [0, 1, 2, 3, 4, 5] from rfl, show List.range 2 = [0, 1] from rfl, List.map_cons, List.map_nil, List.cons_append, List.nil_append, List.foldl_cons, List.foldl_nil, Nat.reduceMod, Nat.reduceDiv, Nat.reduceMul, Nat.reduceAdd, Nat.reduceEqDiff, reduceIte, Nat.one_ne_zero, Act.put, List.setIfInBounds_toArray, List.set_cons_zero, List.set_cons_succ]
                    go_wp2_with fail
                    go_meet
                    exact ⟨g, v, rfl, rfl, hb, hk⟩
                case rest =>
                  obtain ⟨w8, hw8⟩ : ∃ w8 : World, w8 = wc := ⟨_, rfl⟩
                  subst hw8
                  obtain ⟨g, v, rfl, rfl, HG⟩ := hcut
                  have bx : ∀ k, k < 2 → ∃ ak ck, Bn w8 (g k) false ak (dlen (z k)) ck (e k) (false, z k, e k) := fun k hk => by
                    obtain ⟨h1, h2, h3⟩ := HG.out.2 k hk
                    obtain ⟨ak, ck, hv, p1, p2, p3⟩ := h1.is
                    rw [hv] at h3
                    exact ⟨ak, ck, h3, ak, ck, rfl, ak, ck, rfl, p1, p2, p3⟩
                  obtain ⟨xa, xc, X0⟩ := bx 0 (by omega)
                  obtain ⟨ya, yc, X1⟩ := bx 1 (by omega)
                  replace X0 : Hid (Bn w8 (g 0) false xa (dlen (z 0)) xc (e 0) (false, z 0, e 0)) := X0
                  replace X1 : Hid (Bn w8 (g 1) false ya (dlen (z 1)) yc (e 1) (false, z 1, e 1)) := X1
                  have HB8 : Hid (Below w.heap.size w w8) := HW2.out.trans (HG.out.1.mono HW2.out.size)
                  clear bx HG hs0 hs1 HA3 HA HZL HKK HH HV HB1 HB2 HW1 HW2 a0 a1 a2 b0 b1 b2 c0' c1' c2' c3' c4' c0 c1 c2 c3 c4
                  have hbm : Below w8.heap.size w8 (w8.alloc (.cells #[.int .u32 1] 55)) := (Below.refl _ _).alloc (Nat.le_refl _) _
                  have kc := K.kM (w8.alloc (.cells #[.int .u32 1] 55)) w8.heap.size ((HT.out.later HB8.out).later hbm) (heap_alloc_new _ _)
                  go_wp2_with fail
                  refine kc.mono ?_
                  rintro r v9 ⟨s9, a9, n9, c9, e9, rfl, hp, hb⟩
                  obtain ⟨w9, hW9⟩ : ∃ w9, w9 = v9.alloc (.cells #[.bool s9, .slice a9 n9 c9, .int .i64 e9] 25) := ⟨_, rfl⟩
                  replace hb : Below w8.heap.size w8 v9 := hbm.trans (hb.mono hbm.size)
                  have hb' : Below w8.heap.size w8 w9 := by rw [hW9]; exact hb.alloc hb.size _
                  have X2 : Hid (Bn w9 (v9.heap.size) (s9) a9 (n9) c9 (e9) un) := (by rw [hW9]; exact Bn.new hp : Bn w9 (v9.heap.size) (s9) a9 (n9) c9 (e9) un)
                  replace X0 : Hid (Bn w9 (g 0) (false) xa (dlen (z 0)) xc (e 0) (false, z 0, e 0)) := X0.out.later hb'
                  replace X1 : Hid (Bn w9 (g 1) (false) ya (dlen (z 1)) yc (e 1) (false, z 1, e 1)) := X1.out.later hb'
                  have HB9 : Hid (Below w.heap.size w w9) := HB8.out.trans (hb'.mono HB8.out.size)
                  clear kc hb hb' hp  HB8 hbm
                  obtain ⟨⟨p0, p1, p2⟩, -⟩ := box_cells X0.out.1
                  obtain ⟨⟨q0, q1, q2⟩, -⟩ := box_cells X1.out.1
                  have kc := K.kQ w9 _ _ (HT.out.later HB9.out) X0.out.2 X1.out.2
                  rw [hW9] at p0 p1 p2 q0 q1 q2
                  go_wp2_with fail
                  rw [← hW9]
                  clear hW9
                  refine kc.mono ?_
                  rintro r v10 ⟨s10, a10, n10, c10, e10, rfl, hp, hb⟩
                  obtain ⟨w10, hW10⟩ : ∃ w10, w10 = v10.alloc (.cells #[.bool s10, .slice a10 n10 c10, .int .i64 e10] 25) := ⟨_, rfl⟩
                  have hb' : Below w9.heap.size w9 w10 := by rw [hW10]; exact hb.alloc hb.size _
                  have X3 : Hid (Bn w10 (v10.heap.size) (s10) a10 (n10) c10 (e10) tq) := (by rw [hW10]; exact Bn.new hp : Bn w10 (v10.heap.size) (s10) a10 (n10) c10 (e10) tq)
                  replace X0 : Hid (Bn w10 (g 0) (false) xa (dlen (z 0)) xc (e 0) (false, z 0, e 0)) := X0.out.later hb'
                  replace X1 : Hid (Bn w10 (g 1) (false) ya (dlen (z 1)) yc (e 1) (false, z 1, e 1)) := X1.out.later hb'
                  replace X2 : Hid (Bn w10 (v9.heap.size) (s9) a9 (n9) c9 (e9) un) := X2.out.later hb'
                  have HB10 : Hid (Below w.heap.size w w10) := HB9.out.trans (hb'.mono HB9.out.size)
                  clear kc hb hb' hp p0 p1 p2 q0 q1 q2 HB9
                  obtain ⟨⟨p0, p1, p2⟩, -⟩ := box_cells X3.out.1
                  obtain ⟨⟨q0, q1, q2⟩, -⟩ := box_cells X2.out.1
                  have kc := K.k1 w10 _ _ (HT.out.later HB10.out) X3.out.2 X2.out.2
                  rw [hW10] at p0 p1 p2 q0 q1 q2
                  go_wp2_with fail
                  rw [← hW10]
                  clear hW10
                  refine kc.mono ?_
                  rintro r v11 ⟨s11, a11, n11, c11, e11, rfl, hp, hb⟩
                  obtain ⟨w11, hW11⟩ : ∃ w11, w11 = v11.alloc (.cells #[.bool s11, .slice a11 n11 c11, .int .i64 e11] 25) := ⟨_, rfl⟩
                  have hb' : Below w10.heap.size w10 w11 := by rw [hW11]; exact hb.alloc hb.size _
                  have X4 : Hid (Bn w11 (v11.heap.size) (s11) a11 (n11) c11 (e11) tm) := (by rw [hW11]; exact Bn.new hp : Bn w11 (v11.heap.size) (s11) a11 (n11) c11 (e11) tm)
                  replace X0 : Hid (Bn w11 (g 0) (false) xa (dlen (z 0)) xc (e 0) (false, z 0, e 0)) := X0.out.later hb'
                  replace X1 : Hid (Bn w11 (g 1) (false) ya (dlen (z 1)) yc (e 1) (false, z 1, e 1)) := X1.out.later hb'
                  replace X2 : Hid (Bn w11 (v9.heap.size) (s9) a9 (n9) c9 (e9) un) := X2.out.later hb'
                  replace X3 : Hid (Bn w11 (v10.heap.size) (s10) a10 (n10) c10 (e10) tq) := X3.out.later hb'
                  have HB11 : Hid (Below w.heap.size w w11) := HB10.out.trans (hb'.mono HB10.out.size)
                  clear kc hb hb' hp p0 p1 p2 q0 q1 q2 HB10
                  obtain ⟨⟨p0, p1, p2⟩, -⟩ := box_cells X3.out.1
                  obtain ⟨⟨q0, q1, q2⟩, -⟩ := box_cells X1.out.1
                  have kc := K.k2 w11 _ _ (HT.out.later HB11.out) X3.out.2 X1.out.2
                  rw [hW11] at p0 p1 p2 q0 q1 q2
                  go_wp2_with fail
                  rw [← hW11]
                  clear hW11
                  refine kc.mono ?_
                  rintro r v12 ⟨s12, a12, n12, c12, e12, rfl, hp, hb⟩
                  obtain ⟨w12, hW12⟩ : ∃ w12, w12 = v12.alloc (.cells #[.bool s12, .slice a12 n12 c12, .int .i64 e12] 25) := ⟨_, rfl⟩
                  have hb' : Below w11.heap.size w11 w12 := by rw [hW12]; exact hb.alloc hb.size _
                  have X5 : Hid (Bn w12 (v12.heap.size) (s12) a12 (n12) c12 (e12) tp) := (by rw [hW12]; exact Bn.new hp : Bn w12 (v12.heap.size) (s12) a12 (n12) c12 (e12) tp)
                  replace X0 : Hid (Bn w12 (g 0) (false) xa (dlen (z 0)) xc (e 0) (false, z 0, e 0)) := X0.out.later hb'
                  replace X1 : Hid (Bn w12 (g 1) (false) ya (dlen (z 1)) yc (e 1) (false, z 1, e 1)) := X1.out.later hb'
                  replace X2 : Hid (Bn w12 (v9.heap.size) (s9) a9 (n9) c9 (e9) un) := X2.out.later hb'
                  replace X3 : Hid (Bn w12 (v10.heap.size) (s10) a10 (n10) c10 (e10) tq) := X3.out.later hb'
                  replace X4 : Hid (Bn w12 (v11.heap.size) (s11) a11 (n11) c11 (e11) tm) := X4.out.later hb'
                  have HB12 : Hid (Below w.heap.size w w12) := HB11.out.trans (hb'.mono HB11.out.size)
                  clear kc hb hb' hp p0 p1 p2 q0 q1 q2 HB11
                  obtain ⟨⟨p0, p1, p2⟩, -⟩ := box_cells X4.out.1
                  obtain ⟨⟨q0, q1, q2⟩, -⟩ := box_cells X1.out.1
                  have kc := K.k3 w12 _ _ (HT.out.later HB12.out) X4.out.2 X1.out.2
                  rw [hW12] at p0 p1 p2 q0 q1 q2
                  go_wp2_with fail
                  rw [← hW12]
                  clear hW12
                  refine kc.mono ?_
                  rintro r v13 ⟨s13, a13, n13, c13, e13, rfl, hp, hb⟩
                  obtain ⟨w13, hW13⟩ : ∃ w13, w13 = v13.alloc (.cells #[.bool s13, .slice a13 n13 c13, .int .i64 e13] 25) := ⟨_, rfl⟩
                  have hb' : Below w12.heap.size w12 w13 := by rw [hW13]; exact hb.alloc hb.size _
                  have X6 : Hid (Bn w13 (v13.heap.size) (s13) a13 (n13) c13 (e13) tu) := (by rw [hW13]; exact Bn.new hp : Bn w13 (v13.heap.size) (s13) a13 (n13) c13 (e13) tu)
                  replace X0 : Hid (Bn w13 (g 0) (false) xa (dlen (z 0)) xc (e 0) (false, z 0, e 0)) := X0.out.later hb'
                  replace X1 : Hid (Bn w13 (g 1) (false) ya (dlen (z 1)) yc (e 1) (false, z 1, e 1)) := X1.out.later hb'
                  replace X2 : Hid (Bn w13 (v9.heap.size) (s9) a9 (n9) c9 (e9) un) := X2.out.later hb'
                  replace X3 : Hid (Bn w13 (v10.heap.size) (s10) a10 (n10) c10 (e10) tq) := X3.out.later hb'
                  replace X4 : Hid (Bn w13 (v11.heap.size) (s11) a11 (n11) c11 (e11) tm) := X4.out.later hb'
                  replace X5 : Hid (Bn w13 (v12.heap.size) (s12) a12 (n12) c12 (e12) tp) := X5.out.later hb'
                  have HB13 : Hid (Below w.heap.size w w13) := HB12.out.trans (hb'.mono HB12.out.size)
                  clear kc hb hb' hp p0 p1 p2 q0 q1 q2 HB12
                  obtain ⟨⟨p0, p1, p2⟩, -⟩ := box_cells X0.out.1
                  have kc := K.kR w13 _ (HT.out.later HB13.out) X0.out.2
                  rw [hW13] at p0 p1 p2
                  go_wp2_with fail
                  rw [← hW13]
                  clear hW13
                  refine kc.mono ?_
                  rintro r v14 ⟨s14, a14, n14, c14, e14, rfl, hp, hb⟩
                  obtain ⟨w14, hW14⟩ : ∃ w14, w14 = v14.alloc (.cells #[.bool s14, .slice a14 n14 c14, .int .i64 e14] 25) := ⟨_, rfl⟩
                  have hb' : Below w13.heap.size w13 w14 := by rw [hW14]; exact hb.alloc hb.size _
                  have X7 : Hid (Bn w14 (v14.heap.size) (s14) a14 (n14) c14 (e14) tr) := (by rw [hW14]; exact Bn.new hp : Bn w14 (v14.heap.size) (s14) a14 (n14) c14 (e14) tr)
                  replace X0 : Hid (Bn w14 (g 0) (false) xa (dlen (z 0)) xc (e 0) (false, z 0, e 0)) := X0.out.later hb'
                  replace X1 : Hid (Bn w14 (g 1) (false) ya (dlen (z 1)) yc (e 1) (false, z 1, e 1)) := X1.out.later hb'
                  replace X2 : Hid (Bn w14 (v9.heap.size) (s9) a9 (n9) c9 (e9) un) := X2.out.later hb'
                  replace X3 : Hid (Bn w14 (v10.heap.size) (s10) a10 (n10) c10 (e10) tq) := X3.out.later hb'
                  replace X4 : Hid (Bn w14 (v11.heap.size) (s11) a11 (n11) c11 (e11) tm) := X4.out.later hb'
                  replace X5 : Hid (Bn w14 (v12.heap.size) (s12) a12 (n12) c12 (e12) tp) := X5.out.later hb'
                  replace X6 : Hid (Bn w14 (v13.heap.size) (s13) a13 (n13) c13 (e13) tu) := X6.out.later hb'
                  have HB14 : Hid (Below w.heap.size w w14) := HB13.out.trans (hb'.mono HB13.out.size)
                  clear kc hb hb' hp p0 p1 p2 HB13
                  obtain ⟨⟨p0, p1, p2⟩, -⟩ := box_cells X7.out.1
                  obtain ⟨⟨q0, q1, q2⟩, -⟩ := box_cells X2.out.1
                  have kc := K.k4 w14 _ _ (HT.out.later HB14.out) X7.out.2 X2.out.2
                  rw [hW14] at p0 p1 p2 q0 q1 q2
                  go_wp2_with fail
                  rw [← hW14]
                  clear hW14
                  refine kc.mono ?_
                  rintro r v15 ⟨s15, a15, n15, c15, e15, rfl, hp, hb⟩
                  obtain ⟨w15, hW15⟩ : ∃ w15, w15 = v15.alloc (.cells #[.bool s15, .slice a15 n15 c15, .int .i64 e15] 25) := ⟨_, rfl⟩
                  have hb' : Below w14.heap.size w14 w15 := by rw [hW15]; exact hb.alloc hb.size _
                  have X8 : Hid (Bn w15 (v15.heap.size) (s15) a15 (n15) c15 (e15) ta) := (by rw [hW15]; exact Bn.new hp : Bn w15 (v15.heap.size) (s15) a15 (n15) c15 (e15) ta)
                  replace X0 : Hid (Bn w15 (g 0) (false) xa (dlen (z 0)) xc (e 0) (false, z 0, e 0)) := X0.out.later hb'
                  replace X1 : Hid (Bn w15 (g 1) (false) ya (dlen (z 1)) yc (e 1) (false, z 1, e 1)) := X1.out.later hb'
                  replace X2 : Hid (Bn w15 (v9.heap.size) (s9) a9 (n9) c9 (e9) un) := X2.out.later hb'
                  replace X3 : Hid (Bn w15 (v10.heap.size) (s10) a10 (n10) c10 (e10) tq) := X3.out.later hb'
                  replace X4 : Hid (Bn w15 (v11.heap.size) (s11) a11 (n11) c11 (e11) tm) := X4.out.later hb'
                  replace X5 : Hid (Bn w15 (v12.heap.size) (s12) a12 (n12) c12 (e12) tp) := X5.out.later hb'
                  replace X6 : Hid (Bn w15 (v13.heap.size) (s13) a13 (n13) c13 (e13) tu) := X6.out.later hb'
                  replace X7 : Hid (Bn w15 (v14.heap.size) (s14) a14 (n14) c14 (e14) tr) := X7.out.later hb'
                  have HB15 : Hid (Below w.heap.size w w15) := HB14.out.trans (hb'.mono HB14.out.size)
                  clear kc hb hb' hp p0 p1 p2 q0 q1 q2 HB14
                  obtain ⟨⟨p0, p1, p2⟩, -⟩ := box_cells X7.out.1
                  have kc := K.k5 w15 _ _ (HT.out.later HB15.out) X7.out.2 X7.out.2
                  rw [hW15] at p0 p1 p2
                  go_wp2_with fail
                  rw [← hW15]
                  clear hW15
                  refine kc.mono ?_
                  rintro r v16 ⟨s16, a16, n16, c16, e16, rfl, hp, hb⟩
                  obtain ⟨w16, hW16⟩ : ∃ w16, w16 = v16.alloc (.cells #[.bool s16, .slice a16 n16 c16, .int .i64 e16] 25) := ⟨_, rfl⟩
                  have hb' : Below w15.heap.size w15 w16 := by rw [hW16]; exact hb.alloc hb.size _
                  have X9 : Hid (Bn w16 (v16.heap.size) (s16) a16 (n16) c16 (e16) ts) := (by rw [hW16]; exact Bn.new hp : Bn w16 (v16.heap.size) (s16) a16 (n16) c16 (e16) ts)
                  replace X0 : Hid (Bn w16 (g 0) (false) xa (dlen (z 0)) xc (e 0) (false, z 0, e 0)) := X0.out.later hb'
                  replace X1 : Hid (Bn w16 (g 1) (false) ya (dlen (z 1)) yc (e 1) (false, z 1, e 1)) := X1.out.later hb'
                  replace X2 : Hid (Bn w16 (v9.heap.size) (s9) a9 (n9) c9 (e9) un) := X2.out.later hb'
                  replace X3 : Hid (Bn w16 (v10.heap.size) (s10) a10 (n10) c10 (e10) tq) := X3.out.later hb'
                  replace X4 : Hid (Bn w16 (v11.heap.size) (s11) a11 (n11) c11 (e11) tm) := X4.out.later hb'
                  replace X5 : Hid (Bn w16 (v12.heap.size) (s12) a12 (n12) c12 (e12) tp) := X5.out.later hb'
                  replace X6 : Hid (Bn w16 (v13.heap.size) (s13) a13 (n13) c13 (e13) tu) := X6.out.later hb'
                  replace X7 : Hid (Bn w16 (v14.heap.size) (s14) a14 (n14) c14 (e14) tr) := X7.out.later hb'
                  replace X8 : Hid (Bn w16 (v15.heap.size) (s15) a15 (n15) c15 (e15) ta) := X8.out.later hb'
                  have HB16 : Hid (Below w.heap.size w w16) := HB15.out.trans (hb'.mono HB15.out.size)
                  clear kc hb hb' hp p0 p1 p2 HB15
                  obtain ⟨⟨p0, p1, p2⟩, -⟩ := box_cells X8.out.1
                  have kc := K.k6 w16 _ _ (HT.out.later HB16.out) X8.out.2 X8.out.2
                  rw [hW16] at p0 p1 p2
                  go_wp2_with fail
                  rw [← hW16]
                  clear hW16
                  refine kc.mono ?_
                  rintro r v17 ⟨s17, a17, n17, c17, e17, rfl, hp, hb⟩
                  obtain ⟨w17, hW17⟩ : ∃ w17, w17 = v17.alloc (.cells #[.bool s17, .slice a17 n17 c17, .int .i64 e17] 25) := ⟨_, rfl⟩
                  have hb' : Below w16.heap.size w16 w17 := by rw [hW17]; exact hb.alloc hb.size _
                  have X10 : Hid (Bn w17 (v17.heap.size) (s17) a17 (n17) c17 (e17) tt) := (by rw [hW17]; exact Bn.new hp : Bn w17 (v17.heap.size) (s17) a17 (n17) c17 (e17) tt)
                  replace X0 : Hid (Bn w17 (g 0) (false) xa (dlen (z 0)) xc (e 0) (false, z 0, e 0)) := X0.out.later hb'
                  replace X1 : Hid (Bn w17 (g 1) (false) ya (dlen (z 1)) yc (e 1) (false, z 1, e 1)) := X1.out.later hb'
                  replace X2 : Hid (Bn w17 (v9.heap.size) (s9) a9 (n9) c9 (e9) un) := X2.out.later hb'
                  replace X3 : Hid (Bn w17 (v10.heap.size) (s10) a10 (n10) c10 (e10) tq) := X3.out.later hb'
                  replace X4 : Hid (Bn w17 (v11.heap.size) (s11) a11 (n11) c11 (e11) tm) := X4.out.later hb'
                  replace X5 : Hid (Bn w17 (v12.heap.size) (s12) a12 (n12) c12 (e12) tp) := X5.out.later hb'
                  replace X6 : Hid (Bn w17 (v13.heap.size) (s13) a13 (n13) c13 (e13) tu) := X6.out.later hb'
                  replace X7 : Hid (Bn w17 (v14.heap.size) (s14) a14 (n14) c14 (e14) tr) := X7.out.later hb'
                  replace X8 : Hid (Bn w17 (v15.heap.size) (s15) a15 (n15) c15 (e15) ta) := X8.out.later hb'
                  replace X9 : Hid (Bn w17 (v16.heap.size) (s16) a16 (n16) c16 (e16) ts) := X9.out.later hb'
                  have HB17 : Hid (Below w.heap.size w w17) := HB16.out.trans (hb'.mono HB16.out.size)
                  clear kc hb hb' hp p0 p1 p2 HB16
                  obtain ⟨f1, f1'⟩ := K.f1
                  have f2 := K.f2
                  obtain ⟨f3, f3'⟩ := K.f3
                  have f4 := K.f4
                  obtain ⟨⟨p0, p1, p2⟩, -⟩ := box_cells X5.out.1
                  obtain ⟨⟨q0, q1, q2⟩, -⟩ := box_cells X0.out.1
                  have kc := K.m1 w17 _ _ X5.out.2 X0.out.2
                  rw [hW17] at p0 p1 p2 q0 q1 q2
                  go_wp2_with fail
                  rw [← hW17]
                  clear hW17
                  refine kc.mono ?_
                  rintro r w18 ⟨rfl, hb'⟩
                  replace X0 : Hid (Bn w18 (g 0) (false) xa (dlen (z 0)) xc (e 0) (false, z 0, e 0)) := X0.out.later hb'
                  replace X5 : Hid (Bn w18 (v12.heap.size) (s12) a12 (n12) c12 (e12) tp) := X5.out.later hb'
                  replace X6 : Hid (Bn w18 (v13.heap.size) (s13) a13 (n13) c13 (e13) tu) := X6.out.later hb'
                  replace X9 : Hid (Bn w18 (v16.heap.size) (s16) a16 (n16) c16 (e16) ts) := X9.out.later hb'
                  replace X10 : Hid (Bn w18 (v17.heap.size) (s17) a17 (n17) c17 (e17) tt) := X10.out.later hb'
                  have HB18 : Hid (Below w.heap.size w w18) := HB17.out.trans (hb'.mono HB17.out.size)
                  clear kc hb' p0 p1 p2 q0 q1 q2 HB17
                  obtain ⟨⟨p0, p1, p2⟩, -⟩ := box_cells X6.out.1
                  obtain ⟨⟨q0, q1, q2⟩, -⟩ := box_cells X0.out.1
                  have kc := K.m2 w18 _ _ X6.out.2 X0.out.2
                  go_wp2_with fail
                  refine kc.mono ?_
                  rintro r w19 ⟨rfl, hb'⟩
                  replace X0 : Hid (Bn w19 (g 0) (false) xa (dlen (z 0)) xc (e 0) (false, z 0, e 0)) := X0.out.later hb'
                  replace X5 : Hid (Bn w19 (v12.heap.size) (s12) a12 (n12) c12 (e12) tp) := X5.out.later hb'
                  replace X6 : Hid (Bn w19 (v13.heap.size) (s13) a13 (n13) c13 (e13) tu) := X6.out.later hb'
                  replace X9 : Hid (Bn w19 (v16.heap.size) (s16) a16 (n16) c16 (e16) ts) := X9.out.later hb'
                  replace X10 : Hid (Bn w19 (v17.heap.size) (s17) a17 (n17) c17 (e17) tt) := X10.out.later hb'
                  have HB19 : Hid (Below w.heap.size w w19) := HB18.out.trans (hb'.mono HB18.out.size)
                  clear kc hb' p0 p1 p2 q0 q1 q2 HB18
                  obtain ⟨⟨p0, p1, p2⟩, -⟩ := box_cells X5.out.1
                  obtain ⟨⟨q0, q1, q2⟩, -⟩ := box_cells X0.out.1
                  have kc := K.m1 w19 _ _ X5.out.2 X0.out.2
                  go_wp2_with fail
                  refine kc.mono ?_
                  rintro r w20 ⟨rfl, hb'⟩
                  replace X0 : Hid (Bn w20 (g 0) (false) xa (dlen (z 0)) xc (e 0) (false, z 0, e 0)) := X0.out.later hb'
                  replace X5 : Hid (Bn w20 (v12.heap.size) (s12) a12 (n12) c12 (e12) tp) := X5.out.later hb'
                  replace X6 : Hid (Bn w20 (v13.heap.size) (s13) a13 (n13) c13 (e13) tu) := X6.out.later hb'
                  replace X9 : Hid (Bn w20 (v16.heap.size) (s16) a16 (n16) c16 (e16) ts) := X9.out.later hb'
                  replace X10 : Hid (Bn w20 (v17.heap.size) (s17) a17 (n17) c17 (e17) tt) := X10.out.later hb'
                  have HB20 : Hid (Below w.heap.size w w20) := HB19.out.trans (hb'.mono HB19.out.size)
                  clear kc hb' p0 p1 p2 q0 q1 q2 HB19
                  obtain ⟨⟨p0, p1, p2⟩, -⟩ := box_cells X9.out.1
                  obtain ⟨⟨q0, q1, q2⟩, -⟩ := box_cells X0.out.1
                  have kc := K.m3 w20 _ _ X9.out.2 X0.out.2
                  go_wp2_with fail
                  refine kc.mono ?_
                  rintro r w21 ⟨rfl, hb'⟩
                  replace X0 : Hid (Bn w21 (g 0) (false) xa (dlen (z 0)) xc (e 0) (false, z 0, e 0)) := X0.out.later hb'
                  replace X5 : Hid (Bn w21 (v12.heap.size) (s12) a12 (n12) c12 (e12) tp) := X5.out.later hb'
                  replace X6 : Hid (Bn w21 (v13.heap.size) (s13) a13 (n13) c13 (e13) tu) := X6.out.later hb'
                  replace X9 : Hid (Bn w21 (v16.heap.size) (s16) a16 (n16) c16 (e16) ts) := X9.out.later hb'
                  replace X10 : Hid (Bn w21 (v17.heap.size) (s17) a17 (n17) c17 (e17) tt) := X10.out.later hb'
                  have HB21 : Hid (Below w.heap.size w w21) := HB20.out.trans (hb'.mono HB20.out.size)
                  clear kc hb' p0 p1 p2 q0 q1 q2 HB20
                  obtain ⟨⟨p0, p1, p2⟩, -⟩ := box_cells X10.out.1
                  obtain ⟨⟨q0, q1, q2⟩, -⟩ := box_cells X0.out.1
                  have kc := K.m4 w21 _ _ X10.out.2 X0.out.2
                  go_wp2_with fail
                  refine kc.mono ?_
                  rintro r w22 ⟨rfl, hb'⟩
                  replace X0 : Hid (Bn w22 (g 0) (false) xa (dlen (z 0)) xc (e 0) (false, z 0, e 0)) := X0.out.later hb'
                  replace X5 : Hid (Bn w22 (v12.heap.size) (s12) a12 (n12) c12 (e12) tp) := X5.out.later hb'
                  replace X6 : Hid (Bn w22 (v13.heap.size) (s13) a13 (n13) c13 (e13) tu) := X6.out.later hb'
                  replace X9 : Hid (Bn w22 (v16.heap.size) (s16) a16 (n16) c16 (e16) ts) := X9.out.later hb'
                  replace X10 : Hid (Bn w22 (v17.heap.size) (s17) a17 (n17) c17 (e17) tt) := X10.out.later hb'
                  have HB22 : Hid (Below w.heap.size w w22) := HB21.out.trans (hb'.mono HB21.out.size)
                  clear kc hb' p0 p1 p2 q0 q1 q2 HB21
                  obtain ⟨⟨p0, p1, p2⟩, -⟩ := box_cells X9.out.1
                  obtain ⟨⟨q0, q1, q2⟩, -⟩ := box_cells X0.out.1
                  have kc := K.m3 w22 _ _ X9.out.2 X0.out.2
                  go_wp2_with fail
                  refine kc.mono ?_
                  rintro r w23 ⟨rfl, hb'⟩
                  replace X0 : Hid (Bn w23 (g 0) (false) xa (dlen (z 0)) xc (e 0) (false, z 0, e 0)) := X0.out.later hb'
                  replace X5 : Hid (Bn w23 (v12.heap.size) (s12) a12 (n12) c12 (e12) tp) := X5.out.later hb'
                  replace X6 : Hid (Bn w23 (v13.heap.size) (s13) a13 (n13) c13 (e13) tu) := X6.out.later hb'
                  replace X9 : Hid (Bn w23 (v16.heap.size) (s16) a16 (n16) c16 (e16) ts) := X9.out.later hb'
                  replace X10 : Hid (Bn w23 (v17.heap.size) (s17) a17 (n17) c17 (e17) tt) := X10.out.later hb'
                  have HB23 : Hid (Below w.heap.size w w23) := HB22.out.trans (hb'.mono HB22.out.size)
                  clear kc hb' p0 p1 p2 q0 q1 q2 HB22
                  have kc := H14.out w23 HB23.out
                  go_wp2_with fail
                  refine kc.mono ?_
                  rintro r w24 ⟨rfl, hb'⟩
                  have HB24 : Hid (Below w.heap.size w w24) := HB23.out.trans (hb'.mono HB23.out.size)
                  clear kc hb'
                  go_wp2_with fail
                  go_ret
                  exact ⟨rfl, HB24.out⟩
              · have c4' : min (e 0) (e 1) < -3000 := by omega
                go_wp2_with fail
                refine k2.mono ?_
                rintro r w9 ⟨rfl, hb9⟩
                have HW9 : Hid (Below w.heap.size w w9) := HW2.out.trans (hb9.mono HW2.out.size)
                clear k2 hb9
                go_wp2_with fail
                go_ret
                exact ⟨rfl, HW9.out⟩
            · have c3' : (3000 : Int) < max (e 0) (e 1) := by omega
              go_wp2_with fail
              refine k2.mono ?_
              rintro r w9 ⟨rfl, hb9⟩
              have HW9 : Hid (Below w.heap.size w w9) := HW2.out.trans (hb9.mono HW2.out.size)
              clear k2 hb9
              go_wp2_with fail
              go_ret
              exact ⟨rfl, HW9.out⟩
          · have c2' : ((ln 1 : Int) == 0) = true := by simp; omega
            go_wp2_with fail
            refine k2.mono ?_
            rintro r w9 ⟨rfl, hb9⟩
            have HW9 : Hid (Below w.heap.size w w9) := HW2.out.trans (hb9.mono HW2.out.size)
            clear k2 hb9
            go_wp2_with fail
            go_ret
            exact ⟨rfl, HW9.out⟩
        · have c1' : (100 : Int) < (ln 1 : Int) := by omega
          go_wp2_with fail
          refine k2.mono ?_
          rintro r w9 ⟨rfl, hb9⟩
          have HW9 : Hid (Below w.heap.size w w9) := HW2.out.trans (hb9.mono HW2.out.size)
          clear k2 hb9
          go_wp2_with fail
          go_ret
          exact ⟨rfl, HW9.out⟩
      · have c0' : (100 : Int) < (ln 0 : Int) := by omega
        go_wp2_with fail
        refine k2.mono ?_
        rintro r w9 ⟨rfl, hb9⟩
        have HW9 : Hid (Below w.heap.size w w9) := HW2.out.trans (hb9.mono HW2.out.size)
        clear k2 hb9
        go_wp2_with fail
        go_ret
        exact ⟨rfl, HW9.out⟩
end Go.Proofs.YtejefbnfmglfeaaGreatDoor

/- normal over a slice of any capacity. -/
namespace Go.Proofs.YtejefbnfmglfeaaGreatDoor
set_option linter.unusedVariables false
set_option linter.unusedSimpArgs false
open Go.RowKit

theorem c120_v (b o cap m whole part x k : Nat) (w : World) (hm0 : 0 < m) (hm : m ≤ 35184372088832) (hk : k ≤ 1099511627776) (hcap : whole + m ≤ cap) (hcap2 : cap ≤ 9223372036854775807) (hwh : k / 32 = whole) (hpa : k % 32 = part)
    (hn : dlen x = whole + m) (hcell : ∀ i, i < whole + m → w.cell? ⟨b, o + i, none⟩ = some (.int .u32 (dg x i : Nat))) :
    Calls Tryz.prog 117 #[.slice (some ⟨b, o, none⟩) (whole + m : Nat) cap, .int .i64 k] w fun e w' => ∃ v, e = .returned v ∧ Own w' w.heap.size v (x / 2 ^ k) ∧ Below w.heap.size w w' := by
  have hq : (k : Int).tdiv 32 = ((k / 32 : Nat) : Int) := by rw [Int.tdiv_eq_ediv_of_nonneg (by omega)]; rfl
  have hr : (k : Int).tmod 32 = ((k % 32 : Nat) : Int) := by rw [Int.tmod_eq_emod_of_nonneg (by omega)]; rfl
  have hwb : whole ≤ 1099511627776 := by omega
  have hpb : part < 32 := by omega
  rw [hwh] at hq
  rw [hpa] at hr
  have hmk := run_make_row' (P := Tryz.prog) 22 55 (.int .u32 0) 4 Tryz.underlying22 Tryz.info55 rfl .i64 .i64 m (by omega) (by omega)
  have HN : Hid (dlen x = whole + m) := hn
  have HW : Hid (k / 32 = whole) := hwh
  have HP : Hid (k % 32 = part) := hpa
  clear hn hwh hpa
  have hmi : (whole : Int) < ((whole + m : Nat) : Int) := by omega
  have hmi2 : ¬ whole = cap := by omega
  go_enter Tryz.func117, Tryz.ntmps117
  go_wp2
  clear hmk
  go_loopw [27] (fun i wr => ∃ j : Nat, j ≤ m ∧ i = .int .i64 j ∧ Mk w wr m (fun t => if t < j then dg (x / 2 ^ k) t else 0)) (fun i _ => m - (intOf i).toNat)
  case atStart => exact ⟨0, Nat.zero_le _, rfl, (Mk.start w _).congr fun i hi => by rw [if_neg (by omega)]⟩
  case round =>
    obtain ⟨j, hj, rfl, hM⟩ := hrel
    by_cases hjn : j + 1 < m
    · have g1 := hM.old (hcell (whole + j) (by omega))
      have g4 := hM.old (hcell (whole + (j + 1)) (by omega))
      rw [← Nat.add_assoc] at g1 g4
      have g2 := hM.cell (i := j) (by omega)
      have g3 := hM.frozen j
      rw [if_neg (by omega)] at g2
      have hji : (j : Int) + 1 < (m : Int) := by omega
      have HM : Hid (Mk w wr m (fun t => if t < j then dg (x / 2 ^ k) t else 0)) := hM
      generalize hd : dg x (whole + j) = d at *
      generalize hd1 : dg x (whole + (j + 1)) = d1 at *
      have HD : Hid (dg x (whole + j) = d) := hd
      have HD1 : Hid (dg x (whole + (j + 1)) = d1) := hd1
      have HL : Hid (d < B ∧ d1 < B) := ⟨hd ▸ dg_lt _ _, hd1 ▸ dg_lt _ _⟩
      clear hd hd1 hM hcell
      go_wp2
      exact shr_round HM.out (by rw [shr_word2 HL.out.1 HL.out.2, shr_digit HW.out HP.out, HD.out, HD1.out]) (by omega)
    · by_cases hjm : j < m
      · have g1 := hM.old (hcell (whole + j) (by omega))
        rw [← Nat.add_assoc] at g1
        have g2 := hM.cell (i := j) (by omega)
        have g3 := hM.frozen j
        rw [if_neg (by omega)] at g2
        have hji : ¬ (j : Int) + 1 < (m : Int) := by omega
        have hji2 : (j : Int) < (m : Int) := by omega
        have HM : Hid (Mk w wr m (fun t => if t < j then dg (x / 2 ^ k) t else 0)) := hM
        generalize hd : dg x (whole + j) = d at *
        have HD : Hid (dg x (whole + j) = d) := hd
        have HL : Hid (d < B) := hd ▸ dg_lt _ _
        have HZ : Hid (dg x (whole + (j + 1)) = 0) := dg_past (by rw [HN.out]; omega)
        clear hd hM hcell
        go_wp2
        exact shr_round HM.out (by rw [shr_word1 HL.out, shr_digit HW.out HP.out, HD.out, HZ.out, Nat.zero_mul, Nat.add_zero]) (by omega)
      · obtain rfl : j = m := by omega
        have hE : Mk w wr j (dg (x / 2 ^ k)) := hM.congr fun i hi => if_pos hi
        have hA := hE.at
        have hL := shr_len (k := k) (m := j) (by rw [HW.out]; exact HN.out)
        have HC : Hid (Mk w wr j (dg (x / 2 ^ k))) := hE
        clear hM hcell hE
        go_wp2_with (first | (go_at_call 80; refine (c62 _ _ _ (x / 2 ^ k) _ hL (Nat.le_refl _) (by omega) hA).mono ?_; rintro e w' ⟨rfl, rfl⟩))
        go_ret
        exact ⟨_, rfl, HC.out.own hL (by omega), HC.out.below⟩

theorem tz_in' {x : Nat} (hx0 : x ≠ 0) : tz x / 32 < dlen x := by
  have h1 := (tz_spec _ x (Nat.le_refl _) hx0)
  have h2 : 2 ^ tz x ≤ x := by
    have h3 : 1 ≤ x / 2 ^ tz x := Nat.pos_of_ne_zero fun e0 => by have := h1.2; rw [e0] at this; simp at this
    have := Nat.mul_le_mul_left (2 ^ tz x) h3
    omega
  have h4 := lt_bl x
  have h5 : tz x < bl x := Nat.lt_of_not_le fun h6 => by
    have := Nat.pow_le_pow_right (n := 2) (by omega) h6
    omega
  have hd0 : dlen x ≠ 0 := fun e => hx0 (dlen_eq_zero.1 e)
  have := bl_top hx0
  have := bl_le32 (dg_lt x (dlen x - 1))
  omega

set_option maxRecDepth 200000 in
theorem c56_v (neg : Bool) (b o n cap x : Nat) (e : Int) (w : World) (hcell : ∀ i, i < n → w.cell? ⟨b, o + i, none⟩ = some (.int .u32 (dg x i : Nat))) (hc1 : n ≤ cap) (hc2 : cap ≤ 9223372036854775807) (hn : dlen x = n) (hx : dlen x ≤ 1000000000) (hx0 : x ≠ 0) (hT : Tab32 w) (he : -4611686018427387904 ≤ e ∧ e ≤ 4611686018427387904) :
    Calls Tryz.prog 78 #[.bool neg, .slice (some ⟨b, o, none⟩) n cap, .int .i64 e] w fun r w' => ∃ v, r = .returned (.agg #[.bool neg, v, .int .i64 (e + tz x)]) ∧ Own w' w.heap.size v (x / 2 ^ tz x) ∧ Below w.heap.size w w' := by
  obtain ⟨w0, hw0⟩ : ∃ w0, w0 = w.alloc (.cells #[.bool false, .slice none 0 0, .int .i64 0] 25) := ⟨_, rfl⟩
  have hB0 : Below w.heap.size w w0 := by rw [hw0]; exact (Below.refl _ _).alloc (Nat.le_refl _) _
  have hcell0 : ∀ i, i < n → w0.cell? ⟨b, o + i, none⟩ = some (.int .u32 (dg x i : Nat)) := fun i hi => (hB0.cell (World.block_lt_of_cell? _ _ (hcell i hi))).trans (hcell i hi)
  have hT0 := hT.later hB0
  have k62 := c62 (some ⟨b, o, none⟩) n cap x w0 (by omega) hc1 (by omega) ⟨b, o, fun _ => rfl, hcell0⟩
  rw [hn] at k62
  have k119 := c119_1 b o n cap x w0 (by omega) hn hx0 hT0 hcell0
  have htz := tz_in' hx0
  have htb : tz x ≤ 40000000000 := by omega
  have k120 : Calls Tryz.prog 117 #[.slice (some ⟨b, o, none⟩) n cap, .int .i64 (tz x : Nat)] w0 fun e w' => ∃ v, e = .returned v ∧ Own w' w0.heap.size v (x / 2 ^ tz x) ∧ Below w0.heap.size w0 w' := by
    obtain ⟨m, hm⟩ : ∃ m, dlen x = tz x / 32 + m := ⟨dlen x - tz x / 32, by omega⟩
    rw [← hn, hm]
    exact c120_v b o cap m _ _ x (tz x) w0 (by omega) (by omega) (by omega) (by omega) hc2 rfl rfl hm (fun i hi => hcell0 i (by omega))
  have hn0 : ((n : Int) == 0) = false := by
    have : dlen x ≠ 0 := fun e => hx0 (dlen_eq_zero.1 e)
    simp; omega
  have HH : Hid (w0.heap[w.heap.size]? = some (.cells #[.bool false, .slice none 0 0, .int .i64 0] 25 (0, 0))) := (by rw [hw0]; exact heap_alloc_new _ _ : w0.heap[w.heap.size]? = some (.cells #[.bool false, .slice none 0 0, .int .i64 0] 25 (0, 0)))
  have HB0 : Hid (Below w.heap.size w w0) := hB0
  have HX : Hid (w0.heap.size = w.heap.size + 1) := (by rw [hw0]; simp : w0.heap.size = w.heap.size + 1)
  generalize htzx : tz x = t at *
  have HTZ : Hid (tz x = t) := htzx
  obtain ⟨he1, he2⟩ := he
  clear hcell hcell0 hT hT0 hn hx0 hx hB0 htzx htz
  go_enter Tryz.func78, Tryz.ntmps78
  go_wp2_with fail
  rw [← hw0]
  clear hw0
  refine k62.mono ?_
  rintro e w1 ⟨rfl, rfl⟩
  clear k62
  go_wp2_with fail
  refine k119.mono ?_
  rintro e w2 ⟨rfl, rfl⟩
  clear k119
  go_wp2_with fail
  refine k120.mono ?_
  rintro e w3 ⟨v, rfl, hO, hB⟩
  obtain ⟨va, vc, rfl, -, -, -⟩ := hO.is
  generalize dlen (x / 2 ^ t) = vl at *
  have HH3 : Hid (w3.heap[w.heap.size]? = some (.cells #[.bool false, .slice none 0 0, .int .i64 0] 25 (0, 0))) := box_later HH.out hB (by have := HX.out; omega)
  obtain ⟨⟨a1, a2, a3⟩, a4, a5, a6⟩ := box_cells HH3.out
  have HO : Hid (Own w3 w2.heap.size (.slice va vl vc) (x / 2 ^ t)) := hO
  have HB : Hid (Below w2.heap.size w2 w3) := hB
  clear k120 hO hB
  go_wp2
  refine bodyPost_ret (results_cell_row rfl _ _ w.heap.size 25 #[.bool neg, .slice va vl vc, .int .i64 (e + t)] (0, 0) _ rfl (store3 _ _ _ HH3.out) Tryz.underlying25 rfl Tryz.info25) rfl ?_
  have hx := HX.out
  exact ⟨_, rfl, (own_store3 HO.out (by omega) _ _ _).mono (by omega), below_store3 (HB0.out.trans (HB.out.mono (by omega))) (Nat.le_refl _) _ _ _⟩

end Go.Proofs.YtejefbnfmglfeaaGreatDoor

/- Make. -/
namespace Go.Proofs.YtejefbnfmglfeaaGreatDoor
set_option linter.unusedVariables false
set_option linter.unusedSimpArgs false
open Go.RowKit

/-- what Make answers -/
def Mk25 (w w' : World) (neg : Bool) (x : Nat) (e : Int) (r : Ending) : Prop :=
  (okR neg x e = true ∧ ∃ A, r = .returned (.tuple #[A, .int .i64 0]) ∧ Nrm w' w.heap.size A neg x e) ∨ (okR neg x e = false ∧ r = .returned (.tuple #[.agg #[.bool false, .slice none 0 0, .int .i64 0], .int .i64 2]))

set_option maxRecDepth 200000 in
theorem c15_0 (neg : Bool) (ao : Option Addr) (n cap : Nat) (e : Int) (w : World) (h : At w ao n 0) (hn : n ≤ cap) (hc : n ≤ 70368744177664) :
    Calls Tryz.prog 38 #[.bool neg, .slice ao n cap, .int .i64 e] w fun r w' => Mk25 w w' neg 0 e r ∧ Below w.heap.size w w' := by
  have HB : Hid (Below w.heap.size w (w.alloc (.cells #[.bool false, .slice none 0 0, .int .i64 0] 25))) := (Below.refl _ _).alloc (Nat.le_refl _) _
  have k := c62 ao n cap 0 (w.alloc (.cells #[.bool false, .slice none 0 0, .int .i64 0] 25)) (by rw [dlen_zero]; omega) hn hc (h.later HB.out)
  rw [dlen_zero] at k
  clear h
  go_enter Tryz.func38, Tryz.ntmps38
  go_wp2_with fail
  refine k.mono ?_
  rintro r w1 ⟨rfl, rfl⟩
  go_wp2
  refine bodyPost_ret (results_cell_tmp_row rfl _ _ w.heap.size 25 #[.bool false, .slice none 0 0, .int .i64 0] (0, 0) _ rfl (heap_alloc_new _ _) Tryz.underlying25 rfl Tryz.info25) rfl ?_
  refine ⟨?_, HB.out⟩
  unfold Mk25
  exact .inl ⟨by unfold okR; rw [if_pos rfl], _, rfl, .inl ⟨rfl, rfl⟩⟩

theorem okR_bad {neg : Bool} {x : Nat} {e : Int} (hx : x ≠ 0) (h : e > 65536 ∨ e < -65536 - 32 * (dlen x : Int)) : okR neg x e = false := by
  have ht := tz_in' hx
  unfold okR okN
  rw [if_neg hx]
  have hy : dlen (x / 2 ^ tz x) ≠ 0 := by
    intro e0
    have := (tz_spec _ x (Nat.le_refl _) hx).2
    rw [dlen_eq_zero.1 e0] at this
    simp at this
  rw [if_neg hy]
  simp only [Bool.and_eq_false_iff, decide_eq_false_iff_not]
  rcases h with h | h
  · exact .inr (by omega)
  · exact .inl (.inr (by omega))

set_option maxHeartbeats 2000000 in
set_option maxRecDepth 200000 in
theorem c15_1 (neg : Bool) (b o n cap x : Nat) (e : Int) (w : World) (hcell : ∀ i, i < n → w.cell? ⟨b, o + i, none⟩ = some (.int .u32 (dg x i : Nat))) (hxn : dlen x ≤ n) (hn : n ≤ cap) (hc2 : cap ≤ 9223372036854775807) (hc : n ≤ 1000000000) (hx0 : x ≠ 0) (he : -9223372036854775808 ≤ e ∧ e ≤ 9223372036854775807) (hT : Tab32 w) :
    Calls Tryz.prog 38 #[.bool neg, .slice (some ⟨b, o, none⟩) n cap, .int .i64 e] w fun r w' => Mk25 w w' neg x e r ∧ Below w.heap.size w w' := by
  obtain ⟨W, hW⟩ : ∃ W, W = w.alloc (.cells #[.bool false, .slice none 0 0, .int .i64 0] 25) := ⟨_, rfl⟩
  have hBW : Below w.heap.size w W := by rw [hW]; exact (Below.refl _ _).alloc (Nat.le_refl _) _
  have hcW : ∀ i, i < n → W.cell? ⟨b, o + i, none⟩ = some (.int .u32 (dg x i : Nat)) := fun i hi => (hBW.cell (World.block_lt_of_cell? _ _ (hcell i hi))).trans (hcell i hi)
  have k38 := c62 (some ⟨b, o, none⟩) n cap x W hxn hn (by omega) ⟨b, o, fun _ => rfl, hcW⟩
  have HX : Hid (Below w.heap.size w W ∧ W.heap.size = w.heap.size + 1 ∧ W.heap[w.heap.size]? = some (.cells #[.bool false, .slice none 0 0, .int .i64 0] 25 (0, 0))) := ⟨hBW, by rw [hW]; simp, by rw [hW]; exact heap_alloc_new _ _⟩
  obtain ⟨he1, he2⟩ := he
  have hl0 : dlen x ≠ 0 := fun e => hx0 (dlen_eq_zero.1 e)
  have hlb : dlen x ≤ 1000000000 := by omega
  have hn0 : ((dlen x : Int) == 0) = false := by simp; omega
  by_cases hbad : e > 65536 ∨ e < -65536 - 32 * (dlen x : Int)
  · have HO : Hid (okR neg x e = false) := okR_bad hx0 hbad
    clear hcell hcW hBW hT hx0
    generalize dlen x = L at *
    obtain ⟨⟨a0, a1, a2⟩, a3, a4, a5⟩ := box_cells HX.out.2.2
    rcases hbad with hbad | hbad
    · go_enter Tryz.func38, Tryz.ntmps38
      go_wp2_with fail
      rw [← hW]
      clear hW
      refine k38.mono ?_
      rintro r w1 ⟨rfl, hw1⟩
      replace hw1 := hw1.symm
      subst hw1
      clear k38
      go_wp2_with fail
      refine bodyPost_ret (results_cell_tmp_row rfl _ _ w.heap.size 25 #[.bool false, .slice none 0 0, .int .i64 0] (0, 0) _ rfl (store3 _ _ _ HX.out.2.2) Tryz.underlying25 rfl Tryz.info25) rfl ?_
      refine ⟨?_, below_store3 HX.out.1 (Nat.le_refl _) _ _ _⟩
      unfold Mk25
      exact .inr ⟨HO.out, rfl⟩
    · have hnb : ¬ e > 65536 := by omega
      go_enter Tryz.func38, Tryz.ntmps38
      go_wp2_with fail
      rw [← hW]
      clear hW
      refine k38.mono ?_
      rintro r w1 ⟨rfl, hw1⟩
      replace hw1 := hw1.symm
      subst hw1
      clear k38
      go_wp2_with fail
      refine bodyPost_ret (results_cell_tmp_row rfl _ _ w.heap.size 25 #[.bool false, .slice none 0 0, .int .i64 0] (0, 0) _ rfl (store3 _ _ _ HX.out.2.2) Tryz.underlying25 rfl Tryz.info25) rfl ?_
      refine ⟨?_, below_store3 HX.out.1 (Nat.le_refl _) _ _ _⟩
      unfold Mk25
      exact .inr ⟨HO.out, rfl⟩
  · have h1 : ¬ e > 65536 := fun h => hbad (.inl h)
    have h2 : ¬ e < -65536 - 32 * (dlen x : Int) := fun h => hbad (.inr h)
    have k31 := c56_v neg b o (dlen x) cap x e W (fun i hi => hcW i (by omega)) (by omega) hc2 rfl (by omega) hx0 (hT.later hBW) (by omega)
    have HN0 : Hid (x ≠ 0 ∧ dlen x ≤ 35184372088832) := ⟨hx0, by omega⟩
    clear hcell hcW hBW hT hx0 hbad
    generalize hLx : dlen x = L at *
    have HLx : Hid (dlen x = L) := hLx
    clear hLx
    go_enter Tryz.func38, Tryz.ntmps38
    go_wp2_with fail
    rw [← hW]
    clear hW
    refine k38.mono ?_
    rintro r w1 ⟨rfl, hw1⟩
    replace hw1 := hw1.symm
    subst hw1
    clear k38
    go_wp2_with fail
    refine k31.mono ?_
    rintro r w2 ⟨v, rfl, ho, hb2⟩
    obtain ⟨va, vk, rfl, -, -, -⟩ := ho.is
    have HN : Hid (Nrm w2 W.heap.size (.agg #[.bool neg, .slice va (dlen (x / 2 ^ tz x)) vk, .int .i64 (e + tz x)]) neg x e) := (.inr ⟨HN0.out.1, _, rfl, ho⟩ : Nrm w2 W.heap.size (.agg #[.bool neg, .slice va (dlen (x / 2 ^ tz x)) vk, .int .i64 (e + tz x)]) neg x e)
    have HB2 : Hid (Below W.heap.size W w2) := hb2
    have k39 := c63n HN.out (by rw [HLx.out]; exact HN0.out.2)
    clear k31 ho hb2
    go_wp2_with fail
    refine k39.mono ?_
    rintro r w3 ⟨rfl, hb3⟩
    have HB3 : Hid (Below W.heap.size W w3) := HB2.out.trans (hb3.mono HB2.out.size)
    have HN3 : Hid (Nrm w3 W.heap.size (.agg #[.bool neg, .slice va (dlen (x / 2 ^ tz x)) vk, .int .i64 (e + tz x)]) neg x e) := HN.out.later hb3
    have HC3 : Hid (w3.heap[w.heap.size]? = some (.cells #[.bool false, .slice none 0 0, .int .i64 0] 25 (0, 0))) := box_later HX.out.2.2 HB3.out (by have := HX.out.2.1; omega)
    obtain ⟨⟨x1, x2, x3⟩, x4, x5, x6⟩ := box_cells HC3.out
    clear k39 hb3
    cases hok : okR neg x e
    · have HOK : Hid (okR neg x e = false) := hok
      have hNil : Nil = .agg #[.bool false, .slice none 0 0, .int .i64 0] := rfl
      go_wp2
      refine bodyPost_ret (results_cell_tmp_row rfl _ _ w.heap.size 25 #[.bool false, .slice none 0 0, .int .i64 0] (0, 0) _ rfl (store3 _ _ _ HC3.out) Tryz.underlying25 rfl Tryz.info25) rfl ?_
      refine ⟨?_, below_store3 (HX.out.1.trans (HB3.out.mono HX.out.1.size)) (Nat.le_refl _) _ _ _⟩
      unfold Mk25
      exact .inr ⟨HOK.out, rfl⟩
    · have HOK : Hid (okR neg x e = true) := hok
      go_wp2
      refine bodyPost_ret (results_cell_tmp_row rfl _ _ w.heap.size 25 #[.bool neg, .slice va (dlen (x / 2 ^ tz x)) vk, .int .i64 (e + tz x)] (0, 0) _ rfl (store3 _ _ _ HC3.out) Tryz.underlying25 rfl Tryz.info25) rfl ?_
      refine ⟨?_, below_store3 (HX.out.1.trans (HB3.out.mono HX.out.1.size)) (Nat.le_refl _) _ _ _⟩
      unfold Mk25
      have hn3 := HN3.out
      exact .inl ⟨HOK.out, _, rfl, (hn3.store (by have := HX.out.2.1; omega) _ _ _).mono (by have := HX.out.2.1; omega)⟩
end Go.Proofs.YtejefbnfmglfeaaGreatDoor

/- DyadLeast answers true. -/
namespace Go.Proofs.YtejefbnfmglfeaaGreatDoor
set_option linter.unusedVariables false
set_option linter.unusedSimpArgs false
open Go.RowKit Go.Fl64

theorem cmpI_mul {a b : Int} {c : Nat} (hc : 0 < c) : cmpI (a * (c : Int)) (b * (c : Int)) = cmpI a b := by
  have hc' : (0 : Int) < (c : Int) := by omega
  unfold cmpI
  have h1 : (a * (c : Int) < b * (c : Int)) ↔ a < b := ⟨fun h => Int.lt_of_mul_lt_mul_right h (Int.le_of_lt hc'), fun h => Int.mul_lt_mul_of_pos_right h hc'⟩
  have h2 : (b * (c : Int) < a * (c : Int)) ↔ b < a := ⟨fun h => Int.lt_of_mul_lt_mul_right h (Int.le_of_lt hc'), fun h => Int.mul_lt_mul_of_pos_right h hc'⟩
  simp only [h1, h2]
theorem cmpI_neg (a b : Int) : cmpI (-a) (-b) = - cmpI a b := by
  unfold cmpI
  by_cases h1 : a < b
  · rw [if_neg (by omega), if_pos (by omega), if_pos h1]; rfl
  · by_cases h2 : b < a
    · rw [if_pos (by omega), if_neg h1, if_pos h2]
    · rw [if_neg (by omega), if_neg (by omega), if_neg h1, if_neg h2]; rfl

theorem sgI_eq (s : Bool) (x : Nat) : sgI s (dlen x) = if x = 0 then 0 else if s then -1 else 1 := by
  unfold sgI
  by_cases h : x = 0
  · subst h; simp [dlen_zero]
  · rw [if_neg (fun e => h (dlen_eq_zero.1 e)), if_neg h]

/-- Cmp's answer is the order of the values -/
theorem ordN_vz {K : Nat} {na nb : Bool} {x y : Nat} {ea eb : Int} (h1 : 0 ≤ ea + K) (h2 : 0 ≤ eb + K) : ordN na x ea nb y eb = cmpI (vz K na x ea) (vz K nb y eb) := by
  have hm : 0 ≤ min ea eb + (K : Int) := by omega
  have e1 : vz K na x ea = vz K na (x * 2 ^ (ea - min ea eb).toNat) (min ea eb) := by
    rw [vz_shift hm, show min ea eb + ((ea - min ea eb).toNat : Int) = ea by omega]
  have e2 : vz K nb y eb = vz K nb (y * 2 ^ (eb - min ea eb).toNat) (min ea eb) := by
    rw [vz_shift hm, show min ea eb + ((eb - min ea eb).toNat : Int) = eb by omega]
  have hx : x = 0 ↔ x * 2 ^ (ea - min ea eb).toNat = 0 := by
    constructor
    · rintro rfl; rw [Nat.zero_mul]
    · intro h; rcases Nat.mul_eq_zero.1 h with h | h
      · exact h
      · have := Nat.two_pow_pos (ea - min ea eb).toNat; omega
  have hy : y = 0 ↔ y * 2 ^ (eb - min ea eb).toNat = 0 := by
    constructor
    · rintro rfl; rw [Nat.zero_mul]
    · intro h; rcases Nat.mul_eq_zero.1 h with h | h
      · exact h
      · have := Nat.two_pow_pos (eb - min ea eb).toNat; omega
  rw [e1, e2]
  unfold ordN vz
  rw [cmpI_mul (Nat.two_pow_pos _), sgI_eq, sgI_eq]
  generalize x * 2 ^ (ea - min ea eb).toNat = X at *
  generalize y * 2 ^ (eb - min ea eb).toNat = Y at *
  by_cases x0 : x = 0
  · have X0 := hx.1 x0
    rw [if_pos x0, X0]
    by_cases y0 : y = 0
    · rw [if_pos y0, if_pos rfl, hy.1 y0, sv_zero, sv_zero]
      simp [cmpI]
    · have Y0 : Y ≠ 0 := fun h => y0 (hy.2 h)
      rw [if_neg y0, sv_zero]
      cases nb
      · simp [sv, cmpI]; omega
      · simp [sv, cmpI]; omega
  · have X0 : X ≠ 0 := fun h => x0 (hx.2 h)
    rw [if_neg x0]
    by_cases y0 : y = 0
    · rw [if_pos y0, hy.1 y0, sv_zero]
      cases na
      · simp [sv, cmpI]; omega
      · simp [sv, cmpI]; omega
    · have Y0 : Y ≠ 0 := fun h => y0 (hy.2 h)
      rw [if_neg y0]
      cases na <;> cases nb
      · simp [sv]
      · simp [sv, cmpI]; omega
      · simp [sv, cmpI]; omega
      · simp only [if_true, sv]
        rw [cmpI_neg]; omega

theorem cmp_T {K : Nat} {t1 t2 : Tr} (o1 : Ok t1) (o2 : Ok t2) (h1 : 0 ≤ t1.2.2 + K) (h2 : 0 ≤ t2.2.2 + K) : Cm2 t1 t2 (cmpI (vzT K t1) (vzT K t2)) := by
  intro W X Y hX hY
  obtain ⟨ua, uc, rfl, i1⟩ := hX
  obtain ⟨va, vc, rfl, i2⟩ := hY
  obtain ⟨a1, a2, a3, -, -⟩ := o1.facts
  obtain ⟨b1, b2, b3, -, -⟩ := o2.facts
  have := cmp_ok i1 i2 (by omega) (by omega) (by omega) (by omega) o1 o2
  rw [ordN_vz h1 h2] at this
  exact this

theorem isqrt_ex (Q : Nat) : ∃ m, m * m ≤ Q ∧ Q < (m + 1) * (m + 1) := by
  induction Q with
  | zero => exact ⟨0, by omega, by omega⟩
  | succ Q ih =>
    obtain ⟨m, h1, h2⟩ := ih
    by_cases h : Q + 1 < (m + 1) * (m + 1)
    · exact ⟨m, by omega, h⟩
    · refine ⟨m + 1, by omega, ?_⟩
      have : (m + 1 + 1) * (m + 1 + 1) = (m + 1) * (m + 1) + 2 * m + 3 := by grind
      omega
theorem isqrt_eq {m m' Q : Nat} (h1 : m * m ≤ Q ∧ Q < (m + 1) * (m + 1)) (h2 : m' * m' ≤ Q ∧ Q < (m' + 1) * (m' + 1)) : m = m' := by
  have key : ∀ {a b : Nat}, a * a ≤ Q → Q < (b + 1) * (b + 1) → a ≤ b := fun {a b} h3 h4 => by
    refine Nat.le_of_not_lt fun h => ?_
    have := Nat.mul_le_mul (show b + 1 ≤ a from h) (show b + 1 ≤ a from h)
    omega
  have := key h1.1 h2.2
  have := key h2.1 h1.2
  omega

theorem held3_pn {w : World} {s : Bool} {z : Nat} {e : Int} {b : Bool} {r : Ending} {w' : World} (h : Held3 w s z e b r w') (hok : okR s z e = true) :
    ∃ s' ao n cap e', r = .returned (.tuple #[.agg #[.bool s', .slice ao n cap, .int .i64 e'], .bool b, .int .i64 0]) ∧ PN w' (.agg #[.bool s', .slice ao n cap, .int .i64 e']) (cn s z e) ∧ Below w.heap.size w w' := by
  obtain ⟨A, rfl, hN, hb⟩ := h
  rw [hok]
  have hp := hN.pn
  obtain ⟨s', ao, n, cap, e', rfl⟩ := hp.shape
  exact ⟨s', ao, n, cap, e', by simp, hp, hb⟩

theorem vzT_pos {K : Nat} {x : Nat} {e : Int} : vzT K (false, x, e) = ((x * 2 ^ (e + K).toNat : Nat) : Int) := by
  unfold vzT vz sv
  simp only [Bool.false_eq_true, if_false]
  exact (Int.natCast_mul ..).symm

theorem cmp_le {a b : Int} (h : a ≤ b) (ex : Bool) (hx : ex = true ↔ a = b) : cmpI a b ≤ 0 ∧ (ex == (cmpI a b == 0)) = true := by
  rcases cmpI_cases a b with ⟨h1, h2⟩ | ⟨h1, h2⟩ | ⟨h1, h2⟩
  · rw [h2]
    have : ex = false := by
      cases ex
      · rfl
      · have := hx.1 rfl; omega
    subst this
    exact ⟨by omega, rfl⟩
  · omega
  · rw [h2]
    have : ex = true := hx.2 h1
    subst this
    exact ⟨by omega, rfl⟩
theorem cmp_gt {a b : Int} (h : b < a) : 0 < cmpI a b := by
  rcases cmpI_cases a b with ⟨h1, h2⟩ | ⟨h1, h2⟩ | ⟨h1, h2⟩ <;> omega

theorem fits_100 {z : Nat} {e : Int} (hz : dlen z ≤ 100) (h1 : -3000 ≤ e) (h2 : e ≤ 3000) : Fits (-3000) 6200 z e := by
  refine .inr ⟨h1, by omega, ?_⟩
  have hB : ∀ n, B ^ n = 2 ^ (32 * n) := fun n => by
    have : (B : Nat) = 2 ^ 32 := by decide
    rw [this, ← Nat.pow_mul]
  have hn : 32 * 100 ≤ (6200 - e).toNat := by omega
  generalize 100 = n at hz hn
  refine Nat.lt_of_lt_of_le ((dlen_le n z).1 hz) ?_
  rw [hB]
  exact Nat.pow_le_pow_right (by omega) hn

theorem two_add {a b : Int} (ha : 0 ≤ a) (hb : 0 ≤ b) : 2 ^ (a + b).toNat = 2 ^ a.toNat * 2 ^ b.toNat := by
  rw [show (a + b).toNat = a.toNat + b.toNat by omega, Nat.pow_add]

theorem least_T {x y : Nat} {ea eb P : Int} (ox : Ok (false, x, ea)) (oy : Ok (false, y, eb)) (hx : dlen x ≤ 100) (hy : dlen y ≤ 100) (hy0 : y ≠ 0) (ha : -3000 ≤ ea ∧ ea ≤ 3000) (hb : -3000 ≤ eb ∧ eb ≤ 3000) (hP : -500 ≤ P ∧ P ≤ 500) :
    ∃ un tq tm tp tu tr ta ts tt ex wh c1 c2 c3 c4, LeastK (false, x, ea) (false, y, eb) un tq tm tp tu tr ta ts tt P ex wh c1 c2 c3 c4 := by
  have fx : FitsT (-3000) 6200 (false, x, ea) := fits_100 hx ha.1 ha.2
  have fy : FitsT (-3000) 6200 (false, y, eb) := fits_100 hy hb.1 hb.2
  -- the unit
  have fu : Fits (-500) 9700 1 (-P) := .inr ⟨by omega, by omega, Nat.one_lt_two_pow (by omega)⟩
  have ou := Fits.ok (s := false) fu (by omega) (by omega) (by omega)
  have fu' : FitsT (-500) 9700 (cnT (false, 1, -P)) := fu.cn
  have ou' : Ok (cnT (false, 1, -P)) := ok_cn ou
  -- the quotient
  obtain ⟨m, hm⟩ : ∃ m, m = min (ea + P) eb := ⟨_, rfl⟩
  obtain ⟨X, hX⟩ : ∃ X, X = x * 2 ^ (ea + P - m).toNat := ⟨_, rfl⟩
  obtain ⟨Y, hY⟩ : ∃ Y, Y = y * 2 ^ (eb - m).toNat := ⟨_, rfl⟩
  have hY0 : 0 < Y := by rw [hY]; exact Nat.mul_pos (by omega) (Nat.two_pow_pos _)
  have fq : Fits (-500) 9700 (X / Y) (-P) := by
    refine .inr ⟨by omega, by omega, Nat.lt_of_le_of_lt (Nat.div_le_self ..) ?_⟩
    rcases fx with h0 | ⟨-, -, h3⟩
    · have h0' : x = 0 := h0
      rw [hX, h0', Nat.zero_mul]; exact Nat.two_pow_pos _
    · have h3' : x < 2 ^ (6200 - ea).toNat := h3
      rw [hX]
      refine Nat.lt_of_lt_of_le (Nat.mul_lt_mul_of_pos_right h3' (Nat.two_pow_pos _)) ?_
      rw [← Nat.pow_add]
      exact Nat.pow_le_pow_right (by omega) (by omega)
  have oq := Fits.ok (s := false) fq (by omega) (by omega) (by omega)
  have fq' : FitsT (-500) 9700 (cnT (false, X / Y, -P)) := fq.cn
  have oq' : Ok (cnT (false, X / Y, -P)) := ok_cn oq
  -- the root
  obtain ⟨r, hr⟩ := isqrt_ex (rtQ x ea P)
  have fr : Fits (-500) 9700 r (-P) := by
    refine .inr ⟨by omega, by omega, ?_⟩
    have h1 : r ≤ rtQ x ea P := Nat.le_trans (Nat.le_mul_self r) hr.1
    refine Nat.lt_of_le_of_lt h1 ?_
    have h2 : rtQ x ea P < 2 ^ (9200 : Int).toNat := by
      unfold rtQ
      rcases fx with h0 | ⟨-, -, h3⟩
      · have h0' : x = 0 := h0
        subst h0'
        split
        · rw [Nat.zero_mul]; exact Nat.two_pow_pos _
        · rw [Nat.zero_div]; exact Nat.two_pow_pos _
      · have h3' : x < 2 ^ (6200 - ea).toNat := h3
        split
        · refine Nat.lt_of_lt_of_le (Nat.mul_lt_mul_of_pos_right h3' (Nat.two_pow_pos _)) ?_
          rw [← Nat.pow_add]
          exact Nat.pow_le_pow_right (by omega) (by omega)
        · refine Nat.lt_of_le_of_lt (Nat.div_le_self ..) (Nat.lt_of_lt_of_le h3' ?_)
          exact Nat.pow_le_pow_right (by omega) (by omega)
    exact Nat.lt_of_lt_of_le h2 (Nat.pow_le_pow_right (by omega) (by omega))
  have or := Fits.ok (s := false) fr (by omega) (by omega) (by omega)
  have fr' : FitsT (-500) 9700 (cnT (false, r, -P)) := fr.cn
  have or' : Ok (cnT (false, r, -P)) := ok_cn or
  obtain ⟨k1, o1, f1⟩ := add_T oq' ou' fq' fu' (by omega) (by omega) (by omega)
  obtain ⟨k2, o2, f2⟩ := mul_T oq' oy fq' fy (by omega) (by omega) (by omega)
  obtain ⟨k3, o3, f3⟩ := mul_T o1 oy f1 fy (by omega) (by omega) (by omega)
  obtain ⟨k4, o4, f4⟩ := add_T or' ou' fr' fu' (by omega) (by omega) (by omega)
  obtain ⟨k5, o5, f5⟩ := mul_T or' or' fr' fr' (by omega) (by omega) (by omega)
  obtain ⟨k6, o6, f6⟩ := mul_T o4 o4 f4 f4 (by omega) (by omega) (by omega)
  -- values
  have eP : 0 ≤ (-P) + ((100000 : Nat) : Int) := by omega
  have ey : 0 ≤ eb + ((100000 : Nat) : Int) := by omega
  have vq : vzT 100000 (cnT (false, X / Y, -P)) = ((X / Y * 2 ^ (-P + (100000 : Nat)).toNat : Nat) : Int) := (vzT_cn (t := (false, X / Y, -P)) eP).trans vzT_pos
  have vu : vzT 100000 (cnT (false, 1, -P)) = ((1 * 2 ^ (-P + (100000 : Nat)).toNat : Nat) : Int) := (vzT_cn (t := (false, 1, -P)) eP).trans vzT_pos
  have vr : vzT 100000 (cnT (false, r, -P)) = ((r * 2 ^ (-P + (100000 : Nat)).toNat : Nat) : Int) := (vzT_cn (t := (false, r, -P)) eP).trans vzT_pos
  have vy : vzT 100000 (false, y, eb) = ((y * 2 ^ (eb + (100000 : Nat)).toNat : Nat) : Int) := vzT_pos
  have vx : vzT (100000 + 100000) (false, x, ea) = ((x * 2 ^ (ea + ((100000 + 100000 : Nat) : Int)).toNat : Nat) : Int) := vzT_pos
  have gq : 0 ≤ (cnT (false, X / Y, -P)).2.2 + ((100000 : Nat) : Int) := exp_ok oq' fq' (by omega)
  have gu : 0 ≤ (cnT (false, 1, -P)).2.2 + ((100000 : Nat) : Int) := exp_ok ou' fu' (by omega)
  have gr : 0 ≤ (cnT (false, r, -P)).2.2 + ((100000 : Nat) : Int) := exp_ok or' fr' (by omega)
  have g1 : 0 ≤ (cnT (sumT (cnT (false, X / Y, -P)) (cnT (false, 1, -P)))).2.2 + ((100000 : Nat) : Int) := exp_ok o1 f1 (by omega)
  have g4 : 0 ≤ (cnT (sumT (cnT (false, r, -P)) (cnT (false, 1, -P)))).2.2 + ((100000 : Nat) : Int) := exp_ok o4 f4 (by omega)
  have q0 : ∀ {t1 t2 : Tr}, 0 ≤ t1.2.2 + ((100000 : Nat) : Int) → 0 ≤ t2.2.2 + ((100000 : Nat) : Int) → 0 ≤ (mulT t1 t2).2.2 + ((100000 + 100000 : Nat) : Int) := fun {t1 t2} h1 h2 => by
    show 0 ≤ t1.2.2 + t2.2.2 + ((100000 + 100000 : Nat) : Int)
    omega
  have v1 : vzT 100000 (cnT (sumT (cnT (false, X / Y, -P)) (cnT (false, 1, -P)))) = (((X / Y + 1) * 2 ^ (-P + (100000 : Nat)).toNat : Nat) : Int) := by
    rw [vzT_cn (exp_sum gq gu), vzT_sum gq gu, vq, vu, Nat.add_mul, Int.natCast_add]
  have v4 : vzT 100000 (cnT (sumT (cnT (false, r, -P)) (cnT (false, 1, -P)))) = (((r + 1) * 2 ^ (-P + (100000 : Nat)).toNat : Nat) : Int) := by
    rw [vzT_cn (exp_sum gr gu), vzT_sum gr gu, vr, vu, Nat.add_mul, Int.natCast_add]
  have v2 : vzT (100000 + 100000) (cnT (mulT (cnT (false, X / Y, -P)) (false, y, eb))) = ((X / Y * 2 ^ (-P + (100000 : Nat)).toNat * (y * 2 ^ (eb + (100000 : Nat)).toNat) : Nat) : Int) := by
    rw [vzT_cn (q0 gq ey), vzT_mul gq ey, vq, vy, ← Int.natCast_mul]
  have v3 : vzT (100000 + 100000) (cnT (mulT (cnT (sumT (cnT (false, X / Y, -P)) (cnT (false, 1, -P)))) (false, y, eb))) = (((X / Y + 1) * 2 ^ (-P + (100000 : Nat)).toNat * (y * 2 ^ (eb + (100000 : Nat)).toNat) : Nat) : Int) := by
    rw [vzT_cn (q0 g1 ey), vzT_mul g1 ey, v1, vy, ← Int.natCast_mul]
  have v5 : vzT (100000 + 100000) (cnT (mulT (cnT (false, r, -P)) (cnT (false, r, -P)))) = ((r * 2 ^ (-P + (100000 : Nat)).toNat * (r * 2 ^ (-P + (100000 : Nat)).toNat) : Nat) : Int) := by
    rw [vzT_cn (q0 gr gr), vzT_mul gr gr, vr, ← Int.natCast_mul]
  have v6 : vzT (100000 + 100000) (cnT (mulT (cnT (sumT (cnT (false, r, -P)) (cnT (false, 1, -P)))) (cnT (sumT (cnT (false, r, -P)) (cnT (false, 1, -P)))))) = (((r + 1) * 2 ^ (-P + (100000 : Nat)).toNat * ((r + 1) * 2 ^ (-P + (100000 : Nat)).toNat) : Nat) : Int) := by
    rw [vzT_cn (q0 g4 g4), vzT_mul g4 g4, v4, ← Int.natCast_mul]
  -- all in one unit
  obtain ⟨C, hC⟩ : ∃ C, C = 2 ^ (m - P + ((100000 + 100000 : Nat) : Int)).toNat := ⟨_, rfl⟩
  have hCp : 0 < C := by rw [hC]; exact Nat.two_pow_pos _
  have wx : x * 2 ^ (ea + ((100000 + 100000 : Nat) : Int)).toNat = X * C := by
    rw [hX, hC, Nat.mul_assoc, ← Nat.pow_add]
    congr 2
    omega
  have wy : ∀ n, n * 2 ^ (-P + (100000 : Nat)).toNat * (y * 2 ^ (eb + (100000 : Nat)).toNat) = n * Y * C := fun n => by
    have : 2 ^ (-P + (100000 : Nat)).toNat * 2 ^ (eb + (100000 : Nat)).toNat = 2 ^ (eb - m).toNat * C := by
      rw [hC, ← Nat.pow_add, ← Nat.pow_add]
      congr 1
      omega
    rw [hY]
    calc n * 2 ^ (-P + (100000 : Nat)).toNat * (y * 2 ^ (eb + (100000 : Nat)).toNat) = n * y * (2 ^ (-P + (100000 : Nat)).toNat * 2 ^ (eb + (100000 : Nat)).toNat) := by grind
      _ = n * y * (2 ^ (eb - m).toNat * C) := by rw [this]
      _ = n * (y * 2 ^ (eb - m).toNat) * C := by grind
  have hdm := Nat.div_add_mod X Y
  have hml := Nat.mod_lt X hY0
  have hq1 : X / Y * Y ≤ X := by rw [Nat.mul_comm]; omega
  have hq2 : X < (X / Y + 1) * Y := by rw [Nat.add_mul, Nat.one_mul, Nat.mul_comm]; omega
  have hq3 : X % Y = 0 ↔ X / Y * Y = X := by rw [Nat.mul_comm (X / Y) Y]; omega
  obtain ⟨D, hD⟩ : ∃ D, D = 2 ^ (-P + (100000 : Nat)).toNat := ⟨_, rfl⟩
  have hDp : 0 < D := by rw [hD]; exact Nat.two_pow_pos _
  -- the root's side
  have hroot : (r * D * (r * D) ≤ x * 2 ^ (ea + ((100000 + 100000 : Nat) : Int)).toNat) ∧ (x * 2 ^ (ea + ((100000 + 100000 : Nat) : Int)).toNat < (r + 1) * D * ((r + 1) * D)) ∧ ((decide (0 ≤ ea + 2 * P ∨ x = 0) && decide (r * r = rtQ x ea P)) = true ↔ r * D * (r * D) = x * 2 ^ (ea + ((100000 + 100000 : Nat) : Int)).toNat) := by
    have sq : ∀ n, n * D * (n * D) = n * n * (D * D) := fun n => by grind
    rw [sq, sq]
    have hDD : D * D = 2 ^ (-P + (100000 : Nat) + (-P + (100000 : Nat))).toNat := by rw [hD, ← Nat.pow_add]; congr 1; omega
    unfold rtQ at hr ⊢
    by_cases hk : 0 ≤ ea + 2 * P
    · rw [if_pos hk] at hr ⊢
      have e1 : x * 2 ^ (ea + ((100000 + 100000 : Nat) : Int)).toNat = x * 2 ^ (ea + 2 * P).toNat * (D * D) := by
        rw [hDD, Nat.mul_assoc, ← Nat.pow_add]; congr 2; omega
      rw [e1]
      generalize x * 2 ^ (ea + 2 * P).toNat = Q at *
      have hDDp : 0 < D * D := Nat.mul_pos hDp hDp
      refine ⟨Nat.mul_le_mul_right _ hr.1, Nat.mul_lt_mul_of_pos_right hr.2 hDDp, ?_⟩
      rw [decide_eq_true (.inl hk), Bool.true_and, decide_eq_true_eq]
      exact ⟨fun h => by rw [h], fun h => Nat.eq_of_mul_eq_mul_right hDDp h⟩
    · rw [if_neg hk] at hr ⊢
      obtain ⟨j, hj⟩ : ∃ j, j = (-(ea + 2 * P)).toNat := ⟨_, rfl⟩
      rw [← hj] at hr ⊢
      obtain ⟨E, hE⟩ : ∃ E, E = 2 ^ (ea + ((100000 + 100000 : Nat) : Int)).toNat := ⟨_, rfl⟩
      have hEp : 0 < E := by rw [hE]; exact Nat.two_pow_pos _
      have e1 : D * D = 2 ^ j * E := by rw [hDD, hE, ← Nat.pow_add]; congr 1; omega
      rw [e1, ← hE]
      have hjp := Nat.two_pow_pos j
      have h1 : r * r * 2 ^ j ≤ x := (Nat.le_div_iff_mul_le hjp).1 hr.1
      have h2 : x < (r + 1) * (r + 1) * 2 ^ j := (Nat.div_lt_iff_lt_mul hjp).1 hr.2
      refine ⟨by rw [← Nat.mul_assoc]; exact Nat.mul_le_mul_right _ h1, by rw [← Nat.mul_assoc]; exact Nat.mul_lt_mul_of_pos_right h2 hEp, ?_⟩
      rw [← Nat.mul_assoc]
      constructor
      · intro h
        simp only [Bool.and_eq_true, decide_eq_true_eq] at h
        have hx0 : x = 0 := h.1.resolve_left hk
        have h3 := h.2
        rw [hx0, Nat.zero_div] at h3
        rw [h3, hx0]; simp
      · intro h
        have h3 : r * r * 2 ^ j = x := Nat.eq_of_mul_eq_mul_right hEp h
        have hx0 : x = 0 := by
          refine Classical.byContradiction fun hx0 => ?_
          have hodd : x % 2 = 1 := ox.facts.2.2.2.2 hx0
          obtain ⟨i, hi⟩ : ∃ i, j = i + 1 := ⟨j - 1, by omega⟩
          rw [hi, Nat.pow_succ, ← Nat.mul_assoc] at h3
          omega
        have hr0 : r * r = 0 := by
          rw [hx0] at h3
          rcases Nat.mul_eq_zero.1 h3 with h4 | h4
          · exact h4
          · omega
        simp [hx0, hr0]
  obtain ⟨hr1, hr2, hr3⟩ := hroot
  rw [hD] at hr1 hr2 hr3
  have gx : 0 ≤ ((false, x, ea) : Tr).2.2 + ((100000 + 100000 : Nat) : Int) := by show 0 ≤ ea + ((100000 + 100000 : Nat) : Int); omega
  have G2 := exp_ok (K := 100000 + 100000) o2 f2 (by omega)
  have G3 := exp_ok (K := 100000 + 100000) o3 f3 (by omega)
  have G5 := exp_ok (K := 100000 + 100000) o5 f5 (by omega)
  have G6 := exp_ok (K := 100000 + 100000) o6 f6 (by omega)
  refine ⟨_, _, _, _, _, _, _, _, _, decide (X % Y = 0), (decide (0 ≤ ea + 2 * P ∨ x = 0) && decide (r * r = rtQ x ea P)), _, _, _, _, ⟨?_, ?_, k1, k2, k3, ?_, k4, k5, k6, cmp_T o2 ox G2 gx, cmp_T o3 ox G3 gx, cmp_T o5 ox G5 gx, cmp_T o6 ox G6 gx, ?_, ?_, ?_, ?_⟩⟩
  · intro W g hT hg
    refine (c15_1 false g 0 1 1 1 (-P) W (fun i hi => ?_) (by decide +kernel) (by omega) (by omega) (by omega) (by omega) (by omega) hT).mono ?_
    · obtain rfl : i = 0 := by omega
      rw [show dg 1 0 = 1 by decide +kernel]
      simp [World.cell?, hg]
    · rintro r w' ⟨h, hb⟩
      rcases h with ⟨-, A, rfl, hN⟩ | ⟨h, -⟩
      · have hp := hN.pn
        obtain ⟨s', ao, n, cap, e', rfl⟩ := hp.shape
        exact ⟨s', ao, n, cap, e', rfl, hp, hb⟩
      · rw [ou] at h; cases h
  · intro W A1 A2 hT h1 h2
    obtain ⟨ua, uc, rfl, i1⟩ := h1
    obtain ⟨va, vc, rfl, i2⟩ := h2
    have h := c44 (na := false) (nb := false) (place := P) i1 i2 hT hy0 (by show dlen x ≤ 2048; omega) (by show dlen y ≤ 2048; omega) ox oy (by show -65536 ≤ ea ∧ ea ≤ 65536; omega) (by show -65536 ≤ eb ∧ eb ≤ 65536; omega) (by omega) X Y (by rw [← hm]; exact hX.symm) (by rw [← hm]; exact hY.symm)
    have e1 : ((false : Bool) != false) = false := rfl
    rw [e1, Bool.false_and] at h
    simp only [Bool.false_eq_true, if_false] at h
    refine h.mono ?_
    intro r' w' h
    exact held3_pn h oq
  · intro W A1 hT h1
    obtain ⟨ua, uc, rfl, i1⟩ := h1
    refine (root_ok i1 hT (by show dlen x ≤ 2048; omega) ox (by show -65536 ≤ ea ∧ ea ≤ 65536; omega) (by omega)).mono ?_
    rintro r' w' ⟨m', hm', h⟩
    obtain rfl := isqrt_eq hr hm'
    exact held3_pn h or
  · rw [v2, vx, wx, wy]
    refine cmp_le (by have := Nat.mul_le_mul_right C hq1; omega) _ ?_
    rw [decide_eq_true_eq, hq3]
    constructor
    · intro h; rw [h]
    · intro h
      exact Nat.eq_of_mul_eq_mul_right hCp (by omega)
  · rw [v3, vx, wx, wy]
    exact cmp_gt (by have := Nat.mul_lt_mul_of_pos_right hq2 hCp; omega)
  · rw [v5, vx]
    refine cmp_le (by omega) _ ?_
    rw [hr3]
    omega
  · rw [v6, vx]
    exact cmp_gt (by omega)

theorem okN_abs {s : Bool} {n z : Nat} {e : Int} (h : okN s n z e = true) : okN false n z e = true := by
  unfold okN at h ⊢
  by_cases h0 : n = 0
  · rw [if_pos h0] at h ⊢
    simp at h ⊢
    exact h.1
  · rw [if_neg h0] at h ⊢; exact h

theorem dyadLeast_ok (ng : Nat → Bool) (ao : Nat → Option Addr) (ln cp z : Nat → Nat) (e : Nat → Int) (P0 : Int) (w : World) (hA : ∀ i, i < 2 → Arg w (ao i) (ln i) (cp i) (z i)) (he : ∀ i, -9223372036854775808 ≤ e i ∧ e i ≤ 9223372036854775807) (hzl : ∀ i, i < 2 → dlen (z i) ≤ ln i) (hP0 : -9223372036854775808 ≤ P0 ∧ P0 ≤ 9223372036854775807)
    (hT : Tab32 w) (hI : Ie.Tab w) (h10 : Tab10 w) :
    Calls Tryz.prog 7 #[.agg #[.bool (ng 0), .slice (ao 0) (ln 0) (cp 0), .int .i64 (e 0)], .agg #[.bool (ng 1), .slice (ao 1) (ln 1) (cp 1), .int .i64 (e 1)], .int .i64 P0] w fun r w' => r = .returned (.bool true) ∧ Below w.heap.size w w' := by
  refine law7_1 ng ao ln cp z e P0 _ w hA he hzl hT rfl (by omega) (by omega) (fun hF => ?_) (fun W hW => works_ok W (hT.later hW) (Tab.later hI hW) (h10.later hW))
  obtain ⟨h1, h2, h3, h4, h5, h6, h7⟩ := hF
  have hl : ∀ k, k < 2 → okN (ng k) (ln k) (z k) (e k) = true → dlen (z k) = ln k := fun k hk hF => by
    refine dlen_here (hzl k hk) ?_
    by_cases h0 : ln k = 0
    · exact .inl h0
    · right
      unfold okN at hF
      rw [if_neg h0] at hF
      simp only [Bool.and_eq_true, bne_iff_ne, ne_eq] at hF
      exact hF.1.1.1.2
  have l0 := hl 0 (by omega) h1
  have l1 := hl 1 (by omega) h2
  rw [← l0] at h1 h3
  rw [← l1] at h2 h4 h5
  exact least_T (okN_abs h1) (okN_abs h2) h3 h4 (fun e0 => h5 (dlen_eq_zero.2 e0)) (by omega) (by omega) (by omega)
end Go.Proofs.YtejefbnfmglfeaaGreatDoor
