/- Own work: contracts of the program's functions, part 13: SND SNE SNF SNG SNI SNJ SNL SNP SNQ SNR SNN SNS SNK. -/
import Derived.Test.YtcoclopllbfjcaaGreatDoorA12
import Derived.Test.YtcoclopllbfjcaaGreatDoorA10
import Derived.Test.YtcoclopllbfjcaaGreatDoorA9
import Derived.Laws.StructEq
import Derived.Test.YtcoclopllbfjcaaGreatDoorA8
import Derived.Test.YtcoclopllbfjcaaGreatDoorA4
import Derived.Test.YtcoclopllbfjcaaGreatDoorA6
import Derived.Test.YtcoclopllbfjcaaGreatDoorA11

/- Mul and Quo of the program. -/
namespace Go.Proofs.YtcoclopllbfjcaaGreatDoor
set_option linter.unusedVariables false
set_option linter.unusedSimpArgs false
open Go.RowKit Go.Fl64

def pk4 (a b c d : Nat) : Nat → Nat
  | 0 => a
  | 1 => b
  | 2 => c
  | _ => d
theorem pk4_lt {a b c d : Nat} (ha : a < 18446744073709551616) (hb : b < 18446744073709551616) (hc : c < 18446744073709551616) (hd : d < 18446744073709551616) (i : Nat) : pk4 a b c d i < 18446744073709551616 := by
  unfold pk4
  split <;> assumption
/-- the ends of a product, of a quotient -/
def mlo (a b c d : Nat) : Nat := pl (lowF (fun i => onF (fMul (pk4 a a b b i) (pk4 c d c d i) 1)) 4)
def mhi (a b c d : Nat) : Nat := pl (hiF (fun i => onF (fMul (pk4 a a b b i) (pk4 c d c d i) 3)) 4)
def qlo (a b c d : Nat) : Nat := pl (lowF (fun i => onF (fDiv (pk4 a a b b i) (pk4 c d c d i) 1)) 4)
def qhi (a b c d : Nat) : Nat := pl (hiF (fun i => onF (fDiv (pk4 a a b b i) (pk4 c d c d i) 3)) 4)
theorem smul (a b c d : Nat) (ha : a < 18446744073709551616) (hb : b < 18446744073709551616) (hc : c < 18446744073709551616) (hd : d < 18446744073709551616) (w : World) (hT : Tab32 w) (hJ : Ie.Tab w) :
    Calls Tryz.prog 8 #[.agg #[.float .f64 a, .float .f64 b], .agg #[.float .f64 c, .float .f64 d]] w fun r w' => r = .returned (orV (vI a b && vI c d) (mlo a b c d) (mhi a b c d) (.int .i64 0) (.int .i64 1)) ∧ Below w.heap.size w w' :=
  smul_1 a b c d _ _ _ w (fun W g T h => smaybe h ha hb hc hd) (fun _ W hW =>
    sspread_Mul (pk4 a a b b) (pk4 c d c d) (fun i => fMul (pk4 a a b b i) (pk4 c d c d i) 1) (fun i => fMul (pk4 a a b b i) (pk4 c d c d i) 3) W (fun i => fMul_lt) (fun i => fMul_lt)
      (fun i _ V hV => pmul_all _ _ 1 (pk4_lt ha ha hb hb i) (pk4_lt hc hd hc hd i) V (hT.later (hW.trans (hV.mono hW.size))) (Tab.later hJ (hW.trans (hV.mono hW.size))))
      (fun i _ V hV => pmul_all _ _ 3 (pk4_lt ha ha hb hb i) (pk4_lt hc hd hc hd i) V (hT.later (hW.trans (hV.mono hW.size))) (Tab.later hJ (hW.trans (hV.mono hW.size)))))
theorem squo (a b c d : Nat) (ha : a < 18446744073709551616) (hb : b < 18446744073709551616) (hc : c < 18446744073709551616) (hd : d < 18446744073709551616) (w : World) (hT : Tab32 w) (hJ : Ie.Tab w) :
    Calls Tryz.prog 10 #[.agg #[.float .f64 a, .float .f64 b], .agg #[.float .f64 c, .float .f64 d]] w fun r w' => r = .returned (quoV (vI a b && vI c d) (hI c d 0) (qlo a b c d) (qhi a b c d)) ∧ Below w.heap.size w w' :=
  squo_1 a b c d _ _ _ _ w (fun W g T h => smaybe h ha hb hc hd) (fun _ _ W hW =>
    sspread_Div (pk4 a a b b) (pk4 c d c d) (fun i => fDiv (pk4 a a b b i) (pk4 c d c d i) 1) (fun i => fDiv (pk4 a a b b i) (pk4 c d c d i) 3) W (fun i => fDiv_lt) (fun i => fDiv_lt)
      (fun i _ V hV => pdiv_all _ _ 1 (pk4_lt ha ha hb hb i) (pk4_lt hc hd hc hd i) V (hT.later (hW.trans (hV.mono hW.size))) (Tab.later hJ (hW.trans (hV.mono hW.size))))
      (fun i _ V hV => pdiv_all _ _ 3 (pk4_lt ha ha hb hb i) (pk4_lt hc hd hc hd i) V (hT.later (hW.trans (hV.mono hW.size))) (Tab.later hJ (hW.trans (hV.mono hW.size)))))
    (fun _ W => shas c d 0 hc hd (by omega) W)
/-- Mul([-1, 2], [3, +Inf]), Quo([1, 1], [3, 3]) -/
theorem mul_at : mlo 13830554455654793216 4611686018427387904 4613937818241073152 9218868437227405312 = 18442240474082181120 ∧ mhi 13830554455654793216 4611686018427387904 4613937818241073152 9218868437227405312 = 9218868437227405312 ∧ (vI 13830554455654793216 4611686018427387904 && vI 4613937818241073152 9218868437227405312) = true := by decide +kernel
theorem quo_at : qlo 4607182418800017408 4607182418800017408 4613937818241073152 4613937818241073152 = 4599676419421066581 ∧ qhi 4607182418800017408 4607182418800017408 4613937818241073152 4613937818241073152 = 4599676419421066582 ∧ (vI 4607182418800017408 4607182418800017408 && vI 4613937818241073152 4613937818241073152) = true ∧ hI 4613937818241073152 4613937818241073152 0 = false := by decide +kernel
theorem quo_at2 : (vI 4607182418800017408 4607182418800017408 && vI 13830554455654793216 4607182418800017408) = true ∧ hI 13830554455654793216 4607182418800017408 0 = true := by decide +kernel
theorem has_at : hI 4607182418800017408 4611686018427387904 4609434218613702656 = true ∧ hI 4607182418800017408 4611686018427387904 4613937818241073152 = false := by decide +kernel
end Go.Proofs.YtcoclopllbfjcaaGreatDoor
/- A number shifted; half of a sum; sums of floats by every mode. -/
namespace Go.Proofs.YtcoclopllbfjcaaGreatDoor
set_option linter.unusedVariables false
set_option linter.unusedSimpArgs false
open Go.RowKit Go.Fl64
attribute [local go_sem] run_store_flt

/-- a number that comes with no error -/
def OutN8 (W : World) (t : Bool × Nat × Int) (r : Ending) (w' : World) : Prop := ∃ s ao n cap e, r = .returned (.tuple #[.agg #[.bool s, .slice ao n cap, .int .i64 e], .int .i64 0]) ∧ PN w' (.agg #[.bool s, .slice ao n cap, .int .i64 e]) t ∧ Below W.heap.size W w'
/-- shifted -/
def tSh (t : Bool × Nat × Int) (k : Int) : Bool × Nat × Int := if t.2.1 = 0 then (false, 0, 0) else (t.1, t.2.1, t.2.2 + k)
theorem pshift {t : Bool × Nat × Int} {A : Value} {k0 : Int} {w : World} (ok : Ok t) (h : PN w A t) (hk1 : ¬ k0 < -65536 - t.2.2) (hk2 : ¬ 65536 - t.2.2 < k0) :
    Calls Tryz.prog 100 #[A, .int .i64 k0] w fun r w' => OutN8 w (tSh t k0) r w' := by
  obtain ⟨pa, pc, rfl, i1⟩ := h
  obtain ⟨f1, f2, f3, f4, f5⟩ := ok.facts
  have km : ∀ W g, Below w.heap.size w W → W.heap[g]? = some (.cells #[.bool t.1, .slice pa (dlen t.2.1) pc, .int .i64 t.2.2] 96 (0, 0)) → Calls Tryz.prog 120 #[.slice (some ⟨g, 0, none⟩) 1 1] W fun r w' => r = .returned (.bool true) ∧ Below W.heap.size W w' := fun W g hW hg => by
    have := maybe1 hg (i1.later hW) (by omega)
    rw [show okN t.1 (dlen t.2.1) t.2.1 t.2.2 = true from ok] at this
    exact this
  unfold tSh
  by_cases h0 : t.2.1 = 0
  · rw [if_pos h0]
    have hd : dlen t.2.1 = 0 := by rw [h0, dlen_zero]
    rw [hd] at km ⊢
    refine (shift_1 t.1 pa pc t.2.2 k0 w km).mono ?_
    rintro r w' ⟨rfl, hb⟩
    exact ⟨_, _, _, _, _, rfl, ⟨none, 0, by rw [dlen_zero], by rw [dlen_zero]; exact is_nil _⟩, hb⟩
  · rw [if_neg h0]
    refine (shift_3 t.1 pa (dlen t.2.1) pc t.2.2 k0 w t.2.1 i1 (by omega) (by omega) (by have := dlen_pos h0; simp; omega) (by omega) (by omega) hk1 hk2 km).mono ?_
    rintro r w' ⟨v, rfl, ho, hb⟩
    obtain ⟨ao, cap, rfl, h1, h2, h3⟩ := ho.is
    exact ⟨_, _, _, _, _, rfl, ⟨ao, cap, rfl, ao, cap, rfl, h1, h2, h3⟩, hb⟩
set_option maxHeartbeats 4000000 in
set_option maxRecDepth 200000 in
theorem shalf_1 (a b F : Nat) (t1 t2 t3 t4 : Bool × Nat × Int) (w : World)
    (k1 : ∀ W, Below w.heap.size w W → Calls Tryz.prog 116 #[.float .f64 a] W fun r w' => OutN8 W t1 r w')
    (k2 : ∀ W, Below w.heap.size w W → Calls Tryz.prog 116 #[.float .f64 b] W fun r w' => OutN8 W t2 r w')
    (k3 : ∀ W X Y, Below w.heap.size w W → PN W X t1 → PN W Y t2 → Calls Tryz.prog 117 #[X, Y] W fun r w' => OutN8 W t3 r w')
    (k4 : ∀ W X, Below w.heap.size w W → PN W X t3 → Calls Tryz.prog 100 #[X, .int .i64 (-1)] W fun r w' => OutN8 W t4 r w')
    (k5 : ∀ W X, Below w.heap.size w W → PN W X t4 → Calls Tryz.prog 102 #[X, .int .i64 2] W fun r w' => r = .returned (.tuple #[.float .f64 F, .int .i64 0]) ∧ Below W.heap.size W w') :
    Calls Tryz.prog 75 #[.float .f64 a, .float .f64 b] w fun r w' => r = .returned (.float .f64 F) ∧ Below w.heap.size w w' := by
  have H2 : Hid (∀ W, Below w.heap.size w W → Calls Tryz.prog 116 #[.float .f64 b] W fun r w' => OutN8 W t2 r w') := k2
  have H3 : Hid (∀ W X Y, Below w.heap.size w W → PN W X t1 → PN W Y t2 → Calls Tryz.prog 117 #[X, Y] W fun r w' => OutN8 W t3 r w') := k3
  have H4 : Hid (∀ W X, Below w.heap.size w W → PN W X t3 → Calls Tryz.prog 100 #[X, .int .i64 (-1)] W fun r w' => OutN8 W t4 r w') := k4
  have H5 : Hid (∀ W X, Below w.heap.size w W → PN W X t4 → Calls Tryz.prog 102 #[X, .int .i64 2] W fun r w' => r = .returned (.tuple #[.float .f64 F, .int .i64 0]) ∧ Below W.heap.size W w') := k5
  have kk := k1 w (Below.refl _ _)
  clear k1 k2 k3 k4 k5
  go_enter Tryz.func75, Tryz.ntmps75
  go_wp2_with fail
  refine kk.mono ?_
  rintro r w1 ⟨s1, ao1, n1, cap1, e1, rfl, hP1, hb1⟩
  clear kk
  obtain ⟨W1, hW1⟩ : ∃ W1, W1 = w1.alloc (.cells #[.bool s1, .slice ao1 n1 cap1, .int .i64 e1] 96) := ⟨_, rfl⟩
  have hbW1 : Below w.heap.size w W1 := by rw [hW1]; exact hb1.alloc hb1.size _
  have HP1 : Hid (PN W1 (.agg #[.bool s1, .slice ao1 n1 cap1, .int .i64 e1]) t1) := by rw [hW1]; exact hP1.later ((Below.refl _ _).alloc (Nat.le_refl _) _)
  have HH1 : Hid (W1.heap[w1.heap.size]? = some (.cells #[.bool s1, .slice ao1 n1 cap1, .int .i64 e1] 96 (0, 0))) := by rw [hW1]; exact heap_alloc_new _ _
  have HB1 : Hid (Below w.heap.size w W1) := hbW1
  have kk := H2.out W1 hbW1
  clear hP1 hb1 hbW1 H2
  go_wp2_with fail
  rw [← hW1]
  clear hW1
  generalize w1.heap.size = g1 at *
  refine kk.mono ?_
  rintro r w2 ⟨s2, ao2, n2, cap2, e2, rfl, hP2, hb2⟩
  clear kk
  obtain ⟨W2, hW2⟩ : ∃ W2, W2 = w2.alloc (.cells #[.bool s2, .slice ao2 n2 cap2, .int .i64 e2] 96) := ⟨_, rfl⟩
  have hbW2 : Below W1.heap.size W1 W2 := by rw [hW2]; exact hb2.alloc hb2.size _
  have HP2 : Hid (PN W2 (.agg #[.bool s2, .slice ao2 n2 cap2, .int .i64 e2]) t2) := by rw [hW2]; exact hP2.later ((Below.refl _ _).alloc (Nat.le_refl _) _)
  have HH2 : Hid (W2.heap[w2.heap.size]? = some (.cells #[.bool s2, .slice ao2 n2 cap2, .int .i64 e2] 96 (0, 0))) := by rw [hW2]; exact heap_alloc_new _ _
  have HB2 : Hid (Below w.heap.size w W2) := HB1.out.trans (hbW2.mono HB1.out.size)
  obtain ⟨⟨a0, a1, a2⟩, -⟩ := box_cells (box_later HH1.out hbW2 (lt_of_box HH1.out))
  obtain ⟨⟨b0, b1, b2⟩, -⟩ := box_cells HH2.out
  rw [hW2] at a0 a1 a2 b0 b1 b2
  have kk := H3.out W2 _ _ HB2.out (HP1.out.later hbW2) HP2.out
  clear hP2 hb2 hbW2 H3 HB1 HP1 HH1
  go_wp2_with fail
  rw [← hW2]
  clear hW2 a0 a1 a2 b0 b1 b2
  generalize w2.heap.size = g2 at *
  refine kk.mono ?_
  rintro r w3 ⟨s3, ao3, n3, cap3, e3, rfl, hP3, hb3⟩
  clear kk
  obtain ⟨W3, hW3⟩ : ∃ W3, W3 = w3.alloc (.cells #[.bool s3, .slice ao3 n3 cap3, .int .i64 e3] 96) := ⟨_, rfl⟩
  have hbW3 : Below W2.heap.size W2 W3 := by rw [hW3]; exact hb3.alloc hb3.size _
  have HP3 : Hid (PN W3 (.agg #[.bool s3, .slice ao3 n3 cap3, .int .i64 e3]) t3) := by rw [hW3]; exact hP3.later ((Below.refl _ _).alloc (Nat.le_refl _) _)
  have HH3 : Hid (W3.heap[w3.heap.size]? = some (.cells #[.bool s3, .slice ao3 n3 cap3, .int .i64 e3] 96 (0, 0))) := by rw [hW3]; exact heap_alloc_new _ _
  have HB3 : Hid (Below w.heap.size w W3) := HB2.out.trans (hbW3.mono HB2.out.size)
  obtain ⟨⟨b0, b1, b2⟩, -⟩ := box_cells HH3.out
  rw [hW3] at b0 b1 b2
  have kk := H4.out W3 _ HB3.out HP3.out
  clear hP3 hb3 hbW3 H4 HB2 HP2 HH2
  go_wp2_with fail
  rw [← hW3]
  clear hW3 b0 b1 b2
  generalize w3.heap.size = g3 at *
  refine kk.mono ?_
  rintro r w4 ⟨s4, ao4, n4, cap4, e4, rfl, hP4, hb4⟩
  clear kk
  obtain ⟨W4, hW4⟩ : ∃ W4, W4 = w4.alloc (.cells #[.bool s4, .slice ao4 n4 cap4, .int .i64 e4] 96) := ⟨_, rfl⟩
  have hbW4 : Below W3.heap.size W3 W4 := by rw [hW4]; exact hb4.alloc hb4.size _
  have HP4 : Hid (PN W4 (.agg #[.bool s4, .slice ao4 n4 cap4, .int .i64 e4]) t4) := by rw [hW4]; exact hP4.later ((Below.refl _ _).alloc (Nat.le_refl _) _)
  have HH4 : Hid (W4.heap[w4.heap.size]? = some (.cells #[.bool s4, .slice ao4 n4 cap4, .int .i64 e4] 96 (0, 0))) := by rw [hW4]; exact heap_alloc_new _ _
  have HB4 : Hid (Below w.heap.size w W4) := HB3.out.trans (hbW4.mono HB3.out.size)
  obtain ⟨⟨b0, b1, b2⟩, -⟩ := box_cells HH4.out
  rw [hW4] at b0 b1 b2
  have kk := H5.out W4 _ HB4.out HP4.out
  clear hP4 hb4 hbW4 H5 HB3 HP3 HH3
  go_wp2_with fail
  rw [← hW4]
  clear hW4 b0 b1 b2
  generalize w4.heap.size = g4 at *
  refine kk.mono ?_
  rintro r w5 ⟨rfl, hb5⟩
  have HB5 : Hid (Below w.heap.size w w5) := HB4.out.trans (hb5.mono HB4.out.size)
  clear kk hb5 HB4 HP4 HH4
  go_wp2_with fail
  go_ret
  exact ⟨rfl, HB5.out⟩
/-- half of the sum of two floats, to the nearest -/
def hfS (a b : Nat) : Nat := tfF (tSh (tS (tF a) (tF b)) (-1)).1 true (tSh (tS (tF a) (tF b)) (-1)).2.1 (tSh (tS (tF a) (tF b)) (-1)).2.2 2
theorem tSh_ok {t : Bool × Nat × Int} {k : Int} (ok : Ok t) (h : t.2.1 ≠ 0 → -65536 ≤ t.2.2 + k ∧ t.2.2 + k ≤ 65536) : Ok (tSh t k) := by
  unfold tSh
  by_cases h0 : t.2.1 = 0
  · rw [if_pos h0]; unfold Ok; rw [dlen_zero]; rfl
  · rw [if_neg h0]
    obtain ⟨h1, h2⟩ := h h0
    unfold Ok okN at ok ⊢
    have hd : dlen t.2.1 ≠ 0 := by rw [dlen_pos h0]; omega
    rw [if_neg hd] at ok
    rw [if_neg hd]
    simp only [Bool.and_eq_true, decide_eq_true_eq] at ok ⊢
    exact ⟨⟨ok.1.1, h1⟩, h2⟩
theorem ofN (a : Nat) (ha : a < 18446744073709551616) (hf : mag a < 9218868437227405312) (w : World) (hT : Tab32 w) (hJ : Ie.Tab w) : Calls Tryz.prog 116 #[.float .f64 a] w fun r w' => OutN8 w (tF a) r w' := by
  obtain ⟨m, hm, hml⟩ := sM_lt a ha
  refine (of_fin a m ha w hT hJ hf hm).mono ?_
  rintro r w' ⟨A, rfl, hN, hb⟩
  have hp := hN.pn
  rw [cn_parts a m ha hf hm] at hp
  obtain ⟨s, ao, n, cap, e, rfl⟩ := hp.shape
  exact ⟨s, ao, n, cap, e, rfl, hp, hb⟩
theorem hfS_facts (a b : Nat) : Ok (tS (tF a) (tF b)) ∧ Ok (tSh (tS (tF a) (tF b)) (-1)) ∧ ¬ (-1 : Int) < -65536 - (tS (tF a) (tF b)).2.2 ∧ ¬ 65536 - (tS (tF a) (tF b)).2.2 < -1 := by
  have hfs := tS_fits (tF_fits a) (tF_fits b)
  have hok : Ok (tS (tF a) (tF b)) := ok_cn (tS_okR (tF_fits a) (tF_fits b) (by omega) (by omega) (by omega))
  obtain ⟨f1, f2, f3, f4, f5⟩ := hok.facts
  by_cases h0 : (tS (tF a) (tF b)).2.1 = 0
  · have e := f4 h0
    refine ⟨hok, tSh_ok hok (fun h => absurd h0 h), ?_, ?_⟩ <;> rw [e] <;> decide
  · rcases hfs with h | ⟨h1, h2, -⟩
    · exact absurd h h0
    · exact ⟨hok, tSh_ok hok (fun _ => ⟨by omega, by omega⟩), by omega, by omega⟩
theorem shalf (a b : Nat) (ha : a < 18446744073709551616) (hb : b < 18446744073709551616) (hfa : mag a < 9218868437227405312) (hfb : mag b < 9218868437227405312) (w : World) (hT : Tab32 w) (hJ : Ie.Tab w) :
    Calls Tryz.prog 75 #[.float .f64 a, .float .f64 b] w fun r w' => r = .returned (.float .f64 (hfS a b)) ∧ Below w.heap.size w w' := by
  obtain ⟨o1, o2, o3, o4⟩ := hfS_facts a b
  have hokR := tS_okR (tF_fits a) (tF_fits b) (by omega) (by omega) (by omega)
  exact shalf_1 a b _ (tF a) (tF b) (tS (tF a) (tF b)) (tSh (tS (tF a) (tF b)) (-1)) w (fun W h => ofN a ha hfa W (hT.later h) (Tab.later hJ h)) (fun W h => ofN b hb hfb W (hT.later h) (Tab.later hJ h))
    (fun W X Y h h1 h2 => add_op (tF_ok a) (tF_ok b) hokR W X Y (hT.later h) h1 h2) (fun W X h h1 => pshift o1 h1 o3 o4) (fun W X h h1 => pround (hT.later h) o2 h1 (by omega))
theorem hfS_lt (a b : Nat) : hfS a b < 18446744073709551616 := tfF_lt (by omega)
/-- the sum of two floats, rounded by a mode -/
def fAdM (a b : Nat) (m : Int) : Nat := if fin a = false ∨ fin b = false then addX a b else if (tS (tF a) (tF b)).2.1 = 0 then sig (z0 (neg a) (neg b) m) 0 else tfF (tS (tF a) (tF b)).1 true (tS (tF a) (tF b)).2.1 (tS (tF a) (tF b)).2.2 m
theorem faddM_p (a b : Nat) (m : Int) (hm' : 1 ≤ m ∧ m ≤ 3) (ha : a < 18446744073709551616) (hb : b < 18446744073709551616) :
    fAdM a b m < 18446744073709551616 ∧ ((isNaN a = true ∨ isNaN b = true) → fAdM a b m = 9221120237041090560) ∧
      (∀ W, Tab32 W → Ie.Tab W → Calls Tryz.prog 110 #[.float .f64 a, .float .f64 b, .int .i64 m] W fun r w' => OutF2 W (fAdM a b m) r w') := by
  have hm : isM m = true := by unfold isM; rcases (show m = 1 ∨ m = 2 ∨ m = 3 by omega) with rfl | rfl | rfl <;> rfl
  by_cases hf : fin a = false ∨ fin b = false
  · have e : fAdM a b m = addX a b := if_pos hf
    rw [e]
    refine ⟨addX_lt ha hb, fun h => ?_, fun W _ _ => ?_⟩
    · unfold addX
      rcases h with h | h
      · rw [h, Bool.true_or, if_pos rfl]
      · rw [h, Bool.or_true, if_pos rfl]
    · have hrun : (∀ W, (binOp .add 22 (.float .f64 a) (.float .f64 b)).run Tryz.prog W = .ok (.float .f64 (addX a b)) W) ∨ ∀ W, ∃ n, lk n (addX a b) ∧ (binOp .add 22 (.float .f64 a) (.float .f64 b)).run Tryz.prog W = .ok (.float .f64 n) W.drew := by
        rcases add_non ha hb hf with ⟨h1, h2⟩ | h1
        · refine .inr fun W => ?_
          obtain ⟨n, n1, n2, hs⟩ := run_nan (P := Tryz.prog) W .add 22 a b (by simp) h1
          exact ⟨n, lk.nan n1 n2 h2, hs⟩
        · exact .inl fun W => run_float_arith W .add 22 .f64 a b _ h1
      by_cases hfa : mag a < 9218868437227405312
      · have hfb : ¬ mag b < 9218868437227405312 := by
          rcases hf with h | h
          · exact absurd hfa (fin_false.1 h)
          · exact fin_false.1 h
        exact padd_b a b (addX a b) m W hm (pfin_y a ha hfa) (pfin_n b hb hfb) hrun (addX_lt ha hb)
      · exact padd_a a b (addX a b) m W hm (pfin_n a ha hfa) hrun (addX_lt ha hb)
  · have hfa : mag a < 9218868437227405312 := Nat.lt_of_not_le fun h => hf (.inl (fin_false.2 (by omega)))
    have hfb : mag b < 9218868437227405312 := Nat.lt_of_not_le fun h => hf (.inr (fin_false.2 (by omega)))
    have hfs := tS_fits (tF_fits a) (tF_fits b)
    have hokR := tS_okR (tF_fits a) (tF_fits b) (by omega) (by omega) (by omega)
    have hok : Ok (tS (tF a) (tF b)) := ok_cn hokR
    obtain ⟨f1, f2, f3, f4, f5⟩ := hok.facts
    have hadd := add_op (tF_ok a) (tF_ok b) hokR
    have e : fAdM a b m = if (tS (tF a) (tF b)).2.1 = 0 then sig (z0 (neg a) (neg b) m) 0 else tfF (tS (tF a) (tF b)).1 true (tS (tF a) (tF b)).2.1 (tS (tF a) (tF b)).2.2 m := if_neg hf
    rw [e]
    refine ⟨?_, fun h => (by unfold isNaN at h; simp only [decide_eq_true_eq] at h; rcases h with h | h; omega; omega), fun W hT hI => ?_⟩
    · split
      · exact sig_lt (by omega)
      · exact tfF_lt hm'
    · by_cases h0 : (tS (tF a) (tF b)).2.1 = 0
      · rw [if_pos h0]
        refine (padd_z a b _ m _ (tF a) (tF b) (tS (tF a) (tF b)) W hm ha hb (pfin_y a ha hfa) (pfin_y b hb hfb) (exact_ok a ha hfa W hT hI) (fun W' h => exact_ok b hb hfb W' (hT.later h) (Tab.later hI h)) (fun W' X Y h h1 h2 => added_op hadd (hT.later h) h1 h2) (fun W' X h => psign hok h) (by rw [sgI_nought, decide_eq_true h0]) (fun W' => pnought _ _ m hm' W')).mono ?_
        rintro r w' ⟨rfl, hb'⟩
        exact ⟨_, rfl, lk.refl (sig_lt (by omega)), hb'⟩
      · rw [if_neg h0]
        refine (padd_r a b _ m _ (tF a) (tF b) (tS (tF a) (tF b)) W hm ha hb (pfin_y a ha hfa) (pfin_y b hb hfb) (exact_ok a ha hfa W hT hI) (fun W' h => exact_ok b hb hfb W' (hT.later h) (Tab.later hI h)) (fun W' X Y h h1 h2 => added_op hadd (hT.later h) h1 h2) (fun W' X h => psign hok h) (by rw [sgI_nought, decide_eq_false h0]) (fun W' X h h1 => prounded (hT.later h) hok h1 hm')).mono ?_
        rintro r w' ⟨rfl, hb'⟩
        exact ⟨_, rfl, lk.refl (tfF_lt hm'), hb'⟩
theorem faddM (a b : Nat) (m : Int) (hm : 1 ≤ m ∧ m ≤ 3) (ha : a < 18446744073709551616) (hb : b < 18446744073709551616) (W : World) (hT : Tab32 W) (hJ : Ie.Tab W) : Calls Tryz.prog 110 #[.float .f64 a, .float .f64 b, .int .i64 m] W fun r w' => OutF2 W (fAdM a b m) r w' := (faddM_p a b m hm ha hb).2.2 W hT hJ
theorem fsubM (a b : Nat) (m : Int) (hm : 1 ≤ m ∧ m ≤ 3) (ha : a < 18446744073709551616) (hb : b < 18446744073709551616) (W : World) (hT : Tab32 W) (hJ : Ie.Tab W) : Calls Tryz.prog 76 #[.float .f64 a, .float .f64 b, .int .i64 m] W fun r w' => OutF2 W (fAdM a (ngt b) m) r w' := psub_1 a b _ m W hb (faddM a (ngt b) m hm ha (ngt_lt hb) W hT hJ)
end Go.Proofs.YtcoclopllbfjcaaGreatDoor
/- Mid and Rad. -/
namespace Go.Proofs.YtcoclopllbfjcaaGreatDoor
set_option linter.unusedVariables false
set_option linter.unusedSimpArgs false
open Go.RowKit Go.Fl64
attribute [local go_sem] run_store_flt

theorem flt_under : Tryz.prog.underlying 22 = some (.float .f64) := by kernel_rfl
theorem run_equalIn_flt (k x y : Nat) (w : World) : (Op.equalIn (k + 1) 22 (.float .f64 x) (.float .f64 y)).run Tryz.prog w = .ok (FloatKind.f64.format.order x y == some Ordering.eq) w := by
  simp [Op.equalIn, run_underlying flt_under, Op.floatEq]
theorem eqIv (a b c d : Nat) (w : World) : (Op.equalIn 10000 24 (.agg #[.float .f64 a, .float .f64 b]) (.agg #[.float .f64 c, .float .f64 d])).run Tryz.prog w = .ok ((FloatKind.f64.format.order a c == some Ordering.eq) && (FloatKind.f64.format.order b d == some Ordering.eq)) w := by
  have hS : Tryz.prog.underlying 24 = some (.struct (Tryz.prog.fieldsOf 24)) := by kernel_rfl
  have hp : Tryz.prog.stoodInHeld 24 = false := by kernel_rfl
  have h1 := fun k => run_equalIn_flt k a c w
  have h2 := fun k => run_equalIn_flt k b d w
  rw [show (10000 : Nat) = 9999 + 1 from rfl, run_equalIn_agg w 9999 24 _ _ hS hp]
  simp only [Program.fieldsOf, Tryz.underlying24]
  rw [show (9999 : Nat) = 9998 + 1 from rfl]
  generalize (FloatKind.f64.format.order a c == some Ordering.eq) = p at *
  generalize (FloatKind.f64.format.order b d == some Ordering.eq) = q at *
  go_simp
  cases p <;> cases q <;> simp
/-- the middle, or an error -/
def midV (v q i j : Bool) (H : Nat) : Value := if v then (if q then .tuple #[.float .f64 0, .int .i64 0] else if i then .tuple #[.float .f64 18442240474082181119, .int .i64 0] else if j then .tuple #[.float .f64 9218868437227405311, .int .i64 0] else .tuple #[.float .f64 H, .int .i64 0]) else .tuple #[.float .f64 0, .int .i64 1]
set_option maxHeartbeats 4000000 in
set_option maxRecDepth 200000 in
theorem smid_1 (lo hi H : Nat) (v q i j : Bool) (w : World)
    (k1 : ∀ W, Calls Tryz.prog 52 #[.agg #[.float .f64 lo, .float .f64 hi]] W fun r w' => r = .returned (.bool v) ∧ Below W.heap.size W w')
    (he : ∀ W, (Op.equalIn 10000 24 (.agg #[.float .f64 lo, .float .f64 hi]) (.agg #[.float .f64 18442240474082181120, .float .f64 9218868437227405312])).run Tryz.prog W = .ok q W)
    (k3 : ∀ W, Calls Tryz.prog 74 #[.float .f64 lo, .int .i64 0] W fun r w' => r = .returned (.bool i) ∧ w' = W)
    (k4 : ∀ W, Calls Tryz.prog 74 #[.float .f64 hi, .int .i64 0] W fun r w' => r = .returned (.bool j) ∧ w' = W)
    (k5 : v = true → i = false → j = false → ∀ W, Below w.heap.size w W → Calls Tryz.prog 75 #[.float .f64 lo, .float .f64 hi] W fun r w' => r = .returned (.float .f64 H) ∧ Below W.heap.size W w') :
    Calls Tryz.prog 30 #[.agg #[.float .f64 lo, .float .f64 hi]] w fun r w' => r = .returned (midV v q i j H) ∧ Below w.heap.size w w' := by
  have HE : Hid (∀ W, (Op.equalIn 10000 24 (.agg #[.float .f64 lo, .float .f64 hi]) (.agg #[.float .f64 18442240474082181120, .float .f64 9218868437227405312])).run Tryz.prog W = .ok q W) := he
  have H3 : Hid (∀ W, Calls Tryz.prog 74 #[.float .f64 lo, .int .i64 0] W fun r w' => r = .returned (.bool i) ∧ w' = W) := k3
  have H4 : Hid (∀ W, Calls Tryz.prog 74 #[.float .f64 hi, .int .i64 0] W fun r w' => r = .returned (.bool j) ∧ w' = W) := k4
  have H5 : Hid (v = true → i = false → j = false → ∀ W, Below w.heap.size w W → Calls Tryz.prog 75 #[.float .f64 lo, .float .f64 hi] W fun r w' => r = .returned (.float .f64 H) ∧ Below W.heap.size W w') := k5
  obtain ⟨W, hW⟩ : ∃ W, W = (w.alloc (.cells #[.float .f64 lo, .float .f64 hi] 24)) := ⟨_, rfl⟩
  have HX : Hid (Below w.heap.size w W ∧ IvB W (w.heap.size) lo hi) := by
    rw [hW]
    exact ⟨bxs1_0 w lo hi, bxs1_1 w lo hi⟩
  have HK : Hid (∀ w', Below W.heap.size W w' → IvF w' (w.heap.size) lo hi) := fun w' hb => (HX.out.2).later hb
  obtain ⟨c0, c1, z0, z1⟩ := HK.out W (Below.refl _ _)
  have kk := k1 W
  have HV : Hid (Below w.heap.size w W) := HX.out.1
  clear k1 k3 k4 k5 he
  go_enter Tryz.func30, Tryz.ntmps30
  go_upto_region 1 with fail
  rw [← hW]
  clear hW
  go_wp2_with fail
  refine kk.mono ?_
  rintro r w1 ⟨rfl, hb1⟩
  clear kk c0 c1 z0 z1
  obtain ⟨c0, c1, z0, z1⟩ := HK.out w1 hb1
  have HB1 : Hid (Below W.heap.size W w1) := hb1
  clear hb1
  cases v
  · have HB : Hid (Below w.heap.size w w1) := HV.out.trans (HB1.out.mono HV.out.size)
    clear HK HX HB1 H3 H4 H5 HE
    go_wp2
    go_ret2
    exact ⟨rfl, HB.out⟩
  have he := HE.out
  have hR : Below W.heap.size W w1.drew := HB1.out.drew
  obtain ⟨d0, d1, y0, y1⟩ := HK.out w1.drew hR
  go_upto_region 3 with fail
  go_region_held3 (fun w' => w'.cell? ⟨w.heap.size, 0, none⟩ = some (.float .f64 lo) ∧ w'.cell? ⟨w.heap.size, 1, none⟩ = some (.float .f64 hi)) (first | (with_reducible assumption) | exact ⟨d0, d1⟩ | exact ⟨c0, c1⟩ | exact ⟨(HK.out _ hb2).1, (HK.out _ hb2).2.1⟩ | exact ⟨(HK.out _ hb2.drew).1, (HK.out _ hb2.drew).2.1⟩ | go_keep)
    (first | (go_at_call 51; refine (sall _).mono ?_; rintro r w2 ⟨rfl, hb2⟩; replace hb2 := hR.trans (hb2.mono hR.size)))
  obtain ⟨u0, u1, u2, u3⟩ := HK.out w2 hb2
  have HB2 : Hid (Below w.heap.size w w2) := HV.out.trans (hb2.mono HV.out.size)
  have k3 := H3.out
  have k4 := H4.out
  clear c0 c1 z0 z1 d0 d1 y0 y1 hR HB1 HK HX HE H3 H4 HV hb2 he
  cases q
  case true =>
    go_wp2
    go_ret2
    exact ⟨rfl, HB2.out⟩
  cases i
  case true =>
    go_wp2_with (first | (go_at_call 74; refine (k3 _).mono ?_; rintro r w' ⟨rfl, hw⟩; replace hw := hw.symm; subst hw))
    go_ret2
    exact ⟨rfl, HB2.out⟩
  cases j
  case true =>
    go_wp2_with (first | (go_at_call 74; first | (with_reducible refine (k3 _).mono ?_; rintro r w' ⟨rfl, hw⟩; replace hw := hw.symm; subst hw) | (with_reducible refine (k4 _).mono ?_; rintro r w' ⟨rfl, hw⟩; replace hw := hw.symm; subst hw)))
    go_ret2
    exact ⟨rfl, HB2.out⟩
  have kk := H5.out (by simp) (by simp) (by simp) w2 HB2.out
  go_wp2_with (first | (go_at_call 74; first | (with_reducible refine (k3 _).mono ?_; rintro r w' ⟨rfl, hw⟩; replace hw := hw.symm; subst hw) | (with_reducible refine (k4 _).mono ?_; rintro r w' ⟨rfl, hw⟩; replace hw := hw.symm; subst hw)))
  refine kk.mono ?_
  rintro r w3 ⟨rfl, hb3⟩
  have HB3 : Hid (Below w.heap.size w w3) := HB2.out.trans (hb3.mono HB2.out.size)
  clear kk hb3
  go_wp2_with fail
  go_ret2
  exact ⟨rfl, HB3.out⟩
/-- the radius, or an error -/
def radV (e : Int) (R : Nat) : Value := if e = 0 then .tuple #[.float .f64 R, .int .i64 0] else .tuple #[.float .f64 0, .int .i64 e]
set_option maxHeartbeats 4000000 in
set_option maxRecDepth 200000 in
theorem srad_1 (lo hi M P Q R : Nat) (e : Int) (w : World)
    (k1 : ∀ W, Below w.heap.size w W → Calls Tryz.prog 30 #[.agg #[.float .f64 lo, .float .f64 hi]] W fun r w' => r = .returned (.tuple #[.float .f64 M, .int .i64 e]) ∧ Below W.heap.size W w')
    (k2 : e = 0 → ∀ W, Below w.heap.size w W → Calls Tryz.prog 76 #[.float .f64 M, .float .f64 lo, .int .i64 3] W fun r w' => r = .returned (.float .f64 P) ∧ Below W.heap.size W w')
    (k3 : e = 0 → ∀ W, Below w.heap.size w W → Calls Tryz.prog 76 #[.float .f64 hi, .float .f64 M, .int .i64 3] W fun r w' => r = .returned (.float .f64 Q) ∧ Below W.heap.size W w')
    (hm : e = 0 → ∀ W ts t, (Builtin.max_ ts t #[.float .f64 P, .float .f64 Q]).run Tryz.prog W = .ok (.float .f64 R) W) :
    Calls Tryz.prog 31 #[.agg #[.float .f64 lo, .float .f64 hi]] w fun r w' => r = .returned (radV e R) ∧ Below w.heap.size w w' := by
  have H2 : Hid (e = 0 → ∀ W, Below w.heap.size w W → Calls Tryz.prog 76 #[.float .f64 M, .float .f64 lo, .int .i64 3] W fun r w' => r = .returned (.float .f64 P) ∧ Below W.heap.size W w') := k2
  have H3 : Hid (e = 0 → ∀ W, Below w.heap.size w W → Calls Tryz.prog 76 #[.float .f64 hi, .float .f64 M, .int .i64 3] W fun r w' => r = .returned (.float .f64 Q) ∧ Below W.heap.size W w') := k3
  have HM : Hid (e = 0 → ∀ W ts t, (Builtin.max_ ts t #[.float .f64 P, .float .f64 Q]).run Tryz.prog W = .ok (.float .f64 R) W) := hm
  obtain ⟨W, hW⟩ : ∃ W, W = (w.alloc (.cells #[.float .f64 lo, .float .f64 hi] 24)) := ⟨_, rfl⟩
  have HX : Hid (Below w.heap.size w W ∧ IvB W (w.heap.size) lo hi) := by
    rw [hW]
    exact ⟨bxs1_0 w lo hi, bxs1_1 w lo hi⟩
  have HK : Hid (∀ w', Below W.heap.size W w' → IvF w' (w.heap.size) lo hi) := fun w' hb => (HX.out.2).later hb
  obtain ⟨c0, c1, z0, z1⟩ := HK.out W (Below.refl _ _)
  have HV : Hid (Below w.heap.size w W) := HX.out.1
  have kk := k1 W HV.out
  clear k1 k2 k3 hm
  go_enter Tryz.func31, Tryz.ntmps31
  go_upto_region 1 with fail
  rw [← hW]
  clear hW
  go_wp2_with fail
  refine kk.mono ?_
  rintro r w1 ⟨rfl, hb1⟩
  clear kk c0 c1 z0 z1
  obtain ⟨c0, c1, z0, z1⟩ := HK.out w1 hb1
  have HB1 : Hid (Below W.heap.size W w1) := hb1
  have HB : Hid (Below w.heap.size w w1) := HV.out.trans (hb1.mono HV.out.size)
  clear hb1
  by_cases he : e = 0
  · subst he
    have hm := HM.out rfl
    have hR : Below W.heap.size W w1.drew := HB1.out.drew
    have q2 : ∀ W', Below W.heap.size W W' → Calls Tryz.prog 76 #[.float .f64 M, .float .f64 lo, .int .i64 3] W' fun r w' => r = .returned (.float .f64 P) ∧ Below W.heap.size W w' := fun W' h => (H2.out rfl W' (HV.out.trans (h.mono HV.out.size))).mono fun r w' ⟨e1, e2⟩ => ⟨e1, h.trans (e2.mono h.size)⟩
    have q3 : ∀ W', Below W.heap.size W W' → Calls Tryz.prog 76 #[.float .f64 hi, .float .f64 M, .int .i64 3] W' fun r w' => r = .returned (.float .f64 Q) ∧ Below W.heap.size W w' := fun W' h => (H3.out rfl W' (HV.out.trans (h.mono HV.out.size))).mono fun r w' ⟨e1, e2⟩ => ⟨e1, h.trans (e2.mono h.size)⟩
    obtain ⟨d0, d1, y0, y1⟩ := HK.out w1.drew hR
    clear HM H2 H3
    go_upto_region 4 with fail
    go_region_held3 (fun w' => w'.cell? ⟨w.heap.size, 0, none⟩ = some (.float .f64 lo) ∧ w'.cell? ⟨w.heap.size, 1, none⟩ = some (.float .f64 hi)) (first | (with_reducible assumption) | exact ⟨d0, d1⟩ | exact ⟨c0, c1⟩ | exact ⟨(HK.out _ hb3).1, (HK.out _ hb3).2.1⟩ | exact ⟨(HK.out _ hb2).1, (HK.out _ hb2).2.1⟩ | go_keep)
      (first | (go_at_call 76; with_reducible refine (q2 _ hR).mono ?_; rintro r w2 ⟨rfl, hb2⟩) | (go_at_call 76; with_reducible refine (q3 _ hb2).mono ?_; rintro r w3 ⟨rfl, hb3⟩))
    have HB3 : Hid (Below w.heap.size w w3) := HV.out.trans (hb3.mono HV.out.size)
    clear c0 c1 z0 z1 d0 d1 y0 y1 hR HB1 HK HX q2 q3 HV hb2 hb3
    go_wp2_with fail
    go_ret2
    exact ⟨rfl, HB3.out⟩
  · have hq : (e == 0) = false := by simp [he]
    have hq2 : (e != 0) = true := by simp [he]
    have HE : Hid (e ≠ 0) := he
    clear HM H2 H3 HK HX HV HB1 he
    go_wp2
    go_ret2
    exact ⟨by unfold radV; rw [if_neg HE.out]; rfl, HB.out⟩
/-- whether an interval is all numbers, has no end below, above -/
def iAll (lo hi : Nat) : Bool := eq lo 18442240474082181120 && eq hi 9218868437227405312
def iFar (a : Nat) : Bool := lt 9218868437227405311 (mag a)
theorem far_fin {a : Nat} (h : iFar a = false) (hn : isNaN a = false) : mag a < 9218868437227405312 := by
  have n' : ¬ 9218868437227405312 < mag a := of_decide_eq_false hn
  have hm : isNaN (mag a) = false := by
    unfold isNaN
    rw [show mag (mag a) = mag a by unfold mag; omega]
    exact decide_eq_false n'
  have hs : stp (mag a) = (mag a : Int) := by
    unfold stp sgn neg
    rw [show mag (mag a) = mag a by unfold mag; omega, if_neg (by have := mag_lt a; simp; omega)]
  unfold iFar lt at h
  rw [hm, hs, show isNaN 9218868437227405311 = false by decide, show stp 9218868437227405311 = 9218868437227405311 by decide] at h
  simp only [Bool.not_false, Bool.true_and, decide_eq_false_iff_not] at h
  omega
theorem smid (lo hi : Nat) (h1 : lo < 18446744073709551616) (h2 : hi < 18446744073709551616) (w : World) (hT : Tab32 w) (hJ : Ie.Tab w) :
    Calls Tryz.prog 30 #[.agg #[.float .f64 lo, .float .f64 hi]] w fun r w' => r = .returned (midV (vI lo hi) (iAll lo hi) (iFar lo) (iFar hi) (hfS lo hi)) ∧ Below w.heap.size w w' := by
  refine smid_1 lo hi _ _ _ _ _ w (fun W => svalid lo hi h1 h2 W) (fun W => ?_) (fun W => c123 lo h1 W) (fun W => c123 hi h2 W) (fun hv hi' hj W h => shalf lo hi h1 h2 (far_fin hi' (vI_nn hv).1) (far_fin hj (vI_nn hv).2) W (hT.later h) (Tab.later hJ h))
  rw [eqIv, ord_eq lo _ h1 (by omega), ord_eq hi _ h2 (by omega)]
  rfl
/-- the middle as a float -/
def mdF (lo hi : Nat) : Nat := if iAll lo hi then 0 else if iFar lo then 18442240474082181119 else if iFar hi then 9218868437227405311 else hfS lo hi
theorem mdF_lt (lo hi : Nat) : mdF lo hi < 18446744073709551616 := by
  unfold mdF
  split
  · omega
  · split
    · omega
    · split
      · omega
      · exact hfS_lt _ _
theorem midV_eq (v : Bool) (lo hi : Nat) : midV v (iAll lo hi) (iFar lo) (iFar hi) (hfS lo hi) = .tuple #[.float .f64 (if v then mdF lo hi else 0), .int .i64 (if v then 0 else 1)] := by
  unfold midV mdF
  cases v
  · rfl
  · cases iAll lo hi
    · cases iFar lo
      · cases iFar hi <;> rfl
      · rfl
    · rfl
/-- how far it goes, below and above -/
def rdP (lo hi : Nat) : Nat := fAdM (mdF lo hi) (ngt lo) 3
def rdQ (lo hi : Nat) : Nat := fAdM hi (ngt (mdF lo hi)) 3
theorem srad (lo hi : Nat) (h1 : lo < 18446744073709551616) (h2 : hi < 18446744073709551616) (w : World) (hT : Tab32 w) (hJ : Ie.Tab w) (hP : vI lo hi = true → isNaN (rdP lo hi) = false) (hQ : vI lo hi = true → isNaN (rdQ lo hi) = false) :
    Calls Tryz.prog 31 #[.agg #[.float .f64 lo, .float .f64 hi]] w fun r w' => r = .returned (radV (if vI lo hi then 0 else 1) (fMax (rdP lo hi) (rdQ lo hi))) ∧ Below w.heap.size w w' := by
  have hv : (if vI lo hi = true then (0 : Int) else 1) = 0 → vI lo hi = true := by
    cases vI lo hi <;> simp
  have m3 : (1 : Int) ≤ 3 ∧ (3 : Int) ≤ 3 := by omega
  have hPl : rdP lo hi < 18446744073709551616 := (faddM_p _ _ 3 m3 (mdF_lt lo hi) (ngt_lt h1)).1
  have hQl : rdQ lo hi < 18446744073709551616 := (faddM_p _ _ 3 m3 h2 (ngt_lt (mdF_lt lo hi))).1
  refine srad_1 lo hi (if vI lo hi then mdF lo hi else 0) (rdP lo hi) (rdQ lo hi) _ _ w (fun W h => ?_) (fun he W h => ?_) (fun he W h => ?_) (fun he W ts t => run_fmax W ts t _ _ hPl hQl (hP (hv he)) (hQ (hv he)))
  · have := smid lo hi h1 h2 W (hT.later h) (Tab.later hJ h)
    rw [midV_eq] at this
    exact this
  · rw [if_pos (hv he)]
    refine (fsubM (mdF lo hi) lo 3 m3 (mdF_lt lo hi) h1 W (hT.later h) (Tab.later hJ h)).mono ?_
    rintro r w' ⟨n, rfl, hl, hb⟩
    rw [hl.eq (hP (hv he))]
    exact ⟨rfl, hb⟩
  · rw [if_pos (hv he)]
    refine (fsubM hi (mdF lo hi) 3 m3 h2 (mdF_lt lo hi) W (hT.later h) (Tab.later hJ h)).mono ?_
    rintro r w' ⟨n, rfl, hl, hb⟩
    rw [hl.eq (hQ (hv he))]
    exact ⟨rfl, hb⟩
/-- Rad([1, 2]) -/
theorem rad_at : vI 4607182418800017408 4611686018427387904 = true ∧ isNaN (rdP 4607182418800017408 4611686018427387904) = false ∧ isNaN (rdQ 4607182418800017408 4611686018427387904) = false ∧ fMax (rdP 4607182418800017408 4611686018427387904) (rdQ 4607182418800017408 4611686018427387904) = 4602678819172646912 := by decide +kernel
end Go.Proofs.YtcoclopllbfjcaaGreatDoor
/- The law's own small test. -/
namespace Go.Proofs.YtcoclopllbfjcaaGreatDoor
set_option linter.unusedVariables false
set_option linter.unusedSimpArgs false
open Go.RowKit Go.Fl64
attribute [local go_sem] run_store_flt

set_option maxHeartbeats 16000000 in
set_option maxRecDepth 200000 in
theorem works_1 (w : World)
    (k1 : ∀ W, Below w.heap.size w W → Calls Tryz.prog 8 #[.agg #[.float .f64 13830554455654793216, .float .f64 4611686018427387904], .agg #[.float .f64 4613937818241073152, .float .f64 9218868437227405312]] W fun r w' => r = .returned (.tuple #[.agg #[.float .f64 18442240474082181120, .float .f64 9218868437227405312], .int .i64 0]) ∧ Below W.heap.size W w')
    (k2 : ∀ W, Below w.heap.size w W → Calls Tryz.prog 10 #[.agg #[.float .f64 4607182418800017408, .float .f64 4607182418800017408], .agg #[.float .f64 4613937818241073152, .float .f64 4613937818241073152]] W fun r w' => r = .returned (.tuple #[.agg #[.float .f64 4599676419421066581, .float .f64 4599676419421066582], .int .i64 0]) ∧ Below W.heap.size W w')
    (k3 : ∀ W, Below w.heap.size w W → Calls Tryz.prog 10 #[.agg #[.float .f64 4607182418800017408, .float .f64 4607182418800017408], .agg #[.float .f64 13830554455654793216, .float .f64 4607182418800017408]] W fun r w' => r = .returned (.tuple #[.agg #[.float .f64 0, .float .f64 0], .int .i64 6]) ∧ Below W.heap.size W w')
    (k4 : ∀ W, Below w.heap.size w W → Calls Tryz.prog 31 #[.agg #[.float .f64 4607182418800017408, .float .f64 4611686018427387904]] W fun r w' => r = .returned (.tuple #[.float .f64 4602678819172646912, .int .i64 0]) ∧ Below W.heap.size W w')
    (k5 : ∀ W, Below w.heap.size w W → Calls Tryz.prog 42 #[.agg #[.float .f64 4607182418800017408, .float .f64 4611686018427387904], .float .f64 4609434218613702656] W fun r w' => r = .returned (.bool true) ∧ Below W.heap.size W w')
    (k6 : ∀ W, Below w.heap.size w W → Calls Tryz.prog 42 #[.agg #[.float .f64 4607182418800017408, .float .f64 4611686018427387904], .float .f64 4613937818241073152] W fun r w' => r = .returned (.bool false) ∧ Below W.heap.size W w') :
    Calls Tryz.prog 13 #[] w fun r w' => r = .returned (.bool true) ∧ Below w.heap.size w w' := by
  have hh : (FloatKind.f64.format.order 4602678819172646912 4602678819172646912 == some Ordering.eq) = true := by decide
  have H1 : Hid (∀ W, Below w.heap.size w W → Calls Tryz.prog 8 #[.agg #[.float .f64 13830554455654793216, .float .f64 4611686018427387904], .agg #[.float .f64 4613937818241073152, .float .f64 9218868437227405312]] W fun r w' => r = .returned (.tuple #[.agg #[.float .f64 18442240474082181120, .float .f64 9218868437227405312], .int .i64 0]) ∧ Below W.heap.size W w') := k1
  have H2 : Hid (∀ W, Below w.heap.size w W → Calls Tryz.prog 10 #[.agg #[.float .f64 4607182418800017408, .float .f64 4607182418800017408], .agg #[.float .f64 4613937818241073152, .float .f64 4613937818241073152]] W fun r w' => r = .returned (.tuple #[.agg #[.float .f64 4599676419421066581, .float .f64 4599676419421066582], .int .i64 0]) ∧ Below W.heap.size W w') := k2
  have H3 : Hid (∀ W, Below w.heap.size w W → Calls Tryz.prog 10 #[.agg #[.float .f64 4607182418800017408, .float .f64 4607182418800017408], .agg #[.float .f64 13830554455654793216, .float .f64 4607182418800017408]] W fun r w' => r = .returned (.tuple #[.agg #[.float .f64 0, .float .f64 0], .int .i64 6]) ∧ Below W.heap.size W w') := k3
  have H4 : Hid (∀ W, Below w.heap.size w W → Calls Tryz.prog 31 #[.agg #[.float .f64 4607182418800017408, .float .f64 4611686018427387904]] W fun r w' => r = .returned (.tuple #[.float .f64 4602678819172646912, .int .i64 0]) ∧ Below W.heap.size W w') := k4
  have H5 : Hid (∀ W, Below w.heap.size w W → Calls Tryz.prog 42 #[.agg #[.float .f64 4607182418800017408, .float .f64 4611686018427387904], .float .f64 4609434218613702656] W fun r w' => r = .returned (.bool true) ∧ Below W.heap.size W w') := k5
  have H6 : Hid (∀ W, Below w.heap.size w W → Calls Tryz.prog 42 #[.agg #[.float .f64 4607182418800017408, .float .f64 4611686018427387904], .float .f64 4613937818241073152] W fun r w' => r = .returned (.bool false) ∧ Below W.heap.size W w') := k6
  have A0 : Hid (Below w.heap.size w w) := Below.refl _ _
  clear k1 k2 k3 k4 k5 k6
  go_enter Tryz.func13, Tryz.ntmps13
  have kk := lof 13830554455654793216 4611686018427387904 w
  go_wp2_with fail
  refine kk.mono ?_
  rintro r w1 ⟨rfl, hb⟩
  have A1 : Hid (Below w.heap.size w w1) := A0.out.trans (hb.mono A0.out.size)
  clear hb kk A0
  go_wp2_with fail
  refine (cinf_p w1).mono ?_
  rintro r w' ⟨rfl, hw⟩
  replace hw := hw.symm
  subst hw
  have kk := lof 4613937818241073152 9218868437227405312 w1
  go_wp2_with fail
  refine kk.mono ?_
  rintro r w2 ⟨rfl, hb⟩
  have A2 : Hid (Below w.heap.size w w2) := A1.out.trans (hb.mono A1.out.size)
  clear hb kk A1
  have kk := H1.out w2 A2.out
  go_wp2_with fail
  refine kk.mono ?_
  rintro r w3 ⟨rfl, hb⟩
  have A3 : Hid (Below w.heap.size w w3) := A2.out.trans (hb.mono A2.out.size)
  clear hb kk A2
  obtain ⟨V1, hV1⟩ : ∃ V, V = w3.alloc (.cells #[.float .f64 18442240474082181120, .float .f64 9218868437227405312] 24) := ⟨_, rfl⟩
  have AV1 : Hid (Below w.heap.size w V1) := by rw [hV1]; exact A3.out.alloc A3.out.size _
  have XV1 : Hid (IvB V1 w3.heap.size 18442240474082181120 9218868437227405312) := by rw [hV1]; exact IvB.new _ _ _
  have BV1_V1 : Hid (Below V1.heap.size V1 V1) := Below.refl _ _
  clear A3
  have kk := lof 4607182418800017408 4607182418800017408 V1
  go_wp2_with fail
  rw [← hV1]
  clear hV1
  generalize hgV1 : w3.heap.size = gV1 at *
  clear hgV1
  refine kk.mono ?_
  rintro r w4 ⟨rfl, hb⟩
  have A4 : Hid (Below w.heap.size w w4) := AV1.out.trans (hb.mono AV1.out.size)
  have BV1_4 : Hid (Below V1.heap.size V1 w4) := BV1_V1.out.trans (hb.mono BV1_V1.out.size)
  clear BV1_V1
  clear hb kk AV1
  have kk := lof 4613937818241073152 4613937818241073152 w4
  go_wp2_with fail
  refine kk.mono ?_
  rintro r w5 ⟨rfl, hb⟩
  have A5 : Hid (Below w.heap.size w w5) := A4.out.trans (hb.mono A4.out.size)
  have BV1_5 : Hid (Below V1.heap.size V1 w5) := BV1_4.out.trans (hb.mono BV1_4.out.size)
  clear BV1_4
  clear hb kk A4
  have kk := H2.out w5 A5.out
  go_wp2_with fail
  refine kk.mono ?_
  rintro r w6 ⟨rfl, hb⟩
  have A6 : Hid (Below w.heap.size w w6) := A5.out.trans (hb.mono A5.out.size)
  have BV1_6 : Hid (Below V1.heap.size V1 w6) := BV1_5.out.trans (hb.mono BV1_5.out.size)
  clear BV1_5
  clear hb kk A5
  obtain ⟨V2, hV2⟩ : ∃ V, V = w6.alloc (.cells #[.float .f64 4599676419421066581, .float .f64 4599676419421066582] 24) := ⟨_, rfl⟩
  have AV2 : Hid (Below w.heap.size w V2) := by rw [hV2]; exact A6.out.alloc A6.out.size _
  have XV2 : Hid (IvB V2 w6.heap.size 4599676419421066581 4599676419421066582) := by rw [hV2]; exact IvB.new _ _ _
  have BV1_V2 : Hid (Below V1.heap.size V1 V2) := by rw [hV2]; exact BV1_6.out.alloc BV1_6.out.size _
  clear BV1_6
  have BV2_V2 : Hid (Below V2.heap.size V2 V2) := Below.refl _ _
  clear A6
  have kk := lof 4607182418800017408 4607182418800017408 V2
  go_wp2_with fail
  rw [← hV2]
  clear hV2
  generalize hgV2 : w6.heap.size = gV2 at *
  clear hgV2
  refine kk.mono ?_
  rintro r w7 ⟨rfl, hb⟩
  have A7 : Hid (Below w.heap.size w w7) := AV2.out.trans (hb.mono AV2.out.size)
  have BV1_7 : Hid (Below V1.heap.size V1 w7) := BV1_V2.out.trans (hb.mono BV1_V2.out.size)
  clear BV1_V2
  have BV2_7 : Hid (Below V2.heap.size V2 w7) := BV2_V2.out.trans (hb.mono BV2_V2.out.size)
  clear BV2_V2
  clear hb kk AV2
  have kk := lof 13830554455654793216 4607182418800017408 w7
  go_wp2_with fail
  refine kk.mono ?_
  rintro r w8 ⟨rfl, hb⟩
  have A8 : Hid (Below w.heap.size w w8) := A7.out.trans (hb.mono A7.out.size)
  have BV1_8 : Hid (Below V1.heap.size V1 w8) := BV1_7.out.trans (hb.mono BV1_7.out.size)
  clear BV1_7
  have BV2_8 : Hid (Below V2.heap.size V2 w8) := BV2_7.out.trans (hb.mono BV2_7.out.size)
  clear BV2_7
  clear hb kk A7
  have kk := H3.out w8 A8.out
  go_wp2_with fail
  refine kk.mono ?_
  rintro r w9 ⟨rfl, hb⟩
  have A9 : Hid (Below w.heap.size w w9) := A8.out.trans (hb.mono A8.out.size)
  have BV1_9 : Hid (Below V1.heap.size V1 w9) := BV1_8.out.trans (hb.mono BV1_8.out.size)
  clear BV1_8
  have BV2_9 : Hid (Below V2.heap.size V2 w9) := BV2_8.out.trans (hb.mono BV2_8.out.size)
  clear BV2_8
  clear hb kk A8
  obtain ⟨V3, hV3⟩ : ∃ V, V = w9.alloc (.cells #[.float .f64 0, .float .f64 0] 24) := ⟨_, rfl⟩
  have AV3 : Hid (Below w.heap.size w V3) := by rw [hV3]; exact A9.out.alloc A9.out.size _
  have XV3 : Hid (IvB V3 w9.heap.size 0 0) := by rw [hV3]; exact IvB.new _ _ _
  have BV1_V3 : Hid (Below V1.heap.size V1 V3) := by rw [hV3]; exact BV1_9.out.alloc BV1_9.out.size _
  clear BV1_9
  have BV2_V3 : Hid (Below V2.heap.size V2 V3) := by rw [hV3]; exact BV2_9.out.alloc BV2_9.out.size _
  clear BV2_9
  have BV3_V3 : Hid (Below V3.heap.size V3 V3) := Below.refl _ _
  clear A9
  have kk := lof 4607182418800017408 4611686018427387904 V3
  go_wp2_with fail
  rw [← hV3]
  clear hV3
  generalize hgV3 : w9.heap.size = gV3 at *
  clear hgV3
  refine kk.mono ?_
  rintro r w10 ⟨rfl, hb⟩
  have A10 : Hid (Below w.heap.size w w10) := AV3.out.trans (hb.mono AV3.out.size)
  have BV1_10 : Hid (Below V1.heap.size V1 w10) := BV1_V3.out.trans (hb.mono BV1_V3.out.size)
  clear BV1_V3
  have BV2_10 : Hid (Below V2.heap.size V2 w10) := BV2_V3.out.trans (hb.mono BV2_V3.out.size)
  clear BV2_V3
  have BV3_10 : Hid (Below V3.heap.size V3 w10) := BV3_V3.out.trans (hb.mono BV3_V3.out.size)
  clear BV3_V3
  clear hb kk AV3
  have kk := H4.out w10 A10.out
  go_wp2_with fail
  refine kk.mono ?_
  rintro r w11 ⟨rfl, hb⟩
  have A11 : Hid (Below w.heap.size w w11) := A10.out.trans (hb.mono A10.out.size)
  have BV1_11 : Hid (Below V1.heap.size V1 w11) := BV1_10.out.trans (hb.mono BV1_10.out.size)
  clear BV1_10
  have BV2_11 : Hid (Below V2.heap.size V2 w11) := BV2_10.out.trans (hb.mono BV2_10.out.size)
  clear BV2_10
  have BV3_11 : Hid (Below V3.heap.size V3 w11) := BV3_10.out.trans (hb.mono BV3_10.out.size)
  clear BV3_10
  clear hb kk A10
  have XM : Hid (IvB w11 gV1 18442240474082181120 9218868437227405312) := XV1.out.box BV1_11.out
  have XQ : Hid (IvB w11 gV2 4599676419421066581 4599676419421066582) := XV2.out.box BV2_11.out
  clear XV1 XV2 XV3 BV1_11 BV2_11 BV3_11
  have HK : Hid (∀ w', Below w11.heap.size w11 w' → ((w'.cell? ⟨gV1, 0, none⟩ = some (.float .f64 18442240474082181120) ∧ w'.cell? ⟨gV1, 1, none⟩ = some (.float .f64 9218868437227405312)) ∧ (w'.cell? ⟨gV2, 0, none⟩ = some (.float .f64 4599676419421066581) ∧ w'.cell? ⟨gV2, 1, none⟩ = some (.float .f64 4599676419421066582))) ∧ Below w11.heap.size w11 w') := fun w' hb => ⟨⟨⟨(XM.out.later hb).1, (XM.out.later hb).2.1⟩, (XQ.out.later hb).1, (XQ.out.later hb).2.1⟩, hb⟩
  have hBR : Below w11.heap.size w11 w11.drew := (Below.refl _ _).drew
  have q1 : ∀ W, Below w11.heap.size w11 W → Calls Tryz.prog 51 #[] W fun r w' => r = .returned (.agg #[.float .f64 18442240474082181120, .float .f64 9218868437227405312]) ∧ Below w11.heap.size w11 w' := fun W h => (sall W).mono fun r w' ⟨e1, e2⟩ => ⟨e1, h.trans (e2.mono h.size)⟩
  have q2 : ∀ W, Below w11.heap.size w11 W → Calls Tryz.prog 12 #[.agg #[.float .f64 18442240474082181120, .float .f64 9218868437227405312], .agg #[.float .f64 18442240474082181120, .float .f64 9218868437227405312]] W fun r w' => r = .returned (.bool true) ∧ Below w11.heap.size w11 w' := fun W h => (isame _ _ (by omega) (by omega) W).mono fun r w' ⟨e1, e2⟩ => ⟨e1, h.trans (e2.mono h.size)⟩
  have q3 : ∀ W, Below w11.heap.size w11 W → Calls Tryz.prog 12 #[.agg #[.float .f64 4599676419421066581, .float .f64 4599676419421066582], .agg #[.float .f64 4599676419421066581, .float .f64 4599676419421066582]] W fun r w' => r = .returned (.bool true) ∧ Below w11.heap.size w11 w' := fun W h => (isame _ _ (by omega) (by omega) W).mono fun r w' ⟨e1, e2⟩ => ⟨e1, h.trans (e2.mono h.size)⟩
  have q4 : ∀ a b W, Below w11.heap.size w11 W → Calls Tryz.prog 50 #[.float .f64 a, .float .f64 b] W fun r w' => r = .returned (.agg #[.float .f64 a, .float .f64 b]) ∧ Below w11.heap.size w11 w' := fun a b W h => (lof a b W).mono fun r w' ⟨e1, e2⟩ => ⟨e1, h.trans (e2.mono h.size)⟩
  have q5 : ∀ W, Below w11.heap.size w11 W → Calls Tryz.prog 42 #[.agg #[.float .f64 4607182418800017408, .float .f64 4611686018427387904], .float .f64 4609434218613702656] W fun r w' => r = .returned (.bool true) ∧ Below w11.heap.size w11 w' := fun W h => (H5.out W (A11.out.trans (h.mono A11.out.size))).mono fun r w' ⟨e1, e2⟩ => ⟨e1, h.trans (e2.mono h.size)⟩
  have q6 : ∀ W, Below w11.heap.size w11 W → Calls Tryz.prog 42 #[.agg #[.float .f64 4607182418800017408, .float .f64 4611686018427387904], .float .f64 4613937818241073152] W fun r w' => r = .returned (.bool false) ∧ Below w11.heap.size w11 w' := fun W h => (H6.out W (A11.out.trans (h.mono A11.out.size))).mono fun r w' ⟨e1, e2⟩ => ⟨e1, h.trans (e2.mono h.size)⟩
  clear H1 H2 H3 H4 H5 H6 XM XQ
  obtain ⟨⟨⟨a0, a1⟩, a2, a3⟩, -⟩ := HK.out w11 (Below.refl _ _)
  go_upto_region 5 with fail
  go_region_held3 (fun w' => ((w'.cell? ⟨gV1, 0, none⟩ = some (.float .f64 18442240474082181120) ∧ w'.cell? ⟨gV1, 1, none⟩ = some (.float .f64 9218868437227405312)) ∧ (w'.cell? ⟨gV2, 0, none⟩ = some (.float .f64 4599676419421066581) ∧ w'.cell? ⟨gV2, 1, none⟩ = some (.float .f64 4599676419421066582))) ∧ Below w11.heap.size w11 w') (first | (with_reducible assumption) | exact HK.out _ hBR | (refine HK.out _ ?_; with_reducible assumption) | go_keep)
    (first | (go_at_call 51; with_reducible refine (q1 _ (by first | (with_reducible assumption) | exact hBR)).mono ?_; rintro r w5 ⟨rfl, hb5⟩)
           | (go_at_call 12; with_reducible refine (q2 _ (by first | (with_reducible assumption) | exact hBR)).mono ?_; rintro r w5 ⟨rfl, hb5⟩)
           | (go_at_call 12; with_reducible refine (q3 _ (by first | (with_reducible assumption) | exact hBR)).mono ?_; rintro r w5 ⟨rfl, hb5⟩)
           | (go_at_call 50; with_reducible refine (q4 _ _ _ (by first | (with_reducible assumption) | exact hBR)).mono ?_; rintro r w5 ⟨rfl, hb5⟩)
           | (go_at_call 42; with_reducible refine (q5 _ (by first | (with_reducible assumption) | exact hBR)).mono ?_; rintro r w5 ⟨rfl, hb5⟩)
           | (go_at_call 42; with_reducible refine (q6 _ (by first | (with_reducible assumption) | exact hBR)).mono ?_; rintro r w5 ⟨rfl, hb5⟩))
  have HF : Hid (Below w.heap.size w w5) := A11.out.trans (hb5.mono A11.out.size)
  clear q1 q2 q3 q4 q5 q6 HK hBR a0 a1 a2 a3 hb5
  go_wp2_with fail
  go_ret
  exact ⟨rfl, HF.out⟩
theorem works8 (w : World) (hT : Tab32 w) (hJ : Ie.Tab w) : Calls Tryz.prog 13 #[] w fun r w' => r = .returned (.bool true) ∧ Below w.heap.size w w' := by
  refine works_1 w (fun W h => ?_) (fun W h => ?_) (fun W h => ?_) (fun W h => ?_) (fun W h => ?_) (fun W h => ?_)
  · have k := smul 13830554455654793216 4611686018427387904 4613937818241073152 9218868437227405312 (by omega) (by omega) (by omega) (by omega) W (hT.later h) (Tab.later hJ h)
    rw [mul_at.1, mul_at.2.1, mul_at.2.2] at k
    exact k
  · have k := squo 4607182418800017408 4607182418800017408 4613937818241073152 4613937818241073152 (by omega) (by omega) (by omega) (by omega) W (hT.later h) (Tab.later hJ h)
    rw [quo_at.1, quo_at.2.1, quo_at.2.2.1, quo_at.2.2.2] at k
    exact k
  · have k := squo 4607182418800017408 4607182418800017408 13830554455654793216 4607182418800017408 (by omega) (by omega) (by omega) (by omega) W (hT.later h) (Tab.later hJ h)
    rw [quo_at2.1, quo_at2.2] at k
    exact k
  · have k := srad 4607182418800017408 4611686018427387904 (by omega) (by omega) W (hT.later h) (Tab.later hJ h) (fun _ => rad_at.2.1) (fun _ => rad_at.2.2.1)
    rw [rad_at.2.2.2, rad_at.1] at k
    exact k
  · have k := shas 4607182418800017408 4611686018427387904 4609434218613702656 (by omega) (by omega) (by omega) W
    rw [has_at.1] at k
    exact k
  · have k := shas 4607182418800017408 4611686018427387904 4613937818241073152 (by omega) (by omega) (by omega) W
    rw [has_at.2] at k
    exact k
end Go.Proofs.YtcoclopllbfjcaaGreatDoor
/- The document's ends. -/
namespace Go.Proofs.YtcoclopllbfjcaaGreatDoor
set_option linter.unusedVariables false
set_option linter.unusedSimpArgs false
open Go.RowKit Go.Fl64
attribute [local go_sem] run_store_flt

/-- a box of an end: its cells, and that they can be written -/
def EnB (W : World) (g : Nat) (a b c d : Value) : Prop := W.heap[g]? = some (.cells #[a, b, c, d] 61 (0, 0))
theorem EnB.facts {W : World} {g : Nat} {a b c d : Value} (h : EnB W g a b c d) : (W.cell? ⟨g, 0, none⟩ = some a ∧ W.cell? ⟨g, 1, none⟩ = some b ∧ W.cell? ⟨g, 2, none⟩ = some c ∧ W.cell? ⟨g, 3, none⟩ = some d) ∧ (W.frozen? ⟨g, 0, none⟩ = false ∧ W.frozen? ⟨g, 1, none⟩ = false ∧ W.frozen? ⟨g, 2, none⟩ = false ∧ W.frozen? ⟨g, 3, none⟩ = false) := by
  unfold EnB at h
  simp [World.cell?, World.frozen?, h]
theorem EnB.lt {W : World} {g : Nat} {a b c d : Value} (h : EnB W g a b c d) : g < W.heap.size := lt_of_box h
theorem EnB.box {W w' : World} {g : Nat} {a b c d : Value} (h : EnB W g a b c d) (hb : Below W.heap.size W w') : EnB w' g a b c d := box_later h hb h.lt
theorem EnB.new (w : World) (a b c d : Value) : EnB (w.alloc (.cells #[a, b, c, d] 61)) w.heap.size a b c d := heap_alloc_new _ _
theorem EnB.alloc {W : World} {g : Nat} {a b c d : Value} (h : EnB W g a b c d) (o : Obj) : EnB (W.alloc o) g a b c d := h.box ((Below.refl _ _).alloc (Nat.le_refl _) _)
theorem EnB.set {W : World} {g : Nat} {a b c d : Value} (h : EnB W g a b c d) (a' b' c' d' : Value) : EnB ((((W.setCell ⟨g, 0, none⟩ a').setCell ⟨g, 1, none⟩ b').setCell ⟨g, 2, none⟩ c').setCell ⟨g, 3, none⟩ d') g a' b' c' d' := by
  unfold EnB at *
  simp [World.setCell, Array.getElem?_modify, h]
theorem below_store4 {B : Nat} {w w' : World} {g : Nat} (h : Below B w w') (hg : B ≤ g) (a b c d : Value) : Below B w ((((w'.setCell ⟨g, 0, none⟩ a).setCell ⟨g, 1, none⟩ b).setCell ⟨g, 2, none⟩ c).setCell ⟨g, 3, none⟩ d) :=
  (((h.setCell hg _).setCell hg _).setCell hg _).setCell hg _
/-- an end in memory: an infinity by its sign, or a number -/
def EN (w : World) (A : Value) (i : Int) (t : Bool × Nat × Int) : Prop := ∃ s ao n cap e, A = .agg #[.int .i64 i, .bool s, .slice ao n cap, .int .i64 e] ∧ DN w (.agg #[.bool s, .slice ao n cap, .int .i64 e]) t
theorem EN.later {w w' : World} {A : Value} {i : Int} {t : Bool × Nat × Int} (h : EN w A i t) (hb : Below w.heap.size w w') : EN w' A i t := by
  obtain ⟨s, ao, n, cap, e, h1, h2⟩ := h
  exact ⟨s, ao, n, cap, e, h1, h2.later hb⟩
/-- which infinity an end is; its number -/
def eI (f : Nat) : Int := if f = 9218868437227405312 then 1 else if f = 18442240474082181120 then -1 else 0
def eT (f : Nat) : Bool × Nat × Int := if eI f = 0 then tF f else (false, 0, 0)
end Go.Proofs.YtcoclopllbfjcaaGreatDoor
/- The document's ends: rounded, signed, turned, added. -/
namespace Go.Proofs.YtcoclopllbfjcaaGreatDoor
set_option linter.unusedVariables false
set_option linter.unusedSimpArgs false
open Go.RowKit Go.Fl64
attribute [local go_sem] run_store_flt

/-- a number turned -/
def tNeg (t : Bool × Nat × Int) : Bool × Nat × Int := if t.2.1 = 0 then (false, 0, 0) else (!t.1, t.2.1, t.2.2)
/-- an end rounded -/
def toD (t : Bool × Nat × Int) (m : Int) : Nat := if t.2.1 = 0 then 0 else tfF t.1 true t.2.1 t.2.2 m
def enF (i : Int) (t : Bool × Nat × Int) (m : Int) : Nat := if i = 0 then pl (toD t m) else if 0 < i then 9218868437227405312 else 18442240474082181120
theorem toD_lt {t : Bool × Nat × Int} {m : Int} (hm : 1 ≤ m ∧ m ≤ 3) : toD t m < 18446744073709551616 := by
  unfold toD
  split
  · omega
  · exact tfF_lt hm
theorem eI_cases (f : Nat) : eI f = -1 ∨ eI f = 0 ∨ eI f = 1 := by
  unfold eI
  split
  · exact .inr (.inr rfl)
  · split
    · exact .inl rfl
    · exact .inr (.inl rfl)
theorem eT_ok (f : Nat) : Ok (eT f) := by
  unfold eT
  split
  · exact tF_ok f
  · unfold Ok; rw [dlen_zero]; rfl
theorem tNeg_ok {t : Bool × Nat × Int} (o : Ok t) : Ok (tNeg t) := by
  unfold tNeg
  by_cases h0 : t.2.1 = 0
  · rw [if_pos h0]; unfold Ok; rw [dlen_zero]; rfl
  · rw [if_neg h0]
    have hd : dlen t.2.1 ≠ 0 := fun e => h0 (dlen_eq_zero.1 e)
    unfold Ok okN at o ⊢
    rw [if_neg hd] at o
    rw [if_neg hd]
    exact o
end Go.Proofs.YtcoclopllbfjcaaGreatDoor
/- The document's ends added; the tightest interval; Neg, Add, Sub. -/
namespace Go.Proofs.YtcoclopllbfjcaaGreatDoor
set_option linter.unusedVariables false
set_option linter.unusedSimpArgs false
open Go.RowKit Go.Fl64
attribute [local go_sem] run_store_flt

/-- two ends added -/
def plT (i j : Int) (t u : Bool × Nat × Int) : Bool × Nat × Int := if i + j = 0 then tS t u else (false, 0, 0)
end Go.Proofs.YtcoclopllbfjcaaGreatDoor
/- Several values made at once and put into boxes, which hold their zero value till then. -/
namespace Go.Proofs.YtcoclopllbfjcaaGreatDoor
set_option linter.unusedVariables false
set_option linter.unusedSimpArgs false
open Go.RowKit

end Go.Proofs.YtcoclopllbfjcaaGreatDoor
/- The ends of several floats at once: x, y := end(a.Lo), end(a.Hi). -/
namespace Go.Proofs.YtcoclopllbfjcaaGreatDoor
set_option linter.unusedVariables false
set_option linter.unusedSimpArgs false
open Go.RowKit Go.Fl64

theorem at_row {W : World} {ao : Option Addr} {n z g : Nat} (h : At W ao n z) (hE : EnB W g (.int .i64 0) (.bool false) (.slice none 0 0) (.int .i64 0)) (cs : Array Value) : At (W.setRow g cs) ao n z := by
  obtain ⟨bb, o, h1, h2⟩ := h
  refine ⟨bb, o, h1, fun i hi => ?_⟩
  have hc := h2 i hi
  have hne : bb ≠ g := by
    rintro rfl
    unfold EnB at hE
    simp only [World.cell?, hE] at hc
    rcases (show o + i = 0 ∨ o + i = 1 ∨ o + i = 2 ∨ o + i = 3 ∨ 4 ≤ o + i by omega) with e | e | e | e | e
    · rw [e] at hc; simp at hc
    · rw [e] at hc; simp at hc
    · rw [e] at hc; simp at hc
    · rw [e] at hc; simp at hc
    · rw [Array.getElem?_eq_none (by simpa using e)] at hc; cases hc
  have hs := setRow_other W g bb cs hne
  unfold World.cell? at hc ⊢
  rw [hs]
  exact hc
theorem EN.row {W : World} {A : Value} {i : Int} {t : Bool × Nat × Int} {g : Nat} (h : EN W A i t) (hE : EnB W g (.int .i64 0) (.bool false) (.slice none 0 0) (.int .i64 0)) (cs : Array Value) : EN (W.setRow g cs) A i t := by
  obtain ⟨s, ao, n, cap, e, h1, ao', cap', h2, h3⟩ := h
  exact ⟨s, ao, n, cap, e, h1, ao', cap', h2, h3.nil, at_row h3.at_ hE cs, h3.le, h3.small⟩
end Go.Proofs.YtcoclopllbfjcaaGreatDoor
/- The document's order of ends, and Abs. -/
namespace Go.Proofs.YtcoclopllbfjcaaGreatDoor
set_option linter.unusedVariables false
set_option linter.unusedSimpArgs false
open Go.RowKit Go.Fl64
attribute [local go_sem] run_store_flt

/-- the sign of an end -/
def sgE (i : Int) (t : Bool × Nat × Int) : Int := if i = 0 then (if t.2.1 = 0 then 0 else if t.1 then -1 else 1) else i
end Go.Proofs.YtcoclopllbfjcaaGreatDoor
/- The document's Neg, Add, Sub. -/
namespace Go.Proofs.YtcoclopllbfjcaaGreatDoor
set_option linter.unusedVariables false
set_option linter.unusedSimpArgs false
open Go.RowKit Go.Fl64
attribute [local go_sem] run_store_flt

theorem eI_b (f : Nat) : -1 ≤ eI f ∧ eI f ≤ 1 := by
  rcases eI_cases f with h | h | h <;> rw [h] <;> omega
end Go.Proofs.YtcoclopllbfjcaaGreatDoor
/- The document's Abs. -/
namespace Go.Proofs.YtcoclopllbfjcaaGreatDoor
set_option linter.unusedVariables false
set_option linter.unusedSimpArgs false
open Go.RowKit Go.Fl64
attribute [local go_sem] run_store_flt

theorem enF_0 (m : Int) : enF 0 (false, 0, 0) m = 0 := by unfold enF toD; rfl
end Go.Proofs.YtcoclopllbfjcaaGreatDoor
/- The sums of span. -/
namespace Go.Proofs.YtcoclopllbfjcaaGreatDoor
set_option linter.unusedVariables false
set_option linter.unusedSimpArgs false
open Go.RowKit Go.Fl64
attribute [local go_sem] run_store_flt

set_option maxHeartbeats 4000000 in
set_option maxRecDepth 200000 in
theorem sadd_1 (a b c d x y : Nat) (v : Bool) (w : World)
    (k0 : ∀ W g T, W.heap[g]? = some (.cells #[.float .f64 a, .float .f64 b, .float .f64 c, .float .f64 d] T (0, 0)) → Calls Tryz.prog 33 #[.slice (some ⟨g, 0, none⟩) 2 2] W fun r w' => r = .returned (.bool v) ∧ Below W.heap.size W w')
    (k1 : v = true → ∀ W, Below w.heap.size w W → Calls Tryz.prog 61 #[.agg #[.float .f64 a, .float .f64 b], .agg #[.float .f64 c, .float .f64 d]] W fun r w' => r = .returned (.agg #[.float .f64 x, .float .f64 y]) ∧ Below W.heap.size W w') :
    Calls Tryz.prog 20 #[.agg #[.float .f64 a, .float .f64 b], .agg #[.float .f64 c, .float .f64 d]] w fun r w' => r = .returned (orV v x y (.int .i64 0) (.int .i64 1)) ∧ Below w.heap.size w w' := by
  have H0 : Hid (∀ W g T, W.heap[g]? = some (.cells #[.float .f64 a, .float .f64 b, .float .f64 c, .float .f64 d] T (0, 0)) → Calls Tryz.prog 33 #[.slice (some ⟨g, 0, none⟩) 2 2] W fun r w' => r = .returned (.bool v) ∧ Below W.heap.size W w') := k0
  have H1 : Hid (v = true → ∀ W, Below w.heap.size w W → Calls Tryz.prog 61 #[.agg #[.float .f64 a, .float .f64 b], .agg #[.float .f64 c, .float .f64 d]] W fun r w' => r = .returned (.agg #[.float .f64 x, .float .f64 y]) ∧ Below W.heap.size W w') := k1
  obtain ⟨W, hW⟩ : ∃ W, W = (((w.alloc (.cells #[.float .f64 a, .float .f64 b] 24)).alloc (.cells #[.float .f64 c, .float .f64 d] 24)).alloc (.cells #[.float .f64 0, .float .f64 0] 24)) := ⟨_, rfl⟩
  have HX : Hid (Below w.heap.size w W ∧ IvB W (w.heap.size) a b ∧ IvB W (w.heap.size + 1) c d ∧ IvB W (w.heap.size + 1 + 1) 0 0) := by
    rw [hW]
    exact ⟨bxs3_0 w a b c d 0 0, bxs3_1 w a b c d 0 0, bxs3_2 w a b c d 0 0, bxs3_3 w a b c d 0 0⟩
  have HK : Hid (∀ w', Below W.heap.size W w' → IvF w' (w.heap.size) a b ∧ IvF w' (w.heap.size + 1) c d ∧ IvF w' (w.heap.size + 1 + 1) 0 0) := fun w' hb => ⟨(HX.out.2.1).later hb, (HX.out.2.2.1).later hb, (HX.out.2.2.2).later hb⟩
  obtain ⟨⟨c0, c1, z0, z1⟩, ⟨c2, c3, z2, z3⟩, ⟨c4, c5, z4, z5⟩⟩ := HK.out W (Below.refl _ _)
  have kk := H0.out (W.alloc (.cells #[.float .f64 a, .float .f64 b, .float .f64 c, .float .f64 d] 24)) W.heap.size _ (heap_alloc_new _ _)
  clear k0 k1 H0
  go_enter Tryz.func20, Tryz.ntmps20
  go_upto_region 1 with fail
  rw [← hW]
  clear hW
  go_wp2_with fail
  refine kk.mono ?_
  rintro r w0 ⟨rfl, hb1⟩
  clear kk
  have hb2 : Below W.heap.size W w0 := ((Below.refl _ _).alloc (Nat.le_refl _) _).trans (hb1.mono (by simp))
  clear c0 z0 c1 z1 c2 z2 c3 z3 c4 z4 c5 z5
  obtain ⟨⟨c0, c1, z0, z1⟩, ⟨c2, c3, z2, z3⟩, ⟨c4, c5, z4, z5⟩⟩ := HK.out w0 hb2
  cases v
  · have HB : Hid (Below w.heap.size w w0) := HX.out.1.trans (hb2.mono HX.out.1.size)
    have HR : Hid (IvB w0 (w.heap.size + 1 + 1) 0 0) := HX.out.2.2.2.box hb2
    clear hb1 hb2 HK HX H1
    go_wp2
    refine bodyPost_ret (results_cell_tmp_row rfl _ _ (w.heap.size + 1 + 1) 24 #[.float .f64 0, .float .f64 0] (0, 0) _ rfl (HR.out.set _ _) Tryz.underlying24 rfl iv_info) rfl ?_
    exact ⟨rfl, below_store2 HB.out (by omega) _ _⟩
  have HB0 : Hid (Below W.heap.size W w0) := hb2
  clear hb1 hb2
  have kk := H1.out (by simp) w0 (HX.out.1.trans (HB0.out.mono HX.out.1.size))
  clear H1
  go_wp2_with fail
  refine kk.mono ?_
  rintro r w1 ⟨rfl, hb2⟩
  have HB1 : Hid (Below W.heap.size W w1) := HB0.out.trans (hb2.mono HB0.out.size)
  clear hb2 kk HB0
  clear c0 z0 c1 z1 c2 z2 c3 z3 c4 z4 c5 z5
  obtain ⟨⟨c0, c1, z0, z1⟩, ⟨c2, c3, z2, z3⟩, ⟨c4, c5, z4, z5⟩⟩ := HK.out w1 HB1.out
  have HB : Hid (Below w.heap.size w w1) := HX.out.1.trans (HB1.out.mono HX.out.1.size)
  have HR : Hid (IvB w1 (w.heap.size + 1 + 1) 0 0) := HX.out.2.2.2.box HB1.out
  clear HK HX HB1
  go_wp2
  refine bodyPost_ret (results_cell_tmp_row rfl _ _ (w.heap.size + 1 + 1) 24 #[.float .f64 x, .float .f64 y] (0, 0) _ rfl (HR.out.set _ _) Tryz.underlying24 rfl iv_info) rfl ?_
  exact ⟨rfl, below_store2 HB.out (by omega) _ _⟩
set_option maxHeartbeats 4000000 in
set_option maxRecDepth 200000 in
theorem ssub_1 (a b c d u2 v2 x y : Nat) (v : Bool) (w : World)
    (k0 : ∀ W g T, W.heap[g]? = some (.cells #[.float .f64 a, .float .f64 b, .float .f64 c, .float .f64 d] T (0, 0)) → Calls Tryz.prog 33 #[.slice (some ⟨g, 0, none⟩) 2 2] W fun r w' => r = .returned (.bool v) ∧ Below W.heap.size W w')
    (k1 : v = true → ∀ W, Below w.heap.size w W → Calls Tryz.prog 65 #[.agg #[.float .f64 c, .float .f64 d]] W fun r w' => r = .returned (.agg #[.float .f64 u2, .float .f64 v2]) ∧ Below W.heap.size W w')
    (k2 : v = true → ∀ W, Below w.heap.size w W → Calls Tryz.prog 61 #[.agg #[.float .f64 a, .float .f64 b], .agg #[.float .f64 u2, .float .f64 v2]] W fun r w' => r = .returned (.agg #[.float .f64 x, .float .f64 y]) ∧ Below W.heap.size W w') :
    Calls Tryz.prog 24 #[.agg #[.float .f64 a, .float .f64 b], .agg #[.float .f64 c, .float .f64 d]] w fun r w' => r = .returned (orV v x y (.int .i64 0) (.int .i64 1)) ∧ Below w.heap.size w w' := by
  have H0 : Hid (∀ W g T, W.heap[g]? = some (.cells #[.float .f64 a, .float .f64 b, .float .f64 c, .float .f64 d] T (0, 0)) → Calls Tryz.prog 33 #[.slice (some ⟨g, 0, none⟩) 2 2] W fun r w' => r = .returned (.bool v) ∧ Below W.heap.size W w') := k0
  have H1 : Hid (v = true → ∀ W, Below w.heap.size w W → Calls Tryz.prog 65 #[.agg #[.float .f64 c, .float .f64 d]] W fun r w' => r = .returned (.agg #[.float .f64 u2, .float .f64 v2]) ∧ Below W.heap.size W w') := k1
  have H2 : Hid (v = true → ∀ W, Below w.heap.size w W → Calls Tryz.prog 61 #[.agg #[.float .f64 a, .float .f64 b], .agg #[.float .f64 u2, .float .f64 v2]] W fun r w' => r = .returned (.agg #[.float .f64 x, .float .f64 y]) ∧ Below W.heap.size W w') := k2
  obtain ⟨W, hW⟩ : ∃ W, W = (((w.alloc (.cells #[.float .f64 a, .float .f64 b] 24)).alloc (.cells #[.float .f64 c, .float .f64 d] 24)).alloc (.cells #[.float .f64 0, .float .f64 0] 24)) := ⟨_, rfl⟩
  have HX : Hid (Below w.heap.size w W ∧ IvB W (w.heap.size) a b ∧ IvB W (w.heap.size + 1) c d ∧ IvB W (w.heap.size + 1 + 1) 0 0) := by
    rw [hW]
    exact ⟨bxs3_0 w a b c d 0 0, bxs3_1 w a b c d 0 0, bxs3_2 w a b c d 0 0, bxs3_3 w a b c d 0 0⟩
  have HK : Hid (∀ w', Below W.heap.size W w' → IvF w' (w.heap.size) a b ∧ IvF w' (w.heap.size + 1) c d ∧ IvF w' (w.heap.size + 1 + 1) 0 0) := fun w' hb => ⟨(HX.out.2.1).later hb, (HX.out.2.2.1).later hb, (HX.out.2.2.2).later hb⟩
  obtain ⟨⟨c0, c1, z0, z1⟩, ⟨c2, c3, z2, z3⟩, ⟨c4, c5, z4, z5⟩⟩ := HK.out W (Below.refl _ _)
  have kk := H0.out (W.alloc (.cells #[.float .f64 a, .float .f64 b, .float .f64 c, .float .f64 d] 24)) W.heap.size _ (heap_alloc_new _ _)
  clear k0 k1 k2 H0
  go_enter Tryz.func24, Tryz.ntmps24
  go_upto_region 1 with fail
  rw [← hW]
  clear hW
  go_wp2_with fail
  refine kk.mono ?_
  rintro r w0 ⟨rfl, hb1⟩
  clear kk
  have hb2 : Below W.heap.size W w0 := ((Below.refl _ _).alloc (Nat.le_refl _) _).trans (hb1.mono (by simp))
  clear c0 c1 c2 c3 c4 c5 z0 z1 z2 z3 z4 z5
  obtain ⟨⟨c0, c1, z0, z1⟩, ⟨c2, c3, z2, z3⟩, ⟨c4, c5, z4, z5⟩⟩ := HK.out w0 hb2
  cases v
  · have HB : Hid (Below w.heap.size w w0) := HX.out.1.trans (hb2.mono HX.out.1.size)
    have HR : Hid (IvB w0 (w.heap.size + 1 + 1) 0 0) := HX.out.2.2.2.box hb2
    clear hb1 hb2 HK HX H1 H2
    go_wp2
    refine bodyPost_ret (results_cell_tmp_row rfl _ _ (w.heap.size + 1 + 1) 24 #[.float .f64 0, .float .f64 0] (0, 0) _ rfl (HR.out.set _ _) Tryz.underlying24 rfl iv_info) rfl ?_
    exact ⟨rfl, below_store2 HB.out (by omega) _ _⟩
  have HKK : Hid (∀ w', Below W.heap.size W w' → (w'.cell? ⟨w.heap.size, 0, none⟩ = some (.float .f64 a) ∧ w'.cell? ⟨w.heap.size, 1, none⟩ = some (.float .f64 b)) ∧ (w'.cell? ⟨w.heap.size + 1, 0, none⟩ = some (.float .f64 c) ∧ w'.cell? ⟨w.heap.size + 1, 1, none⟩ = some (.float .f64 d))) := fun w' hb => ⟨⟨(HK.out w' hb).1.1, (HK.out w' hb).1.2.1⟩, (HK.out w' hb).2.1.1, (HK.out w' hb).2.1.2.1⟩
  have hR : Below W.heap.size W w0.drew := hb2.drew
  have q1 : ∀ W', Below W.heap.size W W' → Calls Tryz.prog 65 #[.agg #[.float .f64 c, .float .f64 d]] W' fun r w' => r = .returned (.agg #[.float .f64 u2, .float .f64 v2]) ∧ Below W.heap.size W w' := fun W' h => (H1.out (by simp) W' (HX.out.1.trans (h.mono HX.out.1.size))).mono fun r w' ⟨e1, e2⟩ => ⟨e1, h.trans (e2.mono h.size)⟩
  have q2 : ∀ W', Below W.heap.size W W' → Calls Tryz.prog 61 #[.agg #[.float .f64 a, .float .f64 b], .agg #[.float .f64 u2, .float .f64 v2]] W' fun r w' => r = .returned (.agg #[.float .f64 x, .float .f64 y]) ∧ Below W.heap.size W w' ∧ (w'.cell? ⟨w.heap.size + 1 + 1, 0, none⟩ = some (.float .f64 0) ∧ w'.cell? ⟨w.heap.size + 1 + 1, 1, none⟩ = some (.float .f64 0) ∧ w'.frozen? ⟨w.heap.size + 1 + 1, 0, none⟩ = false ∧ w'.frozen? ⟨w.heap.size + 1 + 1, 1, none⟩ = false) := fun W' h => (H2.out (by simp) W' (HX.out.1.trans (h.mono HX.out.1.size))).mono fun r w' ⟨e1, e2⟩ => ⟨e1, h.trans (e2.mono h.size), (HK.out w' (h.trans (e2.mono h.size))).2.2⟩
  clear H1 H2
  go_upto_region 3 with fail
  go_region_held3 (fun w' => (w'.cell? ⟨w.heap.size, 0, none⟩ = some (.float .f64 a) ∧ w'.cell? ⟨w.heap.size, 1, none⟩ = some (.float .f64 b)) ∧ (w'.cell? ⟨w.heap.size + 1, 0, none⟩ = some (.float .f64 c) ∧ w'.cell? ⟨w.heap.size + 1, 1, none⟩ = some (.float .f64 d))) (first | (with_reducible assumption) | (with_reducible exact HKK.out _ hR) | (with_reducible exact HKK.out _ hb2) | (with_reducible refine HKK.out _ ?_; with_reducible assumption) | (refine ⟨⟨?_, ?_⟩, ?_, ?_⟩ <;> (change World.cell? (World.setCell (World.setCell _ _ _) _ _) _ = _; rw [World.cell?_setCell_other _ _ _ _ (by first | (simp; done) | (simp; omega)), World.cell?_setCell_other _ _ _ _ (by first | (simp; done) | (simp; omega))]; first | exact (HKK.out _ hb7).1.1 | exact (HKK.out _ hb7).1.2 | exact (HKK.out _ hb7).2.1 | exact (HKK.out _ hb7).2.2)) | go_keep)
    (first | (go_at_call 65; with_reducible refine (q1 _ (by first | (with_reducible assumption) | exact hR)).mono ?_; rintro r w6 ⟨rfl, hb6⟩)
           | (go_at_call 61; with_reducible refine (q2 _ (by first | (with_reducible assumption) | exact hR)).mono ?_; rintro r w7 ⟨rfl, hb7, x0, x1, x2, x3⟩))
  have HB : Hid (Below w.heap.size w w7) := HX.out.1.trans (hb7.mono HX.out.1.size)
  have HR : Hid (IvB w7 (w.heap.size + 1 + 1) 0 0) := HX.out.2.2.2.box hb7
  clear q1 q2 HKK HK HX hR hb7 x0 x1 x2 x3 c0 c1 c2 c3
  go_wp2_with fail
  refine bodyPost_ret (results_cell_tmp_row rfl _ _ (w.heap.size + 1 + 1) 24 #[.float .f64 x, .float .f64 y] (0, 0) _ rfl (HR.out.set _ _) Tryz.underlying24 rfl iv_info) rfl ?_
  first | exact ⟨rfl, below_store2 HB.out (by omega) _ _⟩ | exact ⟨rfl, (below_store2 HB.out (by omega) _ _).drew⟩
set_option maxHeartbeats 4000000 in
set_option maxRecDepth 200000 in
theorem sneg_1 (a b x y : Nat) (v : Bool) (w : World)
    (k0 : ∀ W, Calls Tryz.prog 52 #[.agg #[.float .f64 a, .float .f64 b]] W fun r w' => r = .returned (.bool v) ∧ Below W.heap.size W w')
    (k1 : v = true → ∀ W, Below w.heap.size w W → Calls Tryz.prog 65 #[.agg #[.float .f64 a, .float .f64 b]] W fun r w' => r = .returned (.agg #[.float .f64 x, .float .f64 y]) ∧ Below W.heap.size W w') :
    Calls Tryz.prog 29 #[.agg #[.float .f64 a, .float .f64 b]] w fun r w' => r = .returned (orV v x y (.int .i64 0) (.int .i64 1)) ∧ Below w.heap.size w w' := by
  have H0 : Hid (∀ W, Calls Tryz.prog 52 #[.agg #[.float .f64 a, .float .f64 b]] W fun r w' => r = .returned (.bool v) ∧ Below W.heap.size W w') := k0
  have H1 : Hid (v = true → ∀ W, Below w.heap.size w W → Calls Tryz.prog 65 #[.agg #[.float .f64 a, .float .f64 b]] W fun r w' => r = .returned (.agg #[.float .f64 x, .float .f64 y]) ∧ Below W.heap.size W w') := k1
  obtain ⟨W, hW⟩ : ∃ W, W = ((w.alloc (.cells #[.float .f64 a, .float .f64 b] 24)).alloc (.cells #[.float .f64 0, .float .f64 0] 24)) := ⟨_, rfl⟩
  have HX : Hid (Below w.heap.size w W ∧ IvB W (w.heap.size) a b ∧ IvB W (w.heap.size + 1) 0 0) := by
    rw [hW]
    exact ⟨bxs2_0 w a b 0 0, bxs2_1 w a b 0 0, bxs2_2 w a b 0 0⟩
  have HK : Hid (∀ w', Below W.heap.size W w' → IvF w' (w.heap.size) a b ∧ IvF w' (w.heap.size + 1) 0 0) := fun w' hb => ⟨(HX.out.2.1).later hb, (HX.out.2.2).later hb⟩
  obtain ⟨⟨c0, c1, z0, z1⟩, ⟨c2, c3, z2, z3⟩⟩ := HK.out W (Below.refl _ _)
  have kk := H0.out W
  clear k0 k1 H0
  go_enter Tryz.func29, Tryz.ntmps29
  go_upto_region 1 with fail
  rw [← hW]
  clear hW
  go_wp2_with fail
  refine kk.mono ?_
  rintro r w0 ⟨rfl, hb1⟩
  clear kk
  have hb2 : Below W.heap.size W w0 := hb1
  clear c0 z0 c1 z1 c2 z2 c3 z3
  obtain ⟨⟨c0, c1, z0, z1⟩, ⟨c2, c3, z2, z3⟩⟩ := HK.out w0 hb2
  cases v
  · have HB : Hid (Below w.heap.size w w0) := HX.out.1.trans (hb2.mono HX.out.1.size)
    have HR : Hid (IvB w0 (w.heap.size + 1) 0 0) := HX.out.2.2.box hb2
    clear hb1 hb2 HK HX H1
    go_wp2
    refine bodyPost_ret (results_cell_tmp_row rfl _ _ (w.heap.size + 1) 24 #[.float .f64 0, .float .f64 0] (0, 0) _ rfl (HR.out.set _ _) Tryz.underlying24 rfl iv_info) rfl ?_
    exact ⟨rfl, below_store2 HB.out (by omega) _ _⟩
  have HB0 : Hid (Below W.heap.size W w0) := hb2
  clear hb1 hb2
  have kk := H1.out (by simp) w0 (HX.out.1.trans (HB0.out.mono HX.out.1.size))
  clear H1
  go_wp2_with fail
  refine kk.mono ?_
  rintro r w1 ⟨rfl, hb2⟩
  have HB1 : Hid (Below W.heap.size W w1) := HB0.out.trans (hb2.mono HB0.out.size)
  clear hb2 kk HB0
  clear c0 z0 c1 z1 c2 z2 c3 z3
  obtain ⟨⟨c0, c1, z0, z1⟩, ⟨c2, c3, z2, z3⟩⟩ := HK.out w1 HB1.out
  have HB : Hid (Below w.heap.size w w1) := HX.out.1.trans (HB1.out.mono HX.out.1.size)
  have HR : Hid (IvB w1 (w.heap.size + 1) 0 0) := HX.out.2.2.box HB1.out
  clear HK HX HB1
  go_wp2
  refine bodyPost_ret (results_cell_tmp_row rfl _ _ (w.heap.size + 1) 24 #[.float .f64 x, .float .f64 y] (0, 0) _ rfl (HR.out.set _ _) Tryz.underlying24 rfl iv_info) rfl ?_
  exact ⟨rfl, below_store2 HB.out (by omega) _ _⟩
set_option maxHeartbeats 4000000 in
theorem sturned (a b : Nat) (w : World) (ha : a < 18446744073709551616) (hb : b < 18446744073709551616) :
    Calls Tryz.prog 65 #[.agg #[.float .f64 a, .float .f64 b]] w fun r w' => r = .returned (.agg #[.float .f64 (pl (ngt b)), .float .f64 (pl (ngt a))]) ∧ Below w.heap.size w w' := by
  have n1 : ∀ w, (Op.unary UnOp.neg (.float .f64 a)).run Tryz.prog w = .ok (.float .f64 (ngt a)) w := fun w => by rw [← negF a ha]; rfl
  have n2 : ∀ w, (Op.unary UnOp.neg (.float .f64 b)).run Tryz.prog w = .ok (.float .f64 (ngt b)) w := fun w => by rw [← negF b hb]; rfl
  have k := fun W => sbetween (ngt b) (ngt a) W (ngt_lt hb) (ngt_lt ha)
  generalize pl (ngt a) = A at *
  generalize pl (ngt b) = C at *
  obtain ⟨W, hW⟩ : ∃ W, W = ((w.alloc (.cells #[.float .f64 a, .float .f64 b] 24)).alloc (.cells #[.float .f64 0, .float .f64 0] 24)) := ⟨_, rfl⟩
  have HX : Hid (Below w.heap.size w W ∧ IvB W (w.heap.size) a b ∧ IvB W (w.heap.size + 1) 0 0) := by
    rw [hW]
    exact ⟨bxs2_0 w a b 0 0, bxs2_1 w a b 0 0, bxs2_2 w a b 0 0⟩
  have HK : Hid (∀ w', Below W.heap.size W w' → IvF w' (w.heap.size) a b ∧ IvF w' (w.heap.size + 1) 0 0) := fun w' hb => ⟨(HX.out.2.1).later hb, (HX.out.2.2).later hb⟩
  obtain ⟨⟨c0, c1, z0, z1⟩, ⟨c2, c3, z2, z3⟩⟩ := HK.out W (Below.refl _ _)
  have kk := k W
  clear k ha hb
  go_enter Tryz.func65, Tryz.ntmps65
  go_upto_region 1 with fail
  rw [← hW]
  clear hW
  go_wp2_with fail
  refine kk.mono ?_
  rintro r w1 ⟨rfl, hb1⟩
  clear kk c0 c1 c2 c3 z0 z1 z2 z3
  obtain ⟨⟨c0, c1, z0, z1⟩, ⟨c2, c3, z2, z3⟩⟩ := HK.out w1 hb1
  have HB : Hid (Below w.heap.size w w1) := HX.out.1.trans (hb1.mono HX.out.1.size)
  have HR : Hid (IvB w1 (w.heap.size + 1) 0 0) := HX.out.2.2.box hb1
  clear hb1 HK HX n1 n2
  go_wp2
  refine bodyPost_ret (results_cell_row rfl _ _ (w.heap.size + 1) 24 #[.float .f64 C, .float .f64 A] (0, 0) _ rfl (HR.out.set _ _) Tryz.underlying24 rfl iv_info) rfl ?_
  exact ⟨rfl, below_store2 HB.out (by omega) _ _⟩
set_option maxHeartbeats 4000000 in
theorem smag_1 (a b x y m : Nat) (p q : Bool) (w : World) (o1 : (FloatKind.f64.format.order a 0 == some Ordering.gt || FloatKind.f64.format.order a 0 == some Ordering.eq) = p) (o2 : (FloatKind.f64.format.order b 0 == some Ordering.lt || FloatKind.f64.format.order b 0 == some Ordering.eq) = q)
    (n1 : ∀ w, (Op.unary UnOp.neg (.float .f64 a)).run Tryz.prog w = .ok (.float .f64 (ngt a)) w)
    (hm : p = false → q = false → ∀ W ts t, (Builtin.max_ ts t #[.float .f64 (ngt a), .float .f64 b]).run Tryz.prog W = .ok (.float .f64 m) W)
    (k : ∀ W, Calls Tryz.prog 65 #[.agg #[.float .f64 a, .float .f64 b]] W fun r w' => r = .returned (.agg #[.float .f64 x, .float .f64 y]) ∧ Below W.heap.size W w') :
    Calls Tryz.prog 53 #[.agg #[.float .f64 a, .float .f64 b]] w fun r w' => r = .returned (if p then .agg #[.float .f64 a, .float .f64 b] else if q then .agg #[.float .f64 x, .float .f64 y] else .agg #[.float .f64 0, .float .f64 m]) ∧ Below w.heap.size w w' := by
  generalize hR : (if p then .agg #[.float .f64 a, .float .f64 b] else if q then .agg #[.float .f64 x, .float .f64 y] else .agg #[.float .f64 0, .float .f64 m] : Value) = R
  have HRV : Hid ((if p then .agg #[.float .f64 a, .float .f64 b] else if q then .agg #[.float .f64 x, .float .f64 y] else .agg #[.float .f64 0, .float .f64 m] : Value) = R) := hR
  clear hR
  have HM : Hid (p = false → q = false → ∀ W ts t, (Builtin.max_ ts t #[.float .f64 (ngt a), .float .f64 b]).run Tryz.prog W = .ok (.float .f64 m) W) := hm
  obtain ⟨W, hW⟩ : ∃ W, W = ((w.alloc (.cells #[.float .f64 a, .float .f64 b] 24)).alloc (.cells #[.float .f64 0, .float .f64 0] 24)) := ⟨_, rfl⟩
  have HX : Hid (Below w.heap.size w W ∧ IvB W (w.heap.size) a b ∧ IvB W (w.heap.size + 1) 0 0) := by
    rw [hW]
    exact ⟨bxs2_0 w a b 0 0, bxs2_1 w a b 0 0, bxs2_2 w a b 0 0⟩
  have HK : Hid (∀ w', Below W.heap.size W w' → IvF w' (w.heap.size) a b ∧ IvF w' (w.heap.size + 1) 0 0) := fun w' hb => ⟨(HX.out.2.1).later hb, (HX.out.2.2).later hb⟩
  obtain ⟨⟨c0, c1, z0, z1⟩, ⟨c2, c3, z2, z3⟩⟩ := HK.out W (Below.refl _ _)
  have kk := k W
  clear k hm
  go_enter Tryz.func53, Tryz.ntmps53
  go_upto_region 1 with fail
  rw [← hW]
  clear hW
  cases p
  · cases q
    · have hm := HM.out rfl rfl
      have HR : Hid (IvB W (w.heap.size + 1) 0 0) := HX.out.2.2
      go_wp2
      refine bodyPost_ret (results_cell_row rfl _ _ (w.heap.size + 1) 24 #[.float .f64 0, .float .f64 m] (0, 0) _ rfl (HR.out.set _ _) Tryz.underlying24 rfl iv_info) rfl ?_
      exact ⟨congrArg Ending.returned HRV.out, below_store2 HX.out.1 (by omega) _ _⟩
    · clear HM
      go_wp2_with fail
      refine kk.mono ?_
      rintro r w1 ⟨rfl, hb1⟩
      clear kk c0 c1 c2 c3 z0 z1 z2 z3
      obtain ⟨⟨c0, c1, z0, z1⟩, ⟨c2, c3, z2, z3⟩⟩ := HK.out w1 hb1
      have HB : Hid (Below w.heap.size w w1) := HX.out.1.trans (hb1.mono HX.out.1.size)
      have HR : Hid (IvB w1 (w.heap.size + 1) 0 0) := HX.out.2.2.box hb1
      clear hb1 HK HX
      go_wp2
      refine bodyPost_ret (results_cell_row rfl _ _ (w.heap.size + 1) 24 #[.float .f64 x, .float .f64 y] (0, 0) _ rfl (HR.out.set _ _) Tryz.underlying24 rfl iv_info) rfl ?_
      exact ⟨congrArg Ending.returned HRV.out, below_store2 HB.out (by omega) _ _⟩
  · clear HM
    have HR : Hid (IvB W (w.heap.size + 1) 0 0) := HX.out.2.2
    go_wp2
    refine bodyPost_ret (results_cell_row rfl _ _ (w.heap.size + 1) 24 #[.float .f64 a, .float .f64 b] (0, 0) _ rfl (HR.out.set _ _) Tryz.underlying24 rfl iv_info) rfl ?_
    exact ⟨congrArg Ending.returned HRV.out, below_store2 HX.out.1 (by omega) _ _⟩
set_option maxHeartbeats 4000000 in
set_option maxRecDepth 200000 in
theorem sadded_1 (a b c d p q x y : Nat) (w : World)
    (k1 : ∀ W, Below w.heap.size w W → Calls Tryz.prog 110 #[.float .f64 a, .float .f64 c, .int .i64 1] W fun r w' => r = .returned (.float .f64 p) ∧ Below W.heap.size W w')
    (k2 : ∀ W, Below w.heap.size w W → Calls Tryz.prog 110 #[.float .f64 b, .float .f64 d, .int .i64 3] W fun r w' => r = .returned (.float .f64 q) ∧ Below W.heap.size W w')
    (k3 : ∀ W, Below w.heap.size w W → Calls Tryz.prog 54 #[.float .f64 p, .float .f64 q] W fun r w' => r = .returned (.agg #[.float .f64 x, .float .f64 y]) ∧ Below W.heap.size W w') :
    Calls Tryz.prog 61 #[.agg #[.float .f64 a, .float .f64 b], .agg #[.float .f64 c, .float .f64 d]] w fun r w' => r = .returned (.agg #[.float .f64 x, .float .f64 y]) ∧ Below w.heap.size w w' := by
  obtain ⟨W, hW⟩ : ∃ W, W = (((w.alloc (.cells #[.float .f64 a, .float .f64 b] 24)).alloc (.cells #[.float .f64 c, .float .f64 d] 24)).alloc (.cells #[.float .f64 0, .float .f64 0] 24)) := ⟨_, rfl⟩
  have HX : Hid (Below w.heap.size w W ∧ IvB W (w.heap.size) a b ∧ IvB W (w.heap.size + 1) c d ∧ IvB W (w.heap.size + 1 + 1) 0 0) := by
    rw [hW]
    exact ⟨bxs3_0 w a b c d 0 0, bxs3_1 w a b c d 0 0, bxs3_2 w a b c d 0 0, bxs3_3 w a b c d 0 0⟩
  have HK : Hid (∀ w', Below W.heap.size W w' → IvF w' (w.heap.size) a b ∧ IvF w' (w.heap.size + 1) c d ∧ IvF w' (w.heap.size + 1 + 1) 0 0) := fun w' hb => ⟨(HX.out.2.1).later hb, (HX.out.2.2.1).later hb, (HX.out.2.2.2).later hb⟩
  have HKK : Hid (∀ w', Below W.heap.size W w' → (w'.cell? ⟨w.heap.size, 0, none⟩ = some (.float .f64 a) ∧ w'.cell? ⟨w.heap.size, 1, none⟩ = some (.float .f64 b)) ∧ (w'.cell? ⟨w.heap.size + 1, 0, none⟩ = some (.float .f64 c) ∧ w'.cell? ⟨w.heap.size + 1, 1, none⟩ = some (.float .f64 d))) := fun w' hb => ⟨⟨(HK.out w' hb).1.1, (HK.out w' hb).1.2.1⟩, (HK.out w' hb).2.1.1, (HK.out w' hb).2.1.2.1⟩
  have hR : Below W.heap.size W W.drew := (Below.refl _ _).drew
  have q1 : ∀ W', Below W.heap.size W W' → Calls Tryz.prog 110 #[.float .f64 a, .float .f64 c, .int .i64 1] W' fun r w' => r = .returned (.float .f64 p) ∧ Below W.heap.size W w' := fun W' h => (k1 W' (HX.out.1.trans (h.mono HX.out.1.size))).mono fun r w' ⟨e1, e2⟩ => ⟨e1, h.trans (e2.mono h.size)⟩
  have q2 : ∀ W', Below W.heap.size W W' → Calls Tryz.prog 110 #[.float .f64 b, .float .f64 d, .int .i64 3] W' fun r w' => r = .returned (.float .f64 q) ∧ Below W.heap.size W w' := fun W' h => (k2 W' (HX.out.1.trans (h.mono HX.out.1.size))).mono fun r w' ⟨e1, e2⟩ => ⟨e1, h.trans (e2.mono h.size)⟩
  have q3 : ∀ W', Below W.heap.size W W' → Calls Tryz.prog 54 #[.float .f64 p, .float .f64 q] W' fun r w' => r = .returned (.agg #[.float .f64 x, .float .f64 y]) ∧ Below W.heap.size W w' ∧ (w'.cell? ⟨w.heap.size + 1 + 1, 0, none⟩ = some (.float .f64 0) ∧ w'.cell? ⟨w.heap.size + 1 + 1, 1, none⟩ = some (.float .f64 0) ∧ w'.frozen? ⟨w.heap.size + 1 + 1, 0, none⟩ = false ∧ w'.frozen? ⟨w.heap.size + 1 + 1, 1, none⟩ = false) := fun W' h => (k3 W' (HX.out.1.trans (h.mono HX.out.1.size))).mono fun r w' ⟨e1, e2⟩ => ⟨e1, h.trans (e2.mono h.size), (HK.out w' (h.trans (e2.mono h.size))).2.2⟩
  obtain ⟨⟨c0, c1⟩, c2, c3⟩ := HKK.out W (Below.refl _ _)
  clear k1 k2 k3
  go_enter Tryz.func61, Tryz.ntmps61
  go_upto_region 1 with fail
  rw [← hW]
  clear hW
  go_region_held3 (fun w' => (w'.cell? ⟨w.heap.size, 0, none⟩ = some (.float .f64 a) ∧ w'.cell? ⟨w.heap.size, 1, none⟩ = some (.float .f64 b)) ∧ (w'.cell? ⟨w.heap.size + 1, 0, none⟩ = some (.float .f64 c) ∧ w'.cell? ⟨w.heap.size + 1, 1, none⟩ = some (.float .f64 d))) (first | (with_reducible assumption) | exact HKK.out _ hR | (refine HKK.out _ ?_; with_reducible assumption) | (refine ⟨⟨?_, ?_⟩, ?_, ?_⟩ <;> (change World.cell? (World.setCell (World.setCell _ _ _) _ _) _ = _; rw [World.cell?_setCell_other _ _ _ _ (by first | (simp; done) | (simp; omega)), World.cell?_setCell_other _ _ _ _ (by first | (simp; done) | (simp; omega))]; first | exact (HKK.out _ hb7).1.1 | exact (HKK.out _ hb7).1.2 | exact (HKK.out _ hb7).2.1 | exact (HKK.out _ hb7).2.2)) | go_keep)
    (first | (go_at_call 110; with_reducible refine (q1 _ (by first | (with_reducible assumption) | exact hR)).mono ?_; rintro r w5 ⟨rfl, hb5⟩)
           | (go_at_call 110; with_reducible refine (q2 _ (by first | (with_reducible assumption) | exact hR)).mono ?_; rintro r w6 ⟨rfl, hb6⟩)
           | (go_at_call 54; with_reducible refine (q3 _ (by first | (with_reducible assumption) | exact hR)).mono ?_; rintro r w7 ⟨rfl, hb7, x0, x1, x2, x3⟩))
  have HB : Hid (Below w.heap.size w w7) := HX.out.1.trans (hb7.mono HX.out.1.size)
  have HR : Hid (IvB w7 (w.heap.size + 1 + 1) 0 0) := HX.out.2.2.2.box hb7
  clear q1 q2 q3 HKK HK HX hR hb7 x0 x1 x2 x3 c0 c1 c2 c3
  go_wp2_with fail
  refine bodyPost_ret (results_cell_row rfl _ _ (w.heap.size + 1 + 1) 24 #[.float .f64 x, .float .f64 y] (0, 0) _ rfl (HR.out.set _ _) Tryz.underlying24 rfl iv_info) rfl ?_
  first | exact ⟨rfl, below_store2 HB.out (by omega) _ _⟩ | exact ⟨rfl, (below_store2 HB.out (by omega) _ _).drew⟩
end Go.Proofs.YtcoclopllbfjcaaGreatDoor
